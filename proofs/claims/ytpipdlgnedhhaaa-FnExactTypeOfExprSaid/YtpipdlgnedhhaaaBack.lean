/-
  slices.Backward over the nodes of an expression: what a loop over it is told of its rounds.
-/
import Derived.Test.YtpipdlgnedhhaaaECount
import Derived.Test.YtpipdlgnedhhaaaRangeOn
import Derived.RangeFuncNested
import Derived.RangeFuncBound
import Derived.RangeFuncCalls
import Derived.RangeFuncLeaves
import Derived.Shelf.Abstract
import Derived.Shelf.RegionOpen
import Derived.WalkKit
import Derived.OwnWalkIn
import Derived.TacticsInMore
import Derived.LoopNIn
import Derived.LoopIn
namespace Go.Proofs.Ytpipdlgnedhhaaa
open Go.ChangeShapes Go.WideShapes Go.ChangeAt Go.RowKit Go.Deep

/-- A node by value. -/
def ENode.agg (n : ENode) : Value := .agg #[.int .i64 n.fKind, .int .i64 n.fN, .int .i64 n.fPos, .int .i64 n.fType, .string n.fSymbol, .string n.fName, .int .i64 n.fArgs, .int .i64 n.fDepth]

/-- The cells of the blocks that P names lie as they lay. -/
def KeepsAt (P : Nat → Prop) (A B : World) : Prop := ∀ b o, P b → B.cell? ⟨b, o, none⟩ = A.cell? ⟨b, o, none⟩

theorem KeepsAt.refl {P : Nat → Prop} {A : World} : KeepsAt P A A := fun _ _ _ => rfl

theorem KeepsAt.trans {P : Nat → Prop} {A B C : World} (h : KeepsAt P A B) (k : KeepsAt P B C) : KeepsAt P A C := fun b o hb => (k b o hb).trans (h b o hb)

set_option maxRecDepth 100000 in
set_option maxHeartbeats 2000000 in
theorem back1_on (F : Fence) (n : Nat) (hf : F.fn 74) (hro : F.round = none) (hn : 1 ≤ n) (l Bs c B : Nat) (a : Option Addr) (N : List ENode) (hnl : N.length ≤ 1048577) (P : Nat → Prop) (J : Nat → World → Prop)
    (hY : ∀ k W, k < N.length → J k W → YieldAt F (n - 1) Try.prog l #[.int .i64 ((N.length - 1 - k : Nat) : Int), (N.getD (N.length - 1 - k) default).agg] W fun e W' => e = .returned (.bool true) ∧ J (k + 1) W' ∧ KeepsAt P W W')
    (W : World) (hPB : P Bs) (hPg : ∀ g o, a = some ⟨g, o, none⟩ → P g) (hBs : W.cell? ⟨Bs, 0, none⟩ = some (.slice a N.length c)) (hown : W.ownsRow B 79 8 (.slice a N.length c) N.length (nodeCells N)) (h0 : J 0 W) :
    CallsIn F n Try.prog 74 #[.func (.yield l) #[] #[], .pointer (some ⟨Bs, 0, none⟩)] W fun e W' => (∃ v, e = .returned v) ∧ J N.length W' := by
  have HO := Lib.hid hown
  clear hown
  refine callsIn_of_wp Try.func74 rfl hf ?_ hro
  simp only [Try.ntmps74, List.size_toArray, List.length_cons, List.length_nil, Nat.reduceAdd, Nat.reduceSub, Array.replicate_succ, Array.replicate_zero, List.push_toArray, List.append_toArray, List.nil_append, List.cons_append]
  gi_wp2
  gi_loopw [3] (fun i wr => ∃ k m : Nat, k + m = N.length ∧ i = .int .i64 ((m : Int) - 1) ∧ J k wr ∧ KeepsAt P W wr)
    (fun i _ => (intOf i + 1).toNat)
  case atStart => exact ⟨0, N.length, by omega, by first | rfl | (congr 1; omega) | (go_num; omega), h0, KeepsAt.refl⟩
  case round =>
    obtain ⟨k, m, hkm, rfl, hJs, hnx⟩ := hrel
    have hbs := (hnx Bs 0 hPB).trans hBs
    cases m with
    | zero =>
      obtain rfl : k = N.length := by omega
      have e0 : ((0 : Nat) : Int) - 1 = -1 := rfl
      rw [e0]
      gi_wp2
      go_end0
      exact ⟨⟨_, rfl⟩, hJs⟩
    | succ m =>
      have hlt : m < N.length := by omega
      have em : N.length - 1 - k = m := by omega
      have e0 : ((m + 1 : Nat) : Int) - 1 = (m : Int) := by omega
      rw [e0]
      obtain ⟨g, c2, e2, _, _⟩ := own_some HO.out (by omega)
      simp only [Value.slice.injEq, true_and] at e2
      obtain ⟨rfl, rfl⟩ := e2
      obtain ⟨d0, d1, d2, d3, d4, d5, d6, d7⟩ := own_nodes HO.out hlt
      have hg := hnx g
      have f0 := (hg _ (hPg g 0 rfl)).trans d0
      have f1 := (hg _ (hPg g 0 rfl)).trans d1
      have f2 := (hg _ (hPg g 0 rfl)).trans d2
      have f3 := (hg _ (hPg g 0 rfl)).trans d3
      have f4 := (hg _ (hPg g 0 rfl)).trans d4
      have f5 := (hg _ (hPg g 0 rfl)).trans d5
      have f6 := (hg _ (hPg g 0 rfl)).trans d6
      have f7 := (hg _ (hPg g 0 rfl)).trans d7
      clear d0 d1 d2 d3 d4 d5 d6 d7 hg
      obtain ⟨fn, tmps, assign, body, hy, hR⟩ := hY k wr (by omega) hJs
      rw [em] at hy
      dsimp only [ENode.agg] at hy
      generalize N.getD m default = nd at *
      gi_wp2
      refine hR.mono ?_
      rintro e W3 ⟨rfl, hJ3, hk3⟩
      gi_wp2
      go_roundw
      case rel => exact ⟨k + 1, m, by omega, by first | rfl | (congr 1; omega) | go_num, hJ3, hnx.trans hk3⟩
      case measure => simp [intOf]; try omega

/-- What a loop over the nodes from the last on is told, whose rounds keep the blocks that P names. -/
theorem back_on (F : Fence) (n : Nat) (hf : F.fn 74) (hro : F.round = none) (hn : 1 ≤ n) (Bs c B : Nat) (a : Option Addr) (N : List ENode) (hnl : N.length ≤ 1048577) (P : Nat → Prop) (w : World) (hPB : P Bs) (hPg : ∀ g o, a = some ⟨g, o, none⟩ → P g) (hlt : Bs < w.heap.size) (hBs : w.cell? ⟨Bs, 0, none⟩ = some (.slice a N.length c)) (hown : w.ownsRow B 79 8 (.slice a N.length c) N.length (nodeCells N)) :
    SeqOn F n Try.prog 74 #[.pointer (some ⟨Bs, 0, none⟩)] (fun k => #[.int .i64 ((N.length - 1 - k : Nat) : Int), (N.getD (N.length - 1 - k) default).agg]) N.length (KeepsAt P) w := fun l J W hW _ hY h0 =>
  back1_on F n hf hro hn l Bs c B a N hnl P J (fun k W h1 h2 => hY k W h1 h2) W hPB hPg ((hW.cell (p := ⟨Bs, 0, none⟩) hlt).trans hBs) (ownsRow_below hown hW) h0

set_option maxHeartbeats 1000000 in
/-- slices.Backward: the slice is boxed; the function value holds the box. -/
theorem back_in (F : Fence) (n : Nat) (hf : F.fn 58) (hro : F.round = none) (a : Option Addr) (len cap : Nat) (w : World) :
    CallsIn F n Try.prog 58 #[.slice a len cap] w fun e w' => e = .returned (.func (.func 74) #[] #[.pointer (some ⟨w.heap.size, 0, none⟩)]) ∧ w' = w.alloc (.cells #[.slice a len cap] 124) := by
  refine callsIn_of_wp Try.func58 rfl hf ?_ hro
  simp only [Try.ntmps58, List.size_toArray, List.length_cons, List.length_nil, Nat.reduceAdd, Nat.reduceSub, Array.replicate_succ, Array.replicate_zero, List.push_toArray, List.append_toArray, List.nil_append, List.cons_append]
  gi_wp2
  go_ret
  exact ⟨rfl, rfl⟩

/-- What KeepsAt asks of the loop's own book-keeping. -/
theorem keepsAt_b {P : Nat → Prop} {w : World} (hP : ∀ b, P b → b < w.heap.size) (W : World) (l : Nat) (o o' : Obj) (hl : w.heap.size ≤ l) (_ : W.heap[l]? = some o) (_ : o.isCells = false) (_ : o.isWalk = false) : KeepsAt P W (W.putObj l o') := by
  intro b off hb
  have h1 := hP b hb
  have h2 : b ≠ l := by omega
  unfold World.cell?
  simp [World.putObj, Ne.symm h2]
end Go.Proofs.Ytpipdlgnedhhaaa
