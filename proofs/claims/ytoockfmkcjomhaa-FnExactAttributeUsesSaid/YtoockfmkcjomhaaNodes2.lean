/-
  The steps into an expression: stepsInto.
-/
import Derived.Test.YtoockfmkcjomhaaENode
import Derived.Test.YtoockfmkcjomhaaPSet
import Derived.BigRegion
import Derived.Deep.RegionHeld3
import Derived.Deep.AppendLies
import Derived.IntWalk
import Derived.Laws.AppendOwn
import Derived.Laws.OwnMore
import Derived.OwnWalk
namespace Go.Proofs.Ytoockfmkcjomhaa
open Go.ChangeShapes Go.WideShapes Go.ChangeAt Go.RowKit Go.Deep

def stepCells (S : List Stp) : List Value := S.flatMap Stp.vals
theorem stepCells_len : ∀ S : List Stp, (stepCells S).length = S.length * 3
  | [] => rfl
  | s :: S => by
    have h := stepCells_len S
    unfold stepCells at h ⊢
    rw [List.flatMap_cons, List.length_append, h, List.length_cons]
    unfold Stp.vals
    simp
    omega
theorem stepCells_append (S T : List Stp) : stepCells (S ++ T) = stepCells S ++ stepCells T := by unfold stepCells; rw [List.flatMap_append]
/-- What stepsInto returns: the way out first, then the args, the last one first. -/
def intoOf (b off rb ro d : Nat) (x : DExpr) : List Stp := ⟨b, off, x, 0, true⟩ :: (enters rb ro (d + 1) 0 x.fArgs).reverse
theorem intoOf_len (b off rb ro d : Nat) (x : DExpr) : (intoOf b off rb ro d x).length = x.fArgs.length + 1 := by
  unfold intoOf; rw [List.length_cons, List.length_reverse, enters_len]
theorem intoOf_take {b off rb ro d : Nat} {x : DExpr} {k : Nat} (h : k < x.fArgs.length) :
    stepCells ((intoOf b off rb ro d x).take (k + 1 + 1)) = stepCells ((intoOf b off rb ro d x).take (k + 1)) ++ [.pointer (some ⟨rb, ro + (x.fArgs.length - 1 - k) * 7, none⟩), .int .i64 ((d : Int) + 1), .bool false] := by
  have hk : (intoOf b off rb ro d x)[k + 1]? = some ⟨rb, ro + (x.fArgs.length - 1 - k) * 7, x.fArgs.getD (x.fArgs.length - 1 - k) default, d + 1, false⟩ := by
    unfold intoOf
    rw [List.getElem?_cons_succ, List.getElem?_reverse (by rw [enters_len]; exact h), enters_len, enters_at _ _ _ _ _ _ (by omega), Nat.zero_add]
  rw [List.take_add_one, hk, stepCells_append]
  rfl
theorem intoOf_one (b off rb ro d : Nat) (x : DExpr) : stepCells ((intoOf b off rb ro d x).take (0 + 1)) = [.pointer (some ⟨b, off, none⟩), .int .i64 0, .bool true] := rfl

theorem info_step : (Try.prog.info? 67).map (fun i => (i.zero, i.size, i.bytes)) = some (some (.agg #[.pointer none, .int .i64 0, .bool false]), 3, 24) := by kernel_rfl

theorem cells_new {w : World} {cs : List Value} {t : TypeId} : ∀ (j : Nat) (u : Value), cs[j]? = some u → (w.alloc (.cells cs.toArray t)).cell? ((⟨w.heap.size, 0, none⟩ : Addr).add j) = some u := by
  intro j u hu
  rw [Go.WideShapes.add_plain, Nat.zero_add, World.cell?_alloc_new]
  simpa using hu

set_option maxHeartbeats 3200000 in
set_option maxRecDepth 100000 in
theorem impl_stepsInto {b off c6 rb ro : Nat} {a6 : Option Addr} (x : DExpr) (d : Nat) (hn : x.fArgs.length ≤ 2097152) (hd : d ≤ 1099511627776) (w : World)
    (hc6 : w.cell? ⟨b, off + 6, none⟩ = some (.slice a6 x.fArgs.length c6)) (ha : 0 < x.fArgs.length → a6 = some ⟨rb, ro, none⟩) :
    Calls Try.prog 33 #[.agg #[.pointer (some ⟨b, off, none⟩), .int .i64 (d : Int), .bool false]] w fun e w' => ∃ v, e = .returned v ∧ w'.ownsRow w.heap.size 67 3 v (x.fArgs.length + 1) (stepCells (intoOf b off rb ro d x)) ∧ Below w.heap.size w w' := by
  obtain ⟨i0, hi', hz0, hz1, hz2⟩ := info_parts info_step
  have hb : b < w.heap.size := cell_block_lt hc6
  have HC := Lib.hid hc6
  have HA := Lib.hid ha
  have hlen := intoOf_len b off rb ro d x
  have HLEN := Lib.hid hlen
  clear hlen ha
  go_enter Try.func33, Try.ntmps33
  go_wp2
  have HO0 := Lib.hid (World.ownsRow_lit (base := w.heap.size + 1) (size := 3) (e := 67) (w.alloc (.cells #[.pointer (some ⟨b, off, none⟩), .int .i64 (d : Int), .bool false] 67)) #[.pointer (some ⟨b, off, none⟩), .int .i64 0, .bool true] 1 (by simp) (by decide) rfl)
  go_loopw [3, 15] (fun v i wr => ∃ k : Nat, k ≤ x.fArgs.length ∧ i = .int .i64 (k : Int) ∧ wr.ownsRow (w.heap.size + 1) 67 3 v (k + 1) (stepCells ((intoOf b off rb ro d x).take (k + 1))) ∧ Below (w.heap.size + 1) (w.alloc (.cells #[.pointer (some ⟨b, off, none⟩), .int .i64 (d : Int), .bool false] 67)) wr) (fun _ i _ => x.fArgs.length - (intOf i).toNat)
  case atStart => exact ⟨0, Nat.zero_le _, rfl, by rw [intoOf_one]; simpa using HO0.out, (Below.refl _ _).alloc (by simp) _⟩
  case round =>
    obtain ⟨k, hk, rfl, hown, hbl⟩ := hrel
    have HO := Lib.hid hown
    have HB := Lib.hid hbl
    have p0 : wr.cell? ⟨w.heap.size, 0, none⟩ = some (.pointer (some ⟨b, off, none⟩)) := (hbl.cell (p := ⟨w.heap.size, 0, none⟩) (by simp)).trans (by go_simp)
    have p1 : wr.cell? ⟨w.heap.size, 1, none⟩ = some (.int .i64 (d : Int)) := (hbl.cell (p := ⟨w.heap.size, 1, none⟩) (by simp)).trans (by go_simp)
    have p2 : wr.cell? ⟨b, off + 6, none⟩ = some (.slice a6 x.fArgs.length c6) := (hbl.cell (p := ⟨b, off + 6, none⟩) (by simp; omega)).trans ((((Below.refl _ _).alloc (Nat.le_refl _) _).cell (p := ⟨b, off + 6, none⟩) hb).trans HC.out)
    have hsz : w.heap.size + 1 ≤ wr.heap.size := Nat.le_trans (by simp) hbl.size
    clear hown hbl
    by_cases hlt : k < x.fArgs.length
    · have HT := Lib.hid (intoOf_take (b := b) (off := off) (rb := rb) (ro := ro) (d := d) hlt)
      obtain rfl := HA.out (by omega)
      have hne : ∀ q, q ≤ w.heap.size → u3.ownBlock ≠ some q := fun q hq e => by have := (HO.out.lt q e).1; omega
      have av := Lib.hid (hne w.heap.size (Nat.le_refl _))
      have ab := Lib.hid (hne b (by omega))
      clear hne
      go_wp2
      obtain ⟨j, hj⟩ : ∃ j : Nat, x.fArgs.length - 1 - k = j := ⟨_, rfl⟩
      rw [hj] at HT
      have q1 : IntKind.i64.wrap ((x.fArgs.length : Int) - 1) = (x.fArgs.length : Int) - 1 := IntWalk.i64_in _ (by omega)
      have q2 : IntKind.i64.wrap ((x.fArgs.length : Int) - 1 - (k : Int)) = (j : Int) := (IntWalk.i64_in _ (by omega)).trans (by omega)
      have q3 : IntKind.i64.wrap ((d : Int) + 1) = (d : Int) + 1 := IntWalk.i64_in _ (by omega)
      have q4 : (0 : Int) ≤ (j : Int) := by omega
      have q5 : (j : Int) < (x.fArgs.length : Int) := by omega
      clear hj
      go_region_held3 (fun w' => w'.cell? ⟨w.heap.size, 0, none⟩ = some (.pointer (some ⟨b, off, none⟩)) ∧ w'.cell? ⟨w.heap.size, 1, none⟩ = some (.int .i64 (d : Int)) ∧ w'.cell? ⟨b, off + 6, none⟩ = some (.slice (some ⟨rb, ro, none⟩) x.fArgs.length c6))
        (first
          | go_keep
          | (go_split_ands
             refine ⟨?_, ?_, ?_⟩
             · (rw [hgrow.cell_far _ (by simp; omega) (Ne.symm av.out)]; assumption)
             · (rw [hgrow.cell_far _ (by simp; omega) (Ne.symm av.out)]; assumption)
             · (rw [hgrow.cell_far _ (by simp; omega) (Ne.symm ab.out)]; assumption)))
        ((refine step_append_lies _ (by rfl) _ _ _ (by rfl) (w.heap.size + 1) 67 i0 _ 3 24 Try.underlying68 hi' hz0 hz1 hz2 rfl (by omega) u3 (k + 1) _ (by rfl) ((HO.out.alloc _).drew)
            ⟨wr.heap.size, 0, none⟩ 1 1 [.pointer (some ⟨rb, ro + j * 7, none⟩), .int .i64 ((d : Int) + 1), .bool false] (by rfl) (by rfl) (World.news_of_block (cs := #[.pointer (some ⟨rb, ro + j * 7, none⟩), .int .i64 ((d : Int) + 1), .bool false]) (t := 67) (fr := (0, 0)) (heap_alloc_new wr _)) (by simp [Value.oneCell'])
            (by omega) (by unfold maxLen; omega) (by omega) (by simp; omega) (wr.heap.size + 1) (by simp) ?_; intro gg cap w1 hown1 hgrow hat hlt))
      have R1 := Lib.hid (show w1.ownsRow (w.heap.size + 1) 67 3 (.slice (some ⟨gg, 0, none⟩) (k + 1 + 1) cap) (k + 1 + 1) (stepCells ((intoOf b off rb ro d x).take (k + 1 + 1))) from by rw [HT.out]; exact hown1)
      have R3 := Lib.hid (((HB.out.alloc (by omega) _).drew).grown hgrow (by simp; omega) (fun g hg => (HO.out.lt g hg).1))
      clear hown1 hgrow hat hlt q1 q2 q3 q4 q5
      go_wp2
      go_roundw
      case rel => exact ⟨k + 1, by omega, by go_num, R1.out, R3.out⟩
      case measure => simp [intOf]; omega
    · obtain rfl : k = x.fArgs.length := by omega
      have R1 := Lib.hid (show wr.ownsRow w.heap.size 67 3 u3 (x.fArgs.length + 1) (stepCells (intoOf b off rb ro d x)) from by
        have h := HO.out
        rw [List.take_of_length_le (by rw [HLEN.out]; exact Nat.le_refl _)] at h
        refine ⟨h.1, h.2.imp id ?_⟩
        rintro ⟨g, cap, cur, h1, h2, h3⟩
        exact ⟨g, cap, cur, h1, by omega, h3⟩)
      have R3 := Lib.hid (((Below.refl w.heap.size w).alloc (Nat.le_refl _) (.cells #[.pointer (some ⟨b, off, none⟩), .int .i64 (d : Int), .bool false] 67)).trans (HB.out.mono (Nat.le_succ _)))
      go_wp2
      go_ret
      exact ⟨_, rfl, R1.out, R3.out⟩
end Go.Proofs.Ytoockfmkcjomhaa
