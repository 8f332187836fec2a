/-
  DepthOfExpr, in the model and in the program.
-/
import Derived.Test.YthpnghbhfbiljaaECount
namespace Go.Proofs.Ythpnghbhfbiljaa
open Go.ChangeShapes Go.WideShapes Go.ChangeAt Go.RowKit Go.Deep

set_option maxHeartbeats 1600000 in
set_option maxRecDepth 100000 in
theorem spec_l1MaxD (a b : Int) (w : World) : Calls Try.prog 53 #[.int .i64 a, .int .i64 b] w fun e w' => e = .returned (.int .i64 (max a b)) ∧ w = w' := by
  by_cases h : b < a
  · have HM := Lib.hid (show max a b = a by omega)
    go_enter Try.func53, Try.ntmps53
    go_wp2
    go_ret
    exact ⟨ret_i HM.out.symm, rfl⟩
  · have HM := Lib.hid (show max a b = b by omega)
    go_enter Try.func53, Try.ntmps53
    go_wp2
    go_ret
    exact ⟨ret_i HM.out.symm, rfl⟩

def SpecDepthOfExpr (x : DExpr) : Prop := ∀ ⦃lo hi c6 : Nat⦄ ⦃a6 : Option Addr⦄ (_hsz : x.sz ≤ 1048576) (w : World) (_hhi : hi ≤ w.heap.size) (_hs6 : Sl lo hi w 7 x.fArgs.length (ctE x.fArgs) a6),
  Calls Try.prog 37 #[.agg #[.int .i64 x.fKind, .int .i64 x.fN, .int .i64 x.fPos, .int .i64 x.fType, .string x.fSymbol, .string x.fName, .slice a6 x.fArgs.length c6]] w fun e w' => e = .returned (.int .i64 (depX x : Int)) ∧ Below w.heap.size w w'

set_option maxHeartbeats 1600000 in
set_option maxRecDepth 100000 in
theorem specDepthOfExpr_step (x : DExpr) (ih : ∀ a ∈ x.fArgs, SpecDepthOfExpr a) : SpecDepthOfExpr x := by
  intro lo hi c6 a6 hsz w hhi hs6
  have hn : x.fArgs.length ≤ 1048576 := by have h := hsz; rw [DExpr.sz_eq] at h; unfold lsz at h; omega
  have HZ := Lib.hid hsz
  have IH := Lib.hid ih
  have HS := Lib.hid hs6
  have hW0 : Below w.heap.size w (w.alloc (.cells #[.int .i64 x.fKind, .int .i64 x.fN, .int .i64 x.fPos, .int .i64 x.fType, .string x.fSymbol, .string x.fName, .slice a6 x.fArgs.length c6] 32)) := (Below.refl _ _).alloc (Nat.le_refl _) _
  have HW0 := Lib.hid hW0
  clear hsz ih hs6 hW0
  go_enter Try.func37, Try.ntmps37
  go_wp2
  go_loopw [3, 4] (fun n i wr => ∃ k : Nat, k ≤ x.fArgs.length ∧ i = .int .i64 (k : Int) ∧ n = .int .i64 (depL (x.fArgs.take k) : Int) ∧ Below (w.heap.size + 1) (w.alloc (.cells #[.int .i64 x.fKind, .int .i64 x.fN, .int .i64 x.fPos, .int .i64 x.fType, .string x.fSymbol, .string x.fName, .slice a6 x.fArgs.length c6] 32)) wr) (fun n i _ => x.fArgs.length - (intOf i).toNat)
  case atStart => exact ⟨0, Nat.zero_le _, rfl, rfl, Below.refl _ _⟩
  case round =>
    obtain ⟨k, hk, rfl, rfl, hbl⟩ := hrel
    have HB := Lib.hid hbl
    have p6 : wr.cell? ⟨w.heap.size, 6, none⟩ = some (.slice a6 x.fArgs.length c6) := (hbl.cell (p := ⟨w.heap.size, 6, none⟩) (Nat.lt_succ_self _)).trans (by go_simp)
    have hbw : Below w.heap.size w wr := HW0.out.trans (hbl.mono (Nat.le_succ _))
    have HBW := Lib.hid hbw
    have hsz1 : w.heap.size + 1 ≤ wr.heap.size := Nat.le_trans (by simp) hbl.size
    clear hbl
    by_cases hlt : k < x.fArgs.length
    · obtain ⟨rb, ro, rfl, _, hrb, hc⟩ := (HS.out.later (hbw.mono hhi) (Nat.le_refl _)).at k hlt
      rw [ctE_at hlt] at hc
      obtain ⟨a9, c9, hc0, hc1, hc2, hc3, hc4, hc5, hc6, hs9⟩ := DExpr.open hc
      have hszk := szle_at (f := DExpr.sz) x.fArgs k hlt
      have hszx := HZ.out
      rw [DExpr.sz_eq] at hszx
      have IK := Lib.hid (IH.out _ (getD_mem hlt))
      clear hbw hc
      have HC := Lib.hid (fun (W : World) (hW : Below wr.heap.size wr W) => IK.out (c6 := c9) (by omega) W (Nat.le_trans hhi (Nat.le_trans HBW.out.size hW.size)) (hs9.later (hW.mono (Nat.le_trans hhi HBW.out.size)) (Nat.le_refl _)))
      have HPS := Lib.hid (depL_take hlt)
      clear hs9 hszk hszx
      generalize depL (x.fArgs.take k) = D0 at *
      generalize x.fArgs.getD k default = y at *
      generalize depX y = D1 at *
      go_wp2_with fail
      refine (HC.out _ (Below.refl _ _)).mono ?_
      rintro e w1 ⟨rfl, hb1⟩
      have HB1 := Lib.hid (HB.out.trans (hb1.mono hsz1))
      clear hb1
      go_wp2_with fail
      refine (spec_l1MaxD _ _ _).mono ?_
      rintro e w2 ⟨rfl, rfl⟩
      go_wp2
      go_roundw
      case rel => exact ⟨k + 1, by omega, by go_num, by rw [HPS.out]; congr 1; omega, HB1.out⟩
      case measure => simp [intOf]; omega
    · obtain rfl : k = x.fArgs.length := by omega
      clear hbw
      have hd := depX_eq x
      have hdc := depX_cnt x
      have hcl := cntX_le x
      have HZ2 := HZ.out
      rw [List.take_of_length_le (Nat.le_refl _)]
      have FIN := Lib.hid (show (depL x.fArgs : Int) + 1 = (depX x : Int) by omega)
      have hb2 : (depL x.fArgs : Int) ≤ 1048577 := by omega
      clear hd hdc hcl HZ2
      go_wp2
      go_ret
      exact ⟨ret_i (by first | exact FIN.out | (rw [IntKind.wrap_i64]; have := FIN.out; omega)), HBW.out⟩
theorem spec_DepthOfExpr {lo hi c0_0 : Nat} {a6 : Option Addr} (x : DExpr) (_ : x.ok) (hsz : x.sz ≤ 1048576) (w : World) (hhi : hi ≤ w.heap.size) (hs6 : Sl lo hi w 7 x.fArgs.length (ctE x.fArgs) a6) :
    Calls Try.prog 37 #[.agg #[.int .i64 x.fKind, .int .i64 x.fN, .int .i64 x.fPos, .int .i64 x.fType, .string x.fSymbol, .string x.fName, .slice a6 x.fArgs.length c0_0]] w fun e w' => e = .returned (.int .i64 (depX x : Int)) ∧ Below w.heap.size w w' :=
  DExpr.ind (P := SpecDepthOfExpr) specDepthOfExpr_step x hsz w hhi hs6
end Go.Proofs.Ythpnghbhfbiljaa
