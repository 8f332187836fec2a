/-
  EqualRelation of the model.
-/
import Derived.Test.YtkfonlejblcknaaRelEq
namespace Go.Proofs.Ytkfonlejblcknaa
open Go.ChangeShapes Go.WideShapes Go.ChangeAt Go.RowKit Go.Deep

def relEq (a b : DRelation) : Bool := a.fN == b.fN && decide (a.fRows = b.fRows)
set_option maxHeartbeats 1600000 in
set_option maxRecDepth 100000 in
theorem spec_EqualRelation {lo hi c0_0 c1_0 : Nat} {a0 b0 : Option Addr} (a : DRelation) (_ : a.ok) (hsz : a.sz ≤ 1048576) (b : DRelation) (_ : b.ok) (hszb : b.sz ≤ 1048576) (w : World) (hhi : hi ≤ w.heap.size) (hs : Sl lo hi w 1 a.fRows.length (fun k => ictI (a.fRows.getD k default)) a0) (hsb : Sl lo hi w 1 b.fRows.length (fun k => ictI (b.fRows.getD k default)) b0) :
    Calls Try.prog 7 #[.agg #[.int .i64 a.fN, .slice a0 a.fRows.length c0_0], .agg #[.int .i64 b.fN, .slice b0 b.fRows.length c1_0]] w fun e w' => e = .returned (.bool (relEq a b)) ∧ Below w.heap.size w w' := by
  have hl : a.fRows.length ≤ 1048576 := by unfold DRelation.sz lsz at hsz; omega
  have hm : b.fRows.length ≤ 1048576 := by unfold DRelation.sz lsz at hszb; omega
  clear hsz hszb
  unfold relEq
  generalize a.fRows = l at *
  generalize b.fRows = m at *
  generalize a.fN = x at *
  generalize b.fN = y at *
  have HB := Lib.hid (((Below.refl w.heap.size w).alloc (Nat.le_refl _) (.cells #[.int .i64 x, .slice a0 l.length c0_0] 27)).alloc (by simp) (.cells #[.int .i64 y, .slice b0 m.length c1_0] 27))
  have HI := Lib.hid (spec_l1Ints (cap := c0_0) (cap2 := c1_0) l m hl hm _ (hs.later HB.out hhi) (hsb.later HB.out hhi))
  clear hs hsb
  by_cases hN : x = y
  · have HF : Hid ((x == y && decide (l = m)) = decide (l = m)) := by show _ = _; rw [beq_iff_eq.2 hN, Bool.true_and]
    have e0 : (x == y) = true := beq_iff_eq.2 hN
    rw [HF.out]
    generalize decide (l = m) = d at *
    clear hN
    go_enter Try.func7, Try.ntmps7
    go_wp2_with fail
    refine HI.out.mono ?_
    rintro e w1 ⟨rfl, q, rfl⟩
    go_wp2
    go_ret
    exact ⟨rfl, below_drewN HB.out _⟩
  · have e0 : (x == y) = false := beq_eq_false_iff_ne.2 hN
    have FIN := Lib.hid (show ∀ d : Bool, (x == y && d) = false from fun d => by rw [e0]; rfl)
    go_enter Try.func7, Try.ntmps7
    go_wp2
    go_ret
    exact ⟨by rw [FIN.out]; rfl, HB.out⟩
end Go.Proofs.Ytkfonlejblcknaa
