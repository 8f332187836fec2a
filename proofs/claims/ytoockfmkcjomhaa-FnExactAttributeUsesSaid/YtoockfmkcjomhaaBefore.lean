/-
  l4Before of the model.
-/
import Derived.Test.YtoockfmkcjomhaaOrdO
import Derived.Lib.Hide
namespace Go.Proofs.Ytoockfmkcjomhaa
open Go.ChangeShapes Go.WideShapes Go.ChangeAt Go.RowKit Go.Deep

set_option maxHeartbeats 6400000 in
set_option maxRecDepth 100000 in
theorem spec_l4Before (x y : DOccurrence) (w : World) :
    Calls Try.prog 31 #[.agg #[.int .i64 x.fPos, .string x.fName], .agg #[.int .i64 y.fPos, .string y.fName]] w fun e w' => e = .returned (.bool (ltO x y)) ∧ Below w.heap.size w w' := by
  have HB := Lib.hid (((Below.refl w.heap.size w).alloc (Nat.le_refl _) (.cells #[.int .i64 x.fPos, .string x.fName] 47)).alloc (by simp) (.cells #[.int .i64 y.fPos, .string y.fName] 47))
  have hv : ltO x y = (decide (x.fPos < y.fPos) || (decide (x.fPos = y.fPos) && Op.bytesLess x.fName.toList y.fName.toList)) := rfl
  rw [hv]
  clear hv
  by_cases h1 : x.fPos < y.fPos
  · have hd : decide (x.fPos < y.fPos) = true := decide_eq_true h1
    rw [hd]
    go_enter Try.func31, Try.ntmps31
    go_wp2
    go_ret
    exact ⟨by simp, HB.out⟩
  · by_cases h2 : x.fPos = y.fPos
    · rw [h2]
      rw [h2] at HB
      have hd : decide (y.fPos < y.fPos) = false := by simp
      rw [hd, decide_eq_true (rfl : y.fPos = y.fPos)]
      clear h1 h2
      generalize hb : Op.bytesLess x.fName.toList y.fName.toList = b
      go_enter Try.func31, Try.ntmps31
      go_wp2
      go_ret
      exact ⟨by simp, HB.out⟩
    · have hd : decide (x.fPos < y.fPos) = false := decide_eq_false h1
      have he : (x.fPos == y.fPos) = false := beq_eq_false_iff_ne.2 h2
      rw [hd, decide_eq_false h2]
      go_enter Try.func31, Try.ntmps31
      go_wp2
      go_ret
      exact ⟨by simp, HB.out⟩
end Go.Proofs.Ytoockfmkcjomhaa
