/-
  Chapter 3 in the model: what its laws draw: a kind, a value, an operator with two operands; of each only its range is told.
-/
import Derived.Test.YtgpmmlbinmdfmaaGreatDoorPick
import Derived.Test.YtgpmmlbinmdfmaaGreatDoorBig
import Derived.Test.YtgpmmlbinmdfmaaGreatDoorApply
namespace Go.Proofs.YtgpmmlbinmdfmaaGreatDoor
open Go.ChangeShapes Go.WideShapes Go.ChangeAt Go.RowKit

def anys : List Int := [0, 1, 2, -1, 11, 12, 4095, 4096, 1000000, 1000001, -1000001, 999, 9223372036854775807, -9223372036854775808, 5]
theorem anys_in : ∀ x ∈ anys, -9223372036854775808 ≤ x ∧ x ≤ 9223372036854775807 := by decide
def knds : List Int := [1, 2, 3, 4, 1, 2, 0, 5]
theorem knds_in : ∀ x ∈ knds, 0 ≤ x ∧ x ≤ 5 := by decide
def tops : List Int := [1000000, -1000000, 999999, 1000]
theorem tops_in : ∀ x ∈ tops, -1000000 ≤ x ∧ x ≤ 1000000 := by decide

set_option maxRecDepth 100000 in
theorem spec_l3Any {B C : Nat} {a : Option Addr} {len cap : Nat} (w : World) (hc : Cur B C a len cap w) :
    Calls Tryz.prog 35 #[.pointer (some ⟨C, 0, none⟩)] w fun e w' => ∃ x : Int, e = .returned (.int .i64 x) ∧ -9223372036854775808 ≤ x ∧ x ≤ 9223372036854775807 ∧ Cur B C a len cap w' ∧ Writes C w w' := by
  have HC := Lib.hid hc
  clear hc
  go_enter Tryz.func35, Tryz.ntmps35
  go_wp2_with fail
  refine (pick_int_new w HC.out anys (by decide) (by decide) 3).mono ?_
  rintro e w2 ⟨j, hj, rfl, hc2, hw2⟩
  have hb := anys_in _ (getD_mem (d := 0) anys j hj)
  generalize anys.getD j 0 = y at hb
  go_wp2
  go_ret
  exact ⟨_, rfl, hb.1, hb.2, hc2, hw2⟩

set_option maxRecDepth 100000 in
theorem spec_l3Kind {B C : Nat} {a : Option Addr} {len cap : Nat} (w : World) (hc : Cur B C a len cap w) :
    Calls Tryz.prog 33 #[.pointer (some ⟨C, 0, none⟩)] w fun e w' => ∃ x : Int, e = .returned (.int .i64 x) ∧ 0 ≤ x ∧ x ≤ 5 ∧ Cur B C a len cap w' ∧ Writes C w w' := by
  have HC := Lib.hid hc
  clear hc
  go_enter Tryz.func33, Tryz.ntmps33
  go_wp2_with fail
  refine (pick_int_new w HC.out knds (by decide) (by decide) 3).mono ?_
  rintro e w2 ⟨j, hj, rfl, hc2, hw2⟩
  have hb := knds_in _ (getD_mem (d := 0) knds j hj)
  generalize knds.getD j 0 = y at hb
  go_wp2
  go_ret
  exact ⟨_, rfl, hb.1, hb.2, hc2, hw2⟩

set_option maxHeartbeats 1000000 in
set_option maxRecDepth 100000 in
theorem spec_l3Value {B C : Nat} {a : Option Addr} {len cap : Nat} (k : Int) (w : World) (hc : Cur B C a len cap w) :
    Calls Tryz.prog 27 #[.pointer (some ⟨C, 0, none⟩), .int .i64 k] w fun e w' => ∃ x : Int, e = .returned (.int .i64 x) ∧ -1000000 ≤ x ∧ x ≤ 1000000 ∧ Cur B C a len cap w' ∧ Writes C w w' := by
  have HC := Lib.hid hc
  clear hc
  rcases (by omega : k = 2 ∨ k = 3 ∨ k = 4 ∨ (¬ k = 2 ∧ ¬ k = 3 ∧ ¬ k = 4)) with rfl | rfl | rfl | ⟨h2, h3, h4⟩
  · go_enter Tryz.func27, Tryz.ntmps27
    go_wp2_with fail
    refine (draw_below _ HC.out 4096 (by decide)).mono ?_
    rintro e w2 ⟨y, rfl, hy0, hy1, hc2, hw2⟩
    go_wp2
    go_ret
    exact ⟨_, rfl, by omega, by omega, hc2, hw2⟩
  · go_enter Tryz.func27, Tryz.ntmps27
    go_wp2_with fail
    refine (draw_below _ HC.out 2 (by decide)).mono ?_
    rintro e w2 ⟨y, rfl, hy0, hy1, hc2, hw2⟩
    go_wp2
    go_ret
    exact ⟨_, rfl, by omega, by omega, hc2, hw2⟩
  · go_enter Tryz.func27, Tryz.ntmps27
    go_wp2_with fail
    refine (draw_below _ HC.out 12 (by decide)).mono ?_
    rintro e w2 ⟨y, rfl, hy0, hy1, hc2, hw2⟩
    go_wp2
    go_ret
    exact ⟨_, rfl, by omega, by omega, hc2, hw2⟩
  · have e2 : (k == 2) = false := beq_eq_false_iff_ne.2 h2
    have e3 : (k == 3) = false := beq_eq_false_iff_ne.2 h3
    have e4 : (k == 4) = false := beq_eq_false_iff_ne.2 h4
    clear h2 h3 h4
    go_enter Tryz.func27, Tryz.ntmps27
    go_wp2_with fail
    refine (draw_once _ HC.out 8 (by decide)).mono ?_
    rintro e w2 ⟨x, rfl, hc2, hw2⟩
    have HC2 := Lib.hid hc2
    have HW2 := Lib.hid hw2
    clear hc2 hw2
    cases x
    · go_wp2_with fail
      refine (draw_below _ HC2.out 15 (by decide)).mono ?_
      rintro e w3 ⟨y, rfl, hy0, hy1, hc3, hw3⟩
      go_wp2
      go_ret
      exact ⟨_, rfl, by omega, by omega, hc3, HW2.out.trans hw3⟩
    · go_wp2_with fail
      refine (pick_int_new w2 HC2.out tops (by decide) (by decide) 3).mono ?_
      rintro e w3 ⟨j, hj, rfl, hc3, hw3⟩
      have hb := tops_in _ (getD_mem (d := 0) tops j hj)
      generalize tops.getD j 0 = y at hb
      go_wp2
      go_ret
      exact ⟨_, rfl, hb.1, hb.2, hc3, HW2.out.trans hw3⟩

set_option maxHeartbeats 1000000 in
set_option maxRecDepth 100000 in
theorem DrawIsOfType {B : Nat} {a : Option Addr} {len cap : Nat} (w : World) (hB : B ≤ w.heap.size) (hl : len ≤ 1048576) (hc : Code B w a len) :
    Calls Tryz.prog 13 #[.slice a len cap] w fun e w' => ∃ v k : Int, e = .returned (.tuple #[.int .i64 v, .int .i64 k]) ∧ -9223372036854775808 ≤ v ∧ v ≤ 9223372036854775807 ∧ 0 ≤ k ∧ k ≤ 5 ∧ Below w.heap.size w w' := by
  have HC := Lib.hid hc
  clear hc
  go_enter Tryz.func13, Tryz.ntmps13
  go_wp2_with fail
  refine (draw_new _ hB hl HC.out).mono ?_
  rintro e w1 ⟨C, rfl, hC, hc1, hb1⟩
  have HC1 := Lib.hid hc1
  have HB1 := Lib.hid hb1
  clear hc1 hb1
  go_wp2_with fail
  refine (spec_l3Kind _ HC1.out).mono ?_
  rintro e w2 ⟨k, rfl, hk0, hk1, hc2, hw2⟩
  have HC2 := Lib.hid hc2
  have HB2 := Lib.hid (HB1.out.trans ((hw2.below HC1.out.lt).mono hC))
  clear hc2 hw2
  go_wp2_with fail
  refine (draw_once _ HC2.out 2 (by decide)).mono ?_
  rintro e w3 ⟨x, rfl, hc3, hw3⟩
  have HC3 := Lib.hid hc3
  have HB3 := Lib.hid (HB2.out.trans ((hw3.below HC2.out.lt).mono hC))
  clear hc3 hw3
  cases x
  · go_wp2_with fail
    refine (spec_l3Value k _ HC3.out).mono ?_
    rintro e w4 ⟨v, rfl, hv0, hv1, hc4, hw4⟩
    have HB4 := Lib.hid (HB3.out.trans ((hw4.below HC3.out.lt).mono hC))
    clear hc4 hw4
    go_wp2
    go_ret2
    exact ⟨_, _, rfl, by omega, by omega, hk0, hk1, HB4.out⟩
  · go_wp2_with fail
    refine (spec_l3Any _ HC3.out).mono ?_
    rintro e w4 ⟨v, rfl, hv0, hv1, hc4, hw4⟩
    have HB4 := Lib.hid (HB3.out.trans ((hw4.below HC3.out.lt).mono hC))
    clear hc4 hw4
    go_wp2
    go_ret2
    exact ⟨_, _, rfl, hv0, hv1, hk0, hk1, HB4.out⟩
end Go.Proofs.YtgpmmlbinmdfmaaGreatDoor
