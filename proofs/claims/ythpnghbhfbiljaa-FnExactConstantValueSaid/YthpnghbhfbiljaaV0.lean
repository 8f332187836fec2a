/-
  Chapter 3, small things: Saturate and the helpers on integers that it calls.
-/
import Derived.Test.YthpnghbhfbiljaaInR
import Derived.WalkSpells
import Derived.WalkSmall
import Derived.WalkLawsBesides
import Derived.Lib.Hide
namespace Go.Proofs.Ythpnghbhfbiljaa
open Go.ChangeShapes Go.WideShapes Go.ChangeAt Go.RowKit

theorem ret_i64 {a b : Int} (h : a = b) : Ending.returned (.int .i64 a) = .returned (.int .i64 b) := by rw [h]

def mx (a b : Int) : Int := if b < a then a else b
def mn (a b : Int) : Int := if a < b then a else b
theorem mx_l {a b : Int} (h : b < a) : mx a b = a := if_pos h
theorem mx_r {a b : Int} (h : a ≤ b) : mx a b = b := if_neg (by omega)
theorem mn_l {a b : Int} (h : a < b) : mn a b = a := if_pos h
theorem mn_r {a b : Int} (h : b ≤ a) : mn a b = b := if_neg (by omega)

theorem spec_l1Max (a b : Int) (w : World) :
    Calls Try.prog 53 #[.int .i64 a, .int .i64 b] w fun e w' => e = .returned (.int .i64 (mx a b)) ∧ w = w' := by
  by_cases h : b < a
  all_goals
    go_enter Try.func53, Try.ntmps53
    go_wp2
    go_ret
    exact ⟨ret_i64 (by first | rw [mx_l (by omega)] | rw [mx_r (by omega)]), rfl⟩

theorem spec_l1Min (a b : Int) (w : World) :
    Calls Try.prog 58 #[.int .i64 a, .int .i64 b] w fun e w' => e = .returned (.int .i64 (mn a b)) ∧ w = w' := by
  by_cases h : a < b
  all_goals
    go_enter Try.func58, Try.ntmps58
    go_wp2
    go_ret
    exact ⟨ret_i64 (by first | rw [mn_l (by omega)] | rw [mn_r (by omega)]), rfl⟩

/-- x, limited to the range of the numbers. -/
def sat (x : Int) : Int := if x < -1000000 then -1000000 else if 1000000 < x then 1000000 else x
theorem sat_le (x : Int) : -1000000 ≤ sat x ∧ sat x ≤ 1000000 := by unfold sat; split <;> (try split) <;> omega
theorem sat_id {x : Int} (h : -1000000 ≤ x) (h' : x ≤ 1000000) : sat x = x := by unfold sat; rw [if_neg (by omega), if_neg (by omega)]
theorem sat_lo {x : Int} (h : x < -1000000) : sat x = -1000000 := by unfold sat; rw [if_pos h]
theorem sat_hi {x : Int} (h : 1000000 < x) : sat x = 1000000 := by unfold sat; rw [if_neg (by omega), if_pos h]
theorem sat_mm (x : Int) : mx (-1000000) (mn 1000000 x) = sat x := by unfold mx mn sat; split <;> split <;> (try split) <;> omega

theorem spec_Saturate (a : Int) (w : World) :
    Calls Try.prog 57 #[.int .i64 a] w fun e w' => e = .returned (.int .i64 (sat a)) ∧ w = w' := by
  go_enter Try.func57, Try.ntmps57
  go_wp2_with fail
  refine (spec_l1Min _ _ _).mono ?_
  rintro e w1 ⟨rfl, rfl⟩
  go_wp2_with fail
  refine (spec_l1Max _ _ _).mono ?_
  rintro e w1 ⟨rfl, rfl⟩
  go_wp2
  go_ret
  exact ⟨ret_i64 (sat_mm a), rfl⟩

theorem impl_Saturate (a : Int) (w : World) :
    Calls Try.prog 78 #[.int .i64 a] w fun e w' => e = .returned (.int .i64 (sat a)) ∧ w = w' := by
  rcases (by omega : a < -1000000 ∨ 1000000 < a ∨ (-1000000 ≤ a ∧ a ≤ 1000000)) with h | h | ⟨h, h'⟩
  all_goals
    go_enter Try.func78, Try.ntmps78
    go_wp2
    all_goals
      go_ret
      exact ⟨ret_i64 (by first | rw [sat_lo h] | rw [sat_hi h] | rw [sat_id h h'] | (rw [sat_id (by omega) (by omega)]; try omega)), rfl⟩

/-- 1 for true, 0 for false. -/
def tr (b : Bool) : Int := if b then 1 else 0
theorem tr_true : tr true = 1 := rfl
theorem tr_false : tr false = 0 := rfl

theorem spec_l3Truth (b : Bool) (w : World) :
    Calls Try.prog 59 #[.bool b] w fun e w' => e = .returned (.int .i64 (tr b)) ∧ w = w' := by
  cases b
  all_goals
    go_enter Try.func59, Try.ntmps59
    go_wp2
    go_ret
    exact ⟨rfl, rfl⟩

theorem impl_truthValue (b : Bool) (w : World) :
    Calls Try.prog 79 #[.bool b] w fun e w' => e = .returned (.int .i64 (tr b)) ∧ w = w' := by
  cases b
  all_goals
    go_enter Try.func79, Try.ntmps79
    go_wp2
    go_ret
    exact ⟨rfl, rfl⟩

/-- v, made a value of the type k. -/
def coe (v k : Int) : Int :=
  if k = 1 then sat v else if k = 2 then bits .and .i64 v 4095 else if k = 3 then tr (v != 0) else if k = 4 then (if inR v 0 999 then v else 0) else 0
theorem coe_1 (v : Int) : coe v 1 = sat v := rfl
theorem coe_2 (v : Int) : coe v 2 = bits .and .i64 v 4095 := rfl
theorem coe_3 (v : Int) : coe v 3 = tr (v != 0) := rfl
theorem coe_4 (v : Int) : coe v 4 = if inR v 0 999 then v else 0 := rfl
theorem coe_no {v k : Int} (h1 : ¬ k = 1) (h2 : ¬ k = 2) (h3 : ¬ k = 3) (h4 : ¬ k = 4) : coe v k = 0 := by unfold coe; rw [if_neg h1, if_neg h2, if_neg h3, if_neg h4]

set_option maxHeartbeats 400000 in
theorem spec_Coerce (v k : Int) (w : World) :
    Calls Try.prog 56 #[.int .i64 v, .int .i64 k] w fun e w' => e = .returned (.int .i64 (coe v k)) ∧ w = w' := by
  rcases (by omega : k = 1 ∨ k = 2 ∨ k = 3 ∨ k = 4 ∨ (¬ k = 1 ∧ ¬ k = 2 ∧ ¬ k = 3 ∧ ¬ k = 4)) with rfl | rfl | rfl | rfl | ⟨h1, h2, h3, h4⟩
  · go_enter Try.func56, Try.ntmps56
    go_wp2_with fail
    refine (spec_Saturate _ _).mono ?_
    rintro e w1 ⟨rfl, rfl⟩
    go_wp2
    go_ret
    exact ⟨ret_i64 (coe_1 v).symm, rfl⟩
  · go_enter Try.func56, Try.ntmps56
    go_wp2
    go_ret
    exact ⟨ret_i64 (coe_2 v).symm, rfl⟩
  · go_enter Try.func56, Try.ntmps56
    go_wp2_with fail
    refine (spec_l3Truth _ _).mono ?_
    rintro e w1 ⟨rfl, rfl⟩
    go_wp2
    go_ret
    exact ⟨ret_i64 (coe_3 v).symm, rfl⟩
  · have hc := coe_4 v
    by_cases hr : inR v 0 999 = true
    · rw [if_pos hr] at hc
      have HC := Lib.hid hc
      clear hc
      go_enter Try.func56, Try.ntmps56
      go_wp2_with fail
      refine (spec_l1In _ _ _ _).mono ?_
      rintro e w1 ⟨rfl, rfl⟩
      go_wp2
      go_ret
      exact ⟨ret_i64 HC.out.symm, rfl⟩
    · rw [if_neg hr] at hc
      have hr : inR v 0 999 = false := by simpa using hr
      have HC := Lib.hid hc
      clear hc
      go_enter Try.func56, Try.ntmps56
      go_wp2_with fail
      refine (spec_l1In _ _ _ _).mono ?_
      rintro e w1 ⟨rfl, rfl⟩
      go_wp2
      go_ret
      exact ⟨ret_i64 HC.out.symm, rfl⟩
  · go_enter Try.func56, Try.ntmps56
    go_wp2
    go_ret
    exact ⟨ret_i64 (coe_no h1 h2 h3 h4).symm, rfl⟩

set_option maxHeartbeats 400000 in
theorem impl_Coerce (v k : Int) (w : World) :
    Calls Try.prog 66 #[.int .i64 v, .int .i64 k] w fun e w' => e = .returned (.int .i64 (coe v k)) ∧ w = w' := by
  rcases (by omega : k = 1 ∨ k = 2 ∨ k = 3 ∨ k = 4 ∨ (¬ k = 1 ∧ ¬ k = 2 ∧ ¬ k = 3 ∧ ¬ k = 4)) with rfl | rfl | rfl | rfl | ⟨h1, h2, h3, h4⟩
  · go_enter Try.func66, Try.ntmps66
    go_wp2_with fail
    refine (impl_Saturate _ _).mono ?_
    rintro e w1 ⟨rfl, rfl⟩
    go_wp2
    go_ret
    exact ⟨ret_i64 (coe_1 v).symm, rfl⟩
  · go_enter Try.func66, Try.ntmps66
    go_wp2
    go_ret
    exact ⟨ret_i64 (coe_2 v).symm, rfl⟩
  · go_enter Try.func66, Try.ntmps66
    go_wp2_with fail
    refine (impl_truthValue _ _).mono ?_
    rintro e w1 ⟨rfl, rfl⟩
    go_wp2
    go_ret
    exact ⟨ret_i64 (coe_3 v).symm, rfl⟩
  · have hc := coe_4 v
    rcases (by omega : v < 0 ∨ (0 ≤ v ∧ 999 < v) ∨ (0 ≤ v ∧ v ≤ 999)) with h | ⟨h, h'⟩ | ⟨h, h'⟩
    · rw [inR_no (Or.inl h), if_neg (by decide)] at hc
      have HC := Lib.hid hc
      clear hc
      go_enter Try.func66, Try.ntmps66
      go_wp2
      go_ret
      exact ⟨ret_i64 HC.out.symm, rfl⟩
    · rw [inR_no (Or.inr h'), if_neg (by decide)] at hc
      have HC := Lib.hid hc
      clear hc
      go_enter Try.func66, Try.ntmps66
      go_wp2
      go_ret
      exact ⟨ret_i64 HC.out.symm, rfl⟩
    · rw [inR_yes h h', if_pos rfl] at hc
      have HC := Lib.hid hc
      clear hc
      go_enter Try.func66, Try.ntmps66
      go_wp2
      go_ret
      exact ⟨ret_i64 HC.out.symm, rfl⟩
  · go_enter Try.func66, Try.ntmps66
    go_wp2
    go_ret
    exact ⟨ret_i64 (coe_no h1 h2 h3 h4).symm, rfl⟩

/-- v is a value of the type k. -/
def isOf (v k : Int) : Bool := inR k 1 4 && coe v k == v
theorem isOf_no {v k : Int} (h : inR k 1 4 = false) : isOf v k = false := by unfold isOf; rw [h]; rfl
theorem isOf_yes {v k : Int} (h : inR k 1 4 = true) : isOf v k = (coe v k == v) := by unfold isOf; rw [h]; rfl
theorem isOf_yes' {v k : Int} (h : inR k 1 4 = true) : isOf v k = (v == coe v k) := by rw [isOf_yes h]; exact Bool.eq_iff_iff.2 ⟨fun h => by simpa using (by simpa using h : coe v k = v).symm, fun h => by simpa using (by simpa using h : v = coe v k).symm⟩

theorem spec_IsOfType (v k : Int) (w : World) :
    Calls Try.prog 71 #[.int .i64 v, .int .i64 k] w fun e w' => e = .returned (.bool (isOf v k)) ∧ w = w' := by
  have h1 := @isOf_no v k
  have h2 := @isOf_yes v k
  cases hr : inR k 1 4
  · have HC := Lib.hid (h1 hr)
    clear h1 h2
    go_enter Try.func71, Try.ntmps71
    go_wp2_with fail
    refine (spec_l1In _ _ _ _).mono ?_
    rintro e w1 ⟨rfl, rfl⟩
    go_wp2
    go_ret
    exact ⟨ret_b HC.out.symm, rfl⟩
  · have HC := Lib.hid (h2 hr)
    clear h1 h2
    go_enter Try.func71, Try.ntmps71
    go_wp2_with fail
    refine (spec_l1In _ _ _ _).mono ?_
    rintro e w1 ⟨rfl, rfl⟩
    go_wp2_with fail
    refine (spec_Coerce _ _ _).mono ?_
    rintro e w1 ⟨rfl, rfl⟩
    go_wp2
    go_ret
    exact ⟨ret_b HC.out.symm, rfl⟩

theorem impl_IsOfType (v k : Int) (w : World) :
    Calls Try.prog 73 #[.int .i64 v, .int .i64 k] w fun e w' => e = .returned (.bool (isOf v k)) ∧ w = w' := by
  rcases (by omega : k = 1 ∨ k = 2 ∨ k = 3 ∨ k = 4 ∨ (¬ k = 1 ∧ ¬ k = 2 ∧ ¬ k = 3 ∧ ¬ k = 4)) with rfl | rfl | rfl | rfl | ⟨h1, h2, h3, h4⟩
  case inr.inr.inr.inr =>
    have hr : inR k 1 4 = false := by
      rcases (by omega : k < 1 ∨ 4 < k) with h | h
      · exact inR_no (Or.inl h)
      · exact inR_no (Or.inr h)
    have HC := Lib.hid (isOf_no (v := v) hr)
    clear hr
    go_enter Try.func73, Try.ntmps73
    go_wp2
    go_ret
    exact ⟨ret_b HC.out.symm, rfl⟩
  all_goals
    go_enter Try.func73, Try.ntmps73
    go_wp2_with fail
    refine (impl_Coerce _ _ _).mono ?_
    rintro e w1 ⟨rfl, rfl⟩
    go_wp2
    go_ret
    exact ⟨ret_b (isOf_yes' rfl).symm, rfl⟩
end Go.Proofs.Ythpnghbhfbiljaa
