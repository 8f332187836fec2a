/-
  Chapter 3: what the operators compute, in the program and in the model.
-/
import Derived.Test.YtpipdlgnedhhaaaOps
import Derived.IntWalk
namespace Go.Proofs.Ytpipdlgnedhhaaa
open Go.ChangeShapes Go.WideShapes Go.ChangeAt Go.RowKit

/-- n is an element of the set a. -/
def hasB (a n : Int) : Bool := inR n 0 11 && (bits .and .i64 (a / 2 ^ n.toNat) 1 == 1)
/-- The set a with the element n. -/
def withV (a n : Int) : Int := if inR n 0 11 then bits .or .i64 a (wrap64 (2 ^ n.toNat)) else a
theorem hasB_yes {a n : Int} (h : inR n 0 11 = true) : hasB a n = (bits .and .i64 (a / 2 ^ n.toNat) 1 == 1) := by unfold hasB; rw [h, Bool.true_and]
theorem hasB_no {a n : Int} (h : inR n 0 11 = false) : hasB a n = false := by unfold hasB; rw [h, Bool.false_and]
theorem withV_yes {a n : Int} (h : inR n 0 11 = true) : withV a n = bits .or .i64 a (wrap64 (2 ^ n.toNat)) := if_pos h
theorem withV_no {a n : Int} (h : inR n 0 11 = false) : withV a n = a := if_neg (by rw [h]; decide)
theorem ret_tr {a b : Bool} (h : a = b) : Ending.returned (.int .i64 (tr a)) = .returned (.int .i64 (tr b)) := by rw [h]

theorem coe_num (v : Int) : -1000000 ≤ coe v 1 ∧ coe v 1 ≤ 1000000 := sat_le v
theorem bits_and_le (v : Int) (m : Nat) (hm : m < 2 ^ 63) : 0 ≤ bits .and .i64 v (m : Int) ∧ bits .and .i64 v (m : Int) ≤ m := by
  have h2 : (BitVec.ofInt 64 (m : Int)).toNat = m := by
    rw [BitVec.ofInt_natCast, BitVec.toNat_ofNat]; exact Nat.mod_eq_of_lt (by omega)
  have h3 : ((BitVec.ofInt 64 v) &&& (BitVec.ofInt 64 (m : Int))).toNat ≤ m := by
    rw [BitVec.toNat_and, h2]; exact Nat.and_le_right
  have e : bits .and .i64 v (m : Int) = IntKind.i64.wrap ((((BitVec.ofInt 64 v) &&& (BitVec.ofInt 64 (m : Int))).toNat : Nat) : Int) := rfl
  rw [e, IntWalk.i64_in _ (by omega)]
  omega
theorem coe_set (v : Int) : 0 ≤ coe v 2 ∧ coe v 2 ≤ 4095 := bits_and_le v 4095 (by decide)

theorem impl_isElement (n : Int) (w : World) :
    Calls Try.prog 102 #[.int .i64 n] w fun e w' => e = .returned (.bool (inR n 0 11)) ∧ w = w' := by
  rcases (by omega : n < 0 ∨ (0 ≤ n ∧ 11 < n) ∨ (0 ≤ n ∧ n ≤ 11)) with h | ⟨h, h'⟩ | ⟨h, h'⟩
  · go_enter Try.func102, Try.ntmps102
    go_wp2
    go_ret
    exact ⟨ret_b (by rw [inR_no (Or.inl h)]), rfl⟩
  · go_enter Try.func102, Try.ntmps102
    go_wp2
    go_ret
    exact ⟨ret_b (by rw [inR_no (Or.inr h'), decide_eq_false (by omega)]), rfl⟩
  · go_enter Try.func102, Try.ntmps102
    go_wp2
    go_ret
    exact ⟨ret_b (by rw [inR_yes h h']), rfl⟩

set_option maxHeartbeats 400000 in
theorem impl_hasElement (a n : Int) (w : World) :
    Calls Try.prog 99 #[.int .i64 a, .int .i64 n] w fun e w' => e = .returned (.bool (hasB a n)) ∧ w = w' := by
  cases hn : inR n 0 11
  · have fin := Lib.hid (hasB_no (a := a) hn)
    have HN := Lib.hid hn
    clear hn
    go_enter Try.func99, Try.ntmps99
    go_wp2_with fail
    refine (impl_isElement _ _).mono ?_
    rintro e w1 ⟨rfl, rfl⟩
    have hn := HN.out
    go_wp2
    go_ret
    exact ⟨ret_b fin.out.symm, rfl⟩
  · have fin := Lib.hid (hasB_yes (a := a) hn)
    obtain ⟨h0, h1⟩ := inR_iff.1 hn
    have HN := Lib.hid hn
    clear hn
    go_enter Try.func99, Try.ntmps99
    go_wp2_with fail
    refine (impl_isElement _ _).mono ?_
    rintro e w1 ⟨rfl, rfl⟩
    have hn := HN.out
    go_wp2
    go_ret
    exact ⟨ret_b fin.out.symm, rfl⟩

set_option maxHeartbeats 400000 in
theorem impl_withElement (a n : Int) (w : World) :
    Calls Try.prog 101 #[.int .i64 a, .int .i64 n] w fun e w' => e = .returned (.int .i64 (withV a n)) ∧ w = w' := by
  cases hn : inR n 0 11
  · have fin := Lib.hid (withV_no (a := a) hn)
    have HN := Lib.hid hn
    clear hn
    go_enter Try.func101, Try.ntmps101
    go_wp2_with fail
    refine (impl_isElement _ _).mono ?_
    rintro e w1 ⟨rfl, rfl⟩
    have hn := HN.out
    go_wp2
    go_ret
    exact ⟨ret_i64 fin.out.symm, rfl⟩
  · have fin := Lib.hid (withV_yes (a := a) hn)
    obtain ⟨h0, h1⟩ := inR_iff.1 hn
    have HN := Lib.hid hn
    clear hn
    go_enter Try.func101, Try.ntmps101
    go_wp2_with fail
    refine (impl_isElement _ _).mono ?_
    rintro e w1 ⟨rfl, rfl⟩
    have hn := HN.out
    go_wp2
    go_ret
    exact ⟨ret_i64 fin.out.symm, rfl⟩

/-- What operator k computes of operands that have its types. -/
def opF (k x y : Int) : Int :=
  if k = 1 then sat (x + y) else
  if k = 2 then sat (x - y) else
  if k = 3 then sat (x * y) else
  if k = 4 then mx x y else
  if k = 5 then mn x y else
  if k = 6 then bits .or .i64 x y else
  if k = 7 then bits .and .i64 x y else
  if k = 8 then bits .andNot .i64 x y else
  if k = 9 then tr (decide (x < y)) else
  if k = 10 then tr (x == y) else
  if k = 11 then tr (hasB x y) else
  if k = 12 then withV x y else 0
theorem opF_1 (x y : Int) : opF 1 x y = sat (x + y) := by unfold opF; rw [if_pos rfl]
theorem opF_2 (x y : Int) : opF 2 x y = sat (x - y) := by unfold opF; rw [if_neg (by decide), if_pos rfl]
theorem opF_3 (x y : Int) : opF 3 x y = sat (x * y) := by unfold opF; rw [if_neg (by decide), if_neg (by decide), if_pos rfl]
theorem opF_4 (x y : Int) : opF 4 x y = mx x y := by unfold opF; rw [if_neg (by decide), if_neg (by decide), if_neg (by decide), if_pos rfl]
theorem opF_5 (x y : Int) : opF 5 x y = mn x y := by unfold opF; rw [if_neg (by decide), if_neg (by decide), if_neg (by decide), if_neg (by decide), if_pos rfl]
theorem opF_6 (x y : Int) : opF 6 x y = bits .or .i64 x y := by unfold opF; rw [if_neg (by decide), if_neg (by decide), if_neg (by decide), if_neg (by decide), if_neg (by decide), if_pos rfl]
theorem opF_7 (x y : Int) : opF 7 x y = bits .and .i64 x y := by unfold opF; rw [if_neg (by decide), if_neg (by decide), if_neg (by decide), if_neg (by decide), if_neg (by decide), if_neg (by decide), if_pos rfl]
theorem opF_8 (x y : Int) : opF 8 x y = bits .andNot .i64 x y := by unfold opF; rw [if_neg (by decide), if_neg (by decide), if_neg (by decide), if_neg (by decide), if_neg (by decide), if_neg (by decide), if_neg (by decide), if_pos rfl]
theorem opF_9 (x y : Int) : opF 9 x y = tr (decide (x < y)) := by unfold opF; rw [if_neg (by decide), if_neg (by decide), if_neg (by decide), if_neg (by decide), if_neg (by decide), if_neg (by decide), if_neg (by decide), if_neg (by decide), if_pos rfl]
theorem opF_10 (x y : Int) : opF 10 x y = tr (x == y) := by unfold opF; rw [if_neg (by decide), if_neg (by decide), if_neg (by decide), if_neg (by decide), if_neg (by decide), if_neg (by decide), if_neg (by decide), if_neg (by decide), if_neg (by decide), if_pos rfl]
theorem opF_11 (x y : Int) : opF 11 x y = tr (hasB x y) := by unfold opF; rw [if_neg (by decide), if_neg (by decide), if_neg (by decide), if_neg (by decide), if_neg (by decide), if_neg (by decide), if_neg (by decide), if_neg (by decide), if_neg (by decide), if_neg (by decide), if_pos rfl]
theorem opF_12 (x y : Int) : opF 12 x y = withV x y := by unfold opF; rw [if_neg (by decide), if_neg (by decide), if_neg (by decide), if_neg (by decide), if_neg (by decide), if_neg (by decide), if_neg (by decide), if_neg (by decide), if_neg (by decide), if_neg (by decide), if_neg (by decide), if_pos rfl]

set_option maxHeartbeats 400000 in
theorem impl_op1 (x y : Int) (hx : -1000000 ≤ x) (hx2 : x ≤ 1000000) (hy : -1000000 ≤ y) (hy2 : y ≤ 1000000) (w : World) :
    Calls Try.prog 86 #[.int .i64 x, .int .i64 y] w fun e w' => e = .returned (.int .i64 (opF 1 x y)) ∧ w = w' := by
  go_enter Try.func86, Try.ntmps86
  go_wp2_with fail
  refine (impl_Saturate _ _).mono ?_
  rintro e w1 ⟨rfl, rfl⟩
  go_wp2
  go_ret
  exact ⟨ret_i64 (opF_1 x y).symm, rfl⟩

set_option maxHeartbeats 400000 in
theorem impl_op2 (x y : Int) (hx : -1000000 ≤ x) (hx2 : x ≤ 1000000) (hy : -1000000 ≤ y) (hy2 : y ≤ 1000000) (w : World) :
    Calls Try.prog 88 #[.int .i64 x, .int .i64 y] w fun e w' => e = .returned (.int .i64 (opF 2 x y)) ∧ w = w' := by
  go_enter Try.func88, Try.ntmps88
  go_wp2_with fail
  refine (impl_Saturate _ _).mono ?_
  rintro e w1 ⟨rfl, rfl⟩
  go_wp2
  go_ret
  exact ⟨ret_i64 (opF_2 x y).symm, rfl⟩

theorem mul_small {x y : Int} (hx : -1000000 ≤ x) (hx2 : x ≤ 1000000) (hy : -1000000 ≤ y) (hy2 : y ≤ 1000000) : -1000000000000 ≤ x * y ∧ x * y ≤ 1000000000000 := by
  have h : x.natAbs * y.natAbs ≤ 1000000 * 1000000 := Nat.mul_le_mul (by omega) (by omega)
  rw [← Int.natAbs_mul] at h
  omega

set_option maxHeartbeats 400000 in
theorem impl_op3 (x y : Int) (hx : -1000000 ≤ x) (hx2 : x ≤ 1000000) (hy : -1000000 ≤ y) (hy2 : y ≤ 1000000) (w : World) :
    Calls Try.prog 89 #[.int .i64 x, .int .i64 y] w fun e w' => e = .returned (.int .i64 (opF 3 x y)) ∧ w = w' := by
  have hm1 : -1000000000000 ≤ x * y ∧ x * y ≤ 1000000000000 := mul_small hx hx2 hy hy2
  obtain ⟨hm1, hm2⟩ := hm1
  go_enter Try.func89, Try.ntmps89
  go_wp2_with fail
  refine (impl_Saturate _ _).mono ?_
  rintro e w1 ⟨rfl, rfl⟩
  go_wp2
  go_ret
  exact ⟨ret_i64 (opF_3 x y).symm, rfl⟩

set_option maxHeartbeats 400000 in
theorem impl_op4 (x y : Int) (w : World) :
    Calls Try.prog 90 #[.int .i64 x, .int .i64 y] w fun e w' => e = .returned (.int .i64 (opF 4 x y)) ∧ w = w' := by
  rcases (by omega : x < y ∨ x = y ∨ y < x) with h | h | h
  all_goals
    go_enter Try.func90, Try.ntmps90
    go_wp2
    all_goals
      go_ret
      exact ⟨ret_i64 (by rw [opF_4]; unfold mx; split <;> omega), rfl⟩

set_option maxHeartbeats 400000 in
theorem impl_op5 (x y : Int) (w : World) :
    Calls Try.prog 91 #[.int .i64 x, .int .i64 y] w fun e w' => e = .returned (.int .i64 (opF 5 x y)) ∧ w = w' := by
  rcases (by omega : x < y ∨ x = y ∨ y < x) with h | h | h
  all_goals
    go_enter Try.func91, Try.ntmps91
    go_wp2
    all_goals
      go_ret
      exact ⟨ret_i64 (by rw [opF_5]; unfold mn; split <;> omega), rfl⟩

set_option maxHeartbeats 400000 in
theorem impl_op6 (x y : Int) (w : World) :
    Calls Try.prog 92 #[.int .i64 x, .int .i64 y] w fun e w' => e = .returned (.int .i64 (opF 6 x y)) ∧ w = w' := by
  go_enter Try.func92, Try.ntmps92
  go_wp2
  go_ret
  exact ⟨ret_i64 (opF_6 x y).symm, rfl⟩

set_option maxHeartbeats 400000 in
theorem impl_op7 (x y : Int) (w : World) :
    Calls Try.prog 93 #[.int .i64 x, .int .i64 y] w fun e w' => e = .returned (.int .i64 (opF 7 x y)) ∧ w = w' := by
  go_enter Try.func93, Try.ntmps93
  go_wp2
  go_ret
  exact ⟨ret_i64 (opF_7 x y).symm, rfl⟩

set_option maxHeartbeats 400000 in
theorem impl_op8 (x y : Int) (w : World) :
    Calls Try.prog 94 #[.int .i64 x, .int .i64 y] w fun e w' => e = .returned (.int .i64 (opF 8 x y)) ∧ w = w' := by
  go_enter Try.func94, Try.ntmps94
  go_wp2
  go_ret
  exact ⟨ret_i64 (opF_8 x y).symm, rfl⟩

set_option maxHeartbeats 400000 in
theorem impl_op9 (x y : Int) (w : World) :
    Calls Try.prog 95 #[.int .i64 x, .int .i64 y] w fun e w' => e = .returned (.int .i64 (opF 9 x y)) ∧ w = w' := by
  by_cases h : x < y
  all_goals
    go_enter Try.func95, Try.ntmps95
    go_wp2_with fail
    refine (impl_truthValue _ _).mono ?_
    rintro e w1 ⟨rfl, rfl⟩
    go_wp2
    go_ret
    exact ⟨ret_i64 (by rw [opF_9]; first | rw [decide_eq_true h] | rw [decide_eq_false (by omega)]), rfl⟩

set_option maxHeartbeats 400000 in
theorem impl_op10 (x y : Int) (w : World) :
    Calls Try.prog 97 #[.int .i64 x, .int .i64 y] w fun e w' => e = .returned (.int .i64 (opF 10 x y)) ∧ w = w' := by
  go_enter Try.func97, Try.ntmps97
  go_wp2_with fail
  refine (impl_truthValue _ _).mono ?_
  rintro e w1 ⟨rfl, rfl⟩
  go_wp2
  go_ret
  exact ⟨ret_i64 (opF_10 x y).symm, rfl⟩

set_option maxHeartbeats 400000 in
theorem impl_op11 (x y : Int) (w : World) :
    Calls Try.prog 98 #[.int .i64 x, .int .i64 y] w fun e w' => e = .returned (.int .i64 (opF 11 x y)) ∧ w = w' := by
  go_enter Try.func98, Try.ntmps98
  go_wp2_with fail
  refine (impl_hasElement _ _ _).mono ?_
  rintro e w1 ⟨rfl, rfl⟩
  go_wp2_with fail
  refine (impl_truthValue _ _).mono ?_
  rintro e w1 ⟨rfl, rfl⟩
  go_wp2
  go_ret
  exact ⟨ret_i64 (opF_11 x y).symm, rfl⟩

set_option maxHeartbeats 400000 in
theorem impl_op12 (x y : Int) (w : World) :
    Calls Try.prog 100 #[.int .i64 x, .int .i64 y] w fun e w' => e = .returned (.int .i64 (opF 12 x y)) ∧ w = w' := by
  go_enter Try.func100, Try.ntmps100
  go_wp2_with fail
  refine (impl_withElement _ _ _).mono ?_
  rintro e w1 ⟨rfl, rfl⟩
  go_wp2
  go_ret
  exact ⟨ret_i64 (opF_12 x y).symm, rfl⟩
end Go.Proofs.Ytpipdlgnedhhaaa
