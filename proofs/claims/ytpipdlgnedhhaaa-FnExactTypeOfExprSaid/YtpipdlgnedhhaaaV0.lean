/-
  Chapter 3, small things: Saturate and the helpers on integers that it calls.
-/
import Derived.Test.YtpipdlgnedhhaaaInR
import Derived.WalkSpells
import Derived.WalkSmall
import Derived.WalkLawsBesides
import Derived.Lib.Hide
namespace Go.Proofs.Ytpipdlgnedhhaaa
open Go.ChangeShapes Go.WideShapes Go.ChangeAt Go.RowKit

theorem ret_i64 {a b : Int} (h : a = b) : Ending.returned (.int .i64 a) = .returned (.int .i64 b) := by rw [h]

def mx (a b : Int) : Int := if b < a then a else b
def mn (a b : Int) : Int := if a < b then a else b
theorem mx_l {a b : Int} (h : b < a) : mx a b = a := if_pos h
theorem mx_r {a b : Int} (h : a ≤ b) : mx a b = b := if_neg (by omega)
theorem mn_l {a b : Int} (h : a < b) : mn a b = a := if_pos h
theorem mn_r {a b : Int} (h : b ≤ a) : mn a b = b := if_neg (by omega)

/-- x, limited to the range of the numbers. -/
def sat (x : Int) : Int := if x < -1000000 then -1000000 else if 1000000 < x then 1000000 else x
theorem sat_le (x : Int) : -1000000 ≤ sat x ∧ sat x ≤ 1000000 := by unfold sat; split <;> (try split) <;> omega
theorem sat_id {x : Int} (h : -1000000 ≤ x) (h' : x ≤ 1000000) : sat x = x := by unfold sat; rw [if_neg (by omega), if_neg (by omega)]
theorem sat_lo {x : Int} (h : x < -1000000) : sat x = -1000000 := by unfold sat; rw [if_pos h]
theorem sat_hi {x : Int} (h : 1000000 < x) : sat x = 1000000 := by unfold sat; rw [if_neg (by omega), if_pos h]
theorem sat_mm (x : Int) : mx (-1000000) (mn 1000000 x) = sat x := by unfold mx mn sat; split <;> split <;> (try split) <;> omega

theorem impl_Saturate (a : Int) (w : World) :
    Calls Try.prog 87 #[.int .i64 a] w fun e w' => e = .returned (.int .i64 (sat a)) ∧ w = w' := by
  rcases (by omega : a < -1000000 ∨ 1000000 < a ∨ (-1000000 ≤ a ∧ a ≤ 1000000)) with h | h | ⟨h, h'⟩
  all_goals
    go_enter Try.func87, Try.ntmps87
    go_wp2
    all_goals
      go_ret
      exact ⟨ret_i64 (by first | rw [sat_lo h] | rw [sat_hi h] | rw [sat_id h h'] | (rw [sat_id (by omega) (by omega)]; try omega)), rfl⟩

/-- 1 for true, 0 for false. -/
def tr (b : Bool) : Int := if b then 1 else 0
theorem tr_true : tr true = 1 := rfl
theorem tr_false : tr false = 0 := rfl

theorem impl_truthValue (b : Bool) (w : World) :
    Calls Try.prog 96 #[.bool b] w fun e w' => e = .returned (.int .i64 (tr b)) ∧ w = w' := by
  cases b
  all_goals
    go_enter Try.func96, Try.ntmps96
    go_wp2
    go_ret
    exact ⟨rfl, rfl⟩

/-- v, made a value of the type k. -/
def coe (v k : Int) : Int :=
  if k = 1 then sat v else if k = 2 then bits .and .i64 v 4095 else if k = 3 then tr (v != 0) else if k = 4 then (if inR v 0 999 then v else 0) else 0
theorem coe_1 (v : Int) : coe v 1 = sat v := rfl
theorem coe_2 (v : Int) : coe v 2 = bits .and .i64 v 4095 := rfl
theorem coe_3 (v : Int) : coe v 3 = tr (v != 0) := rfl
theorem coe_4 (v : Int) : coe v 4 = if inR v 0 999 then v else 0 := rfl
theorem coe_no {v k : Int} (h1 : ¬ k = 1) (h2 : ¬ k = 2) (h3 : ¬ k = 3) (h4 : ¬ k = 4) : coe v k = 0 := by unfold coe; rw [if_neg h1, if_neg h2, if_neg h3, if_neg h4]

/-- v is a value of the type k. -/
def isOf (v k : Int) : Bool := inR k 1 4 && coe v k == v
theorem isOf_no {v k : Int} (h : inR k 1 4 = false) : isOf v k = false := by unfold isOf; rw [h]; rfl
theorem isOf_yes {v k : Int} (h : inR k 1 4 = true) : isOf v k = (coe v k == v) := by unfold isOf; rw [h]; rfl
theorem isOf_yes' {v k : Int} (h : inR k 1 4 = true) : isOf v k = (v == coe v k) := by rw [isOf_yes h]; exact Bool.eq_iff_iff.2 ⟨fun h => by simpa using (by simpa using h : coe v k = v).symm, fun h => by simpa using (by simpa using h : v = coe v k).symm⟩
end Go.Proofs.Ytpipdlgnedhhaaa
