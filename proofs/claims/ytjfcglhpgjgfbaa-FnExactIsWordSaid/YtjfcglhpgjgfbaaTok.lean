/-
  Chapter 5: IsWord, in the model and in the program; the laws' own helpers on a token.
-/
import Derived.Test.YtjfcglhpgjgfbaaKit
import Derived.WalkSpells
import Derived.WalkSmall
import Derived.WalkLawsBesides
import Derived.Lib.Hide
import Derived.Lib.Strings
namespace Go.Proofs.Ytjfcglhpgjgfbaa
open Go.ChangeShapes Go.WideShapes Go.ChangeAt Go.RowKit

theorem ret_bt {a b : Bool} (h : a = b) : Ending.returned (.bool a) = .returned (.bool b) := by rw [h]
/-- A token's kind says that it is a name or a symbol, and its text is s. -/
def wordB (k : Int) (t s : ByteArray) : Bool := (k == 1 || k == 3) && (t.toList == s.toList)
theorem word_1 (t s : ByteArray) : wordB 1 t s = (t.toList == s.toList) := rfl
theorem word_3 (t s : ByteArray) : wordB 3 t s = (t.toList == s.toList) := rfl
theorem word_no {k : Int} (h1 : ¬ k = 1) (h3 : ¬ k = 3) (t s : ByteArray) : wordB k t s = false := by
  unfold wordB; rw [beq_eq_false_iff_ne.2 h1, beq_eq_false_iff_ne.2 h3]; rfl

set_option maxHeartbeats 400000 in
set_option maxRecDepth 100000 in
theorem laws_szToken (k n p : Int) (t : ByteArray) (L : Int) (hL0 : 0 ≤ L) (hL1 : L ≤ 1048576) (ht : t.size ≤ 9223372036854775807) (w : World) :
    Calls Try.prog 5 #[.agg #[.int .i64 k, .int .i64 n, .int .i64 p, .string t], .int .i64 L] w fun e w' => e = .returned (.int .i64 (if (t.size : Int) ≤ L then L - t.size else -1)) ∧ Below w.heap.size w w' := by
  by_cases h : (t.size : Int) ≤ L
  · rw [if_pos h]
    go_enter Try.func5, Try.ntmps5
    go_wp2
    go_ret
    exact ⟨rfl, (Below.refl _ _).alloc (Nat.le_refl _) _⟩
  · rw [if_neg h]
    have h' : L < (t.size : Int) := by omega
    clear h
    go_enter Try.func5, Try.ntmps5
    go_wp2
    go_ret
    exact ⟨rfl, (Below.refl _ _).alloc (Nat.le_refl _) _⟩

set_option maxHeartbeats 400000 in
set_option maxRecDepth 100000 in
theorem laws_toToken (k n p : Int) (t : ByteArray) (w : World) :
    Calls Try.prog 7 #[.agg #[.int .i64 k, .int .i64 n, .int .i64 p, .string t]] w fun e w' => e = .returned (.agg #[.int .i64 k, .int .i64 n, .int .i64 p, .string t]) ∧ Below w.heap.size w w' := by
  go_enter Try.func7, Try.ntmps7
  go_wp2
  exact bodyPost_ret (v := .agg #[.int .i64 k, .int .i64 n, .int .i64 p, .string t]) (by simp [results, Try.results7, go_sem]) rfl ⟨rfl, by
    repeat (first | exact Below.refl _ _ | (refine Below.setCell ?_ (by simp <;> omega) _) | (refine Below.alloc ?_ (by simp <;> omega) _))⟩

set_option maxHeartbeats 400000 in
set_option maxRecDepth 100000 in
theorem spec_IsWord (k n p : Int) (t s : ByteArray) (w : World) :
    Calls Try.prog 6 #[.agg #[.int .i64 k, .int .i64 n, .int .i64 p, .string t], .string s] w fun e w' => e = .returned (.bool (wordB k t s)) ∧ Below w.heap.size w w' := by
  rcases (by omega : k = 1 ∨ k = 3 ∨ (¬ k = 1 ∧ ¬ k = 3)) with rfl | rfl | ⟨h1, h3⟩
  · go_enter Try.func6, Try.ntmps6
    go_wp2
    go_ret
    exact ⟨ret_bt (word_1 t s).symm, (Below.refl _ _).alloc (Nat.le_refl _) _⟩
  · go_enter Try.func6, Try.ntmps6
    go_wp2
    go_ret
    exact ⟨ret_bt (word_3 t s).symm, (Below.refl _ _).alloc (Nat.le_refl _) _⟩
  · have fin := Lib.hid (word_no h1 h3 t s)
    have e1 : (k == 1) = false := beq_eq_false_iff_ne.2 h1
    have e3 : (k == 3) = false := beq_eq_false_iff_ne.2 h3
    clear h1 h3
    go_enter Try.func6, Try.ntmps6
    go_wp2
    go_ret
    exact ⟨ret_bt fin.out.symm, (Below.refl _ _).alloc (Nat.le_refl _) _⟩

set_option maxHeartbeats 400000 in
set_option maxRecDepth 100000 in
theorem impl_IsWord (k n p : Int) (t s : ByteArray) (w : World) :
    Calls Try.prog 8 #[.agg #[.int .i64 k, .int .i64 n, .int .i64 p, .string t], .string s] w fun e w' => e = .returned (.bool (wordB k t s)) ∧ Below w.heap.size w w' := by
  rcases (by omega : k = 1 ∨ k = 3 ∨ (¬ k = 1 ∧ ¬ k = 3)) with rfl | rfl | ⟨h1, h3⟩
  · go_enter Try.func8, Try.ntmps8
    go_wp2
    go_ret
    exact ⟨ret_bt (word_1 t s).symm, (Below.refl _ _).alloc (Nat.le_refl _) _⟩
  · go_enter Try.func8, Try.ntmps8
    go_wp2
    go_ret
    exact ⟨ret_bt (word_3 t s).symm, (Below.refl _ _).alloc (Nat.le_refl _) _⟩
  · have fin := Lib.hid (word_no h1 h3 t s)
    have e1 : (k == 1) = false := beq_eq_false_iff_ne.2 h1
    have e3 : (k == 3) = false := beq_eq_false_iff_ne.2 h3
    clear h1 h3
    go_enter Try.func8, Try.ntmps8
    go_wp2
    go_ret
    exact ⟨ret_bt fin.out.symm, (Below.refl _ _).alloc (Nat.le_refl _) _⟩
end Go.Proofs.Ytjfcglhpgjgfbaa
