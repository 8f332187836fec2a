/-
  The model's FormatInt (package spec): the loop that divides by ten yields the decimal numeral of every int.
-/
import Derived.Test.YtkloeadlhpijdaaDoorDig
import Derived.WalkSpells
import Derived.WalkLawsBesides
import Derived.Lib.Hide
namespace Go.Proofs.YtkloeadlhpijdaaDoor
open Go.ChangeShapes Go.WideShapes Go.ChangeAt Go.RowKit
open Go.Lib Num

set_option maxHeartbeats 400000 in
set_option maxRecDepth 100000 in
theorem fmt_pos (n : Nat) (hn : 1 ≤ n) (h1 : n ≤ 9223372036854775807) (w : World) :
    Calls Tryd.prog 16 #[.int .i64 (n : Int)] w fun e w' => e = .returned (.string ⟨(decDigits n).toArray⟩) ∧ Below w.heap.size w w' := by
  have c0 : ((n : Int) == 0) = false := beq_eq_false_iff_ne.2 (by omega)
  have c1 : decide ((n : Int) < 0) = false := by simp
  go_enter Tryd.func16, Tryd.ntmps16
  go_wp2
  go_loopw [0, 4, 5] (fun m out _ wr => ∃ (a : Nat) (u : List UInt8), a ≤ n ∧ m = .int .i64 (a : Int) ∧ out = .string ⟨u.toArray⟩ ∧ dd a ++ u = decDigits n ∧ Below w.heap.size w wr) (fun m _ _ _ => (intOf m).toNat)
  case atStart => exact ⟨n, [], Nat.le_refl _, rfl, rfl, by rw [List.append_nil, dd_pos n (by omega)], Below.refl _ _⟩
  case round =>
    obtain ⟨a, u, ha, rfl, rfl, hu, hb⟩ := hrel
    have HU := Lib.hid hu
    clear hu
    by_cases hz : a = 0
    · have c2 : ((a : Int) != 0) = false := by rw [hz]; rfl
      subst hz
      go_wp2
      go_ret
      exact ⟨by rw [← HU.out]; rfl, hb⟩
    · have c2 : ((a : Int) != 0) = true := by rw [bne_iff_ne]; omega
      have hul := tail_short HU.out (Nat.lt_of_le_of_lt h1 (by decide))
      obtain ⟨c, hc, hconv⟩ := digit_string (P := Tryd.prog) Tryd.underlying57 Tryd.underlying5 Tryd.underlying9 wr ((a : Int) % 10) (a % 10) (by omega) (by omega)
      have HC := Lib.hid hc
      clear hc
      have hadd := fun w' => run_string_add_lists (P := Tryd.prog) w' [c] u (by simp) hul
      go_wp2
      go_round
      case rel => exact ⟨a / 10, [c] ++ u, by omega, by go_num, rfl, by rw [HC.out, ← HU.out, ← List.append_assoc, ← dd_step a hz], hb.alloc hb.size _⟩
      case measure => simp [intOf]; omega

set_option maxHeartbeats 400000 in
set_option maxRecDepth 100000 in
theorem fmt_neg (n : Nat) (hn : 1 ≤ n) (h1 : n ≤ 9223372036854775808) (w : World) :
    Calls Tryd.prog 16 #[.int .i64 (-(n : Int))] w fun e w' => e = .returned (.string ⟨(45 :: decDigits n).toArray⟩) ∧ Below w.heap.size w w' := by
  have c0 : (-(n : Int) == 0) = false := beq_eq_false_iff_ne.2 (by omega)
  have c1 : decide (-(n : Int) < 0) = true := by simp; omega
  go_enter Tryd.func16, Tryd.ntmps16
  go_wp2
  go_loopw [0, 4, 5] (fun m out _ wr => ∃ (a : Nat) (u : List UInt8), a ≤ n ∧ m = .int .i64 (-(a : Int)) ∧ out = .string ⟨u.toArray⟩ ∧ dd a ++ u = decDigits n ∧ Below w.heap.size w wr) (fun m _ _ _ => (-(intOf m)).toNat)
  case atStart => exact ⟨n, [], Nat.le_refl _, rfl, rfl, by rw [List.append_nil, dd_pos n (by omega)], Below.refl _ _⟩
  case round =>
    obtain ⟨a, u, ha, rfl, rfl, hu, hb⟩ := hrel
    have HU := Lib.hid hu
    clear hu
    have hul := tail_short HU.out (Nat.lt_of_le_of_lt h1 (by decide))
    by_cases hz : a = 0
    · have c2 : (-(a : Int) != 0) = false := by rw [hz]; rfl
      subst hz
      have hadd := fun w' => run_string_add_lists (P := Tryd.prog) w' [45] u (by simp) hul
      go_wp2
      go_ret
      exact ⟨by rw [← HU.out]; rfl, hb⟩
    · have c2 : (-(a : Int) != 0) = true := by rw [bne_iff_ne]; omega
      rcases Nat.eq_zero_or_pos (a % 10) with h9 | h9
      · have h10 : (a : Int) % 10 ≤ 0 := by omega
        clear h9
        obtain ⟨c, hc, hconv⟩ := digit_string (P := Tryd.prog) Tryd.underlying57 Tryd.underlying5 Tryd.underlying9 wr (-((a : Int) % 10)) (a % 10) (by omega) (by omega)
        have HC := Lib.hid hc
        clear hc
        have hadd := fun w' => run_string_add_lists (P := Tryd.prog) w' [c] u (by simp) hul
        go_wp2
        go_round
        case rel => exact ⟨a / 10, [c] ++ u, by omega, by go_num, rfl, by rw [HC.out, ← HU.out, ← List.append_assoc, ← dd_step a hz], hb.alloc hb.size _⟩
        case measure => simp [intOf]; omega
      · have h10 : 0 < (a : Int) % 10 := by omega
        clear h9
        obtain ⟨c, hc, hconv⟩ := digit_string (P := Tryd.prog) Tryd.underlying57 Tryd.underlying5 Tryd.underlying9 wr ((a : Int) % 10) (a % 10) (by omega) (by omega)
        have HC := Lib.hid hc
        clear hc
        have hadd := fun w' => run_string_add_lists (P := Tryd.prog) w' [c] u (by simp) hul
        go_wp2
        go_round
        case rel => exact ⟨a / 10, [c] ++ u, by omega, by go_num, rfl, by rw [HC.out, ← HU.out, ← List.append_assoc, ← dd_step a hz], hb.alloc hb.size _⟩
        case measure => simp [intOf]; omega

/-- FormatInt of package spec yields the decimal numeral, for every int. -/
theorem spec_FormatInt (n : Int) (h0 : -9223372036854775808 ≤ n) (h1 : n ≤ 9223372036854775807) (w : World) :
    Calls Tryd.prog 16 #[.int .i64 n] w fun e w' => e = .returned (.string ⟨(itoa n).toArray⟩) ∧ Below w.heap.size w w' := by
  by_cases hn : n < 0
  · obtain ⟨a, rfl⟩ : ∃ a : Nat, n = -(a : Int) := ⟨n.natAbs, by omega⟩
    have e : itoa (-(a : Int)) = 45 :: decDigits a := by unfold itoa; rw [if_pos hn]; congr 2; omega
    rw [e]
    exact fmt_neg a (by omega) (by omega) w
  · obtain ⟨a, rfl⟩ : ∃ a : Nat, n = (a : Int) := ⟨n.toNat, by omega⟩
    have e : itoa (a : Int) = decDigits a := by unfold itoa; rw [if_neg hn]; congr 1
    rw [e]
    by_cases hz : a = 0
    · subst hz
      go_enter Tryd.func16, Tryd.ntmps16
      go_wp2
      go_ret
      exact ⟨by rw [decDigits, dif_pos (by decide)]; rfl, Below.refl _ _⟩
    · exact fmt_pos a (by omega) (by omega) w
end Go.Proofs.YtkloeadlhpijdaaDoor
