/-
  The laws' own marks: markText, a text for each number.
-/
import Derived.Test.YthgpompoionfoaaDig
namespace Go.Proofs.Ythgpompoionfoaa
open Go.ChangeShapes Go.WideShapes Go.ChangeAt Go.RowKit
open Go.Lib Num

/-- The mark of number n. -/
def mk (n : Nat) : ByteArray := ⟨(109 :: decDigits n).toArray⟩

set_option maxHeartbeats 400000 in
set_option maxRecDepth 100000 in
theorem markText (n : Nat) (hn : 1 ≤ n) (h1 : n ≤ 9223372036854775807) (w : World) :
    Calls Try.prog 38 #[.int .i64 (n : Int)] w fun e w' => e = .returned (.string (mk n)) ∧ Below w.heap.size w w' := by
  go_enter Try.func38, Try.ntmps38
  go_wp2
  go_loopw [0, 3] (fun m out wr => ∃ (a : Nat) (u : List UInt8), a ≤ n ∧ m = .int .i64 (a : Int) ∧ out = .string ⟨u.toArray⟩ ∧ dd a ++ u = decDigits n ∧ Below w.heap.size w wr) (fun m _ _ => (RowKit.intOf m).toNat)
  case atStart => exact ⟨n, [], Nat.le_refl _, rfl, rfl, by rw [List.append_nil, dd_pos n (by omega)], Below.refl _ _⟩
  case round =>
    obtain ⟨a, u, ha, rfl, rfl, hu, hb⟩ := hrel
    have HU := Lib.hid hu
    clear hu
    have hul := tail_short HU.out (Nat.lt_of_le_of_lt h1 (by decide))
    by_cases hz : a = 0
    · subst hz
      have hadd := fun w' => run_string_add_lists (P := Try.prog) w' [109] u (by simp) hul
      go_wp2
      go_ret
      exact ⟨by unfold mk; rw [← HU.out]; rfl, hb⟩
    · obtain ⟨c, hc, hconv⟩ := digit_string (P := Try.prog) Try.underlying75 Try.underlying5 Try.underlying9 wr ((a : Int) % 10) (a % 10) (by omega) (by omega)
      have HC := Lib.hid hc
      clear hc
      have hadd := fun w' => run_string_add_lists (P := Try.prog) w' [c] u (by simp) hul
      go_wp2
      go_roundw
      case rel => exact ⟨a / 10, [c] ++ u, by omega, by go_num, rfl, by rw [HC.out, ← HU.out, ← List.append_assoc, ← dd_step a hz], hb.alloc hb.size _⟩
      case measure => simp [RowKit.intOf]; omega
end Go.Proofs.Ythgpompoionfoaa
