/-
  FormatInstance, in the model and in the program.
-/
import Derived.Test.YthmgjlejejgecabDoorTInstance
import Derived.Test.YthmgjlejejgecabDoorFmt
import Derived.Test.YthmgjlejejgecabDoorItoa
import Derived.Lib.ItoaLen
namespace Go.Proofs.YthmgjlejejgecabDoor
open Go.Lib
open Go.ChangeShapes Go.WideShapes Go.ChangeAt Go.RowKit Go.Deep

theorem ret_str {a b : List UInt8} (h : a = b) : Ending.returned (.string ⟨a.toArray⟩) = .returned (.string ⟨b.toArray⟩) := by rw [h]
theorem bytes_list (s : ByteArray) : ∃ l : List UInt8, s = ⟨l.toArray⟩ ∧ s.size = l.length := ⟨s.data.toList, by cases s; simp, by cases s; simp [ByteArray.size]⟩
def fmtInst (n : Int) (l : List UInt8) : List UInt8 := (([35] ++ itoa n) ++ [46]) ++ l

set_option maxHeartbeats 1600000 in
set_option maxRecDepth 100000 in
theorem spec_FormatInstance (n : Int) (l : List UInt8) (h0 : -9223372036854775808 ≤ n) (h1 : n ≤ 9223372036854775807) (hl : l.length ≤ 1048576) (w : World) :
    Calls Tryd.prog 12 #[.agg #[.int .i64 n, .string ⟨l.toArray⟩]] w fun e w' => e = .returned (.string ⟨(fmtInst n l).toArray⟩) ∧ Below w.heap.size w w' := by
  have HF := Lib.hid (fun w' => spec_FormatInt n h0 h1 w')
  have hq := itoa_length_le n h0 h1
  have FIN := Lib.hid (show fmtInst n l = (([35] ++ itoa n) ++ [46]) ++ l from rfl)
  generalize itoa n = u at *
  have hadd1 := fun w' => run_string_add_lists (P := Tryd.prog) w' [35] u (by simp) (by omega)
  have hadd2 := fun w' => run_string_add_lists (P := Tryd.prog) w' ([35] ++ u) [46] (by simp; omega) (by simp)
  have hadd3 := fun w' => run_string_add_lists (P := Tryd.prog) w' (([35] ++ u) ++ [46]) l (by simp; omega) (by omega)
  have HB0 := Lib.hid ((Below.refl w.heap.size w).alloc (Nat.le_refl _) (.cells #[.int .i64 n, .string ⟨l.toArray⟩] 33))
  go_enter Tryd.func12, Tryd.ntmps12
  go_wp2_with fail
  go_region_with ((go_at_call 22; refine (HF.out _).mono ?_; rintro e w1 ⟨rfl, hb1⟩; have x1 : w1.cell? ⟨w.heap.size, 1, none⟩ = some (.string ⟨l.toArray⟩) := (hb1.cell (p := ⟨w.heap.size, 1, none⟩) (by first | omega | (simp; done) | (simp; omega) | (simp [World.setCell]; omega))).trans (by go_simp); have HB1 := Lib.hid ((by repeat (first | (with_reducible exact HB0.out) | (with_reducible apply Below.drew) | (with_reducible refine below_drewN ?_ _)) : Below w.heap.size w _).trans (hb1.mono (Below.size (by repeat (first | (with_reducible exact HB0.out) | (with_reducible apply Below.drew) | (with_reducible refine below_drewN ?_ _)) : Below w.heap.size w _)))); clear hb1))
  all_goals
    go_wp2
    go_ret
    exact ⟨ret_str FIN.out.symm, by repeat (first | (with_reducible exact HB1.out) | (with_reducible apply Below.drew) | (with_reducible refine below_drewN ?_ _))⟩

set_option maxHeartbeats 1600000 in
set_option maxRecDepth 100000 in
theorem impl_FormatInstance (n : Int) (l : List UInt8) (h0 : -9223372036854775808 ≤ n) (h1 : n ≤ 9223372036854775807) (hl : l.length ≤ 1048576) (w : World) (hp : Pow w) :
    Calls Tryd.prog 14 #[.agg #[.int .i64 n, .string ⟨l.toArray⟩]] w fun e w' => e = .returned (.string ⟨(fmtInst n l).toArray⟩) ∧ Below w.heap.size w w' := by
  have HF := Lib.hid (fun w' (hb : Below w.heap.size w w') => impl_FormatInt n h0 h1 w' (hp.below hb))
  have hq := itoa_length_le n h0 h1
  have FIN := Lib.hid (show fmtInst n l = (([35] ++ itoa n) ++ [46]) ++ l from rfl)
  generalize itoa n = u at *
  have hadd1 := fun w' => run_string_add_lists (P := Tryd.prog) w' [35] u (by simp) (by omega)
  have hadd2 := fun w' => run_string_add_lists (P := Tryd.prog) w' ([35] ++ u) [46] (by simp; omega) (by simp)
  have hadd3 := fun w' => run_string_add_lists (P := Tryd.prog) w' (([35] ++ u) ++ [46]) l (by simp; omega) (by omega)
  have HB0 := Lib.hid ((Below.refl w.heap.size w).alloc (Nat.le_refl _) (.cells #[.int .i64 n, .string ⟨l.toArray⟩] 33))
  go_enter Tryd.func14, Tryd.ntmps14
  go_wp2_with fail
  go_region_with ((go_at_call 24; refine (HF.out _ (by repeat (first | (with_reducible exact HB0.out) | (with_reducible apply Below.drew) | (with_reducible refine below_drewN ?_ _)) : Below w.heap.size w _)).mono ?_; rintro e w1 ⟨rfl, hb1⟩; have x1 : w1.cell? ⟨w.heap.size, 1, none⟩ = some (.string ⟨l.toArray⟩) := (hb1.cell (p := ⟨w.heap.size, 1, none⟩) (by first | omega | (simp; done) | (simp; omega) | (simp [World.setCell]; omega))).trans (by go_simp); have HB1 := Lib.hid ((by repeat (first | (with_reducible exact HB0.out) | (with_reducible apply Below.drew) | (with_reducible refine below_drewN ?_ _)) : Below w.heap.size w _).trans (hb1.mono (Below.size (by repeat (first | (with_reducible exact HB0.out) | (with_reducible apply Below.drew) | (with_reducible refine below_drewN ?_ _)) : Below w.heap.size w _)))); clear hb1))
  all_goals
    go_wp2
    go_ret
    exact ⟨ret_str FIN.out.symm, by repeat (first | (with_reducible exact HB1.out) | (with_reducible apply Below.drew) | (with_reducible refine below_drewN ?_ _))⟩
end Go.Proofs.YthmgjlejejgecabDoor
