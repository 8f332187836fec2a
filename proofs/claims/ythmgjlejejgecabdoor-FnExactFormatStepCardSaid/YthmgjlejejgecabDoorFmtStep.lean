/-
  FormatStep, in the model and in the program.
-/
import Derived.Test.YthmgjlejejgecabDoorTStep
import Derived.Test.YthmgjlejejgecabDoorFmt
import Derived.Test.YthmgjlejejgecabDoorItoa
import Derived.Lib.ItoaLen
namespace Go.Proofs.YthmgjlejejgecabDoor
open Go.Lib
open Go.ChangeShapes Go.WideShapes Go.ChangeAt Go.RowKit Go.Deep

theorem ret_str {a b : List UInt8} (h : a = b) : Ending.returned (.string ⟨a.toArray⟩) = .returned (.string ⟨b.toArray⟩) := by rw [h]
theorem bytes_list (s : ByteArray) : ∃ l : List UInt8, s = ⟨l.toArray⟩ ∧ s.size = l.length := ⟨s.data.toList, by cases s; simp, by cases s; simp [ByteArray.size]⟩
def fmtStep (k p v : Int) (l : List UInt8) : List UInt8 :=
  if k = 1 then (([101, 118, 97, 108, 32, 36] ++ itoa p) ++ [46]) ++ l else if k = 2 then (([118, 105, 115, 105, 116, 32] ++ itoa p) ++ [46]) ++ itoa v else if k = 3 then [108, 101, 97, 118, 101, 32] ++ itoa v else [63]
theorem fmtStep_1 (p v : Int) (l : List UInt8) : fmtStep 1 p v l = (([101, 118, 97, 108, 32, 36] ++ itoa p) ++ [46]) ++ l := rfl
theorem fmtStep_2 (p v : Int) (l : List UInt8) : fmtStep 2 p v l = (([118, 105, 115, 105, 116, 32] ++ itoa p) ++ [46]) ++ itoa v := rfl
theorem fmtStep_3 (p v : Int) (l : List UInt8) : fmtStep 3 p v l = [108, 101, 97, 118, 101, 32] ++ itoa v := rfl
theorem fmtStep_no {k : Int} (h1 : k ≠ 1) (h2 : k ≠ 2) (h3 : k ≠ 3) (p v : Int) (l : List UInt8) : fmtStep k p v l = [63] := by unfold fmtStep; rw [if_neg h1, if_neg h2, if_neg h3]

set_option maxHeartbeats 1600000 in
set_option maxRecDepth 100000 in
theorem impl_formatOccurrence (n : Int) (l : List UInt8) (h0 : -9223372036854775808 ≤ n) (h1 : n ≤ 9223372036854775807) (hl : l.length ≤ 1048576) (w : World) (hp : Pow w) :
    Calls Tryd.prog 23 #[.agg #[.int .i64 n, .string ⟨l.toArray⟩]] w fun e w' => e = .returned (.string ⟨((([36] ++ itoa n) ++ [46]) ++ l).toArray⟩) ∧ Below w.heap.size w w' := by
  have HF := Lib.hid (fun w' (hb : Below w.heap.size w w') => impl_FormatInt n h0 h1 w' (hp.below hb))
  have hq := itoa_length_le n h0 h1
  generalize itoa n = u at *
  have hadd1 := fun w' => run_string_add_lists (P := Tryd.prog) w' [36] u (by simp) (by omega)
  have hadd2 := fun w' => run_string_add_lists (P := Tryd.prog) w' ([36] ++ u) [46] (by simp; omega) (by simp)
  have hadd3 := fun w' => run_string_add_lists (P := Tryd.prog) w' (([36] ++ u) ++ [46]) l (by simp; omega) (by omega)
  have HB0 := Lib.hid ((Below.refl w.heap.size w).alloc (Nat.le_refl _) (.cells #[.int .i64 n, .string ⟨l.toArray⟩] 52))
  go_enter Tryd.func23, Tryd.ntmps23
  go_wp2_with fail
  go_region_with ((go_at_call 24; refine (HF.out _ (by repeat (first | (with_reducible exact HB0.out) | (with_reducible apply Below.drew) | (with_reducible refine below_drewN ?_ _)) : Below w.heap.size w _)).mono ?_; rintro e w1 ⟨rfl, hb1⟩; have x1 : w1.cell? ⟨w.heap.size, 1, none⟩ = some (.string ⟨l.toArray⟩) := (hb1.cell (p := ⟨w.heap.size, 1, none⟩) (by first | omega | (simp; done) | (simp; omega) | (simp [World.setCell]; omega))).trans (by go_simp); have HB1 := Lib.hid ((by repeat (first | (with_reducible exact HB0.out) | (with_reducible apply Below.drew) | (with_reducible refine below_drewN ?_ _)) : Below w.heap.size w _).trans (hb1.mono (Below.size (by repeat (first | (with_reducible exact HB0.out) | (with_reducible apply Below.drew) | (with_reducible refine below_drewN ?_ _)) : Below w.heap.size w _)))); clear hb1))
  all_goals
    go_wp2
    go_ret
    exact ⟨rfl, by repeat (first | (with_reducible exact HB1.out) | (with_reducible apply Below.drew) | (with_reducible refine below_drewN ?_ _))⟩

set_option maxHeartbeats 1600000 in
set_option maxRecDepth 100000 in
theorem spec_FormatStep (k p v : Int) (l : List UInt8) (hp0 : -9223372036854775808 ≤ p) (hp1 : p ≤ 9223372036854775807) (hv0 : -9223372036854775808 ≤ v) (hv1 : v ≤ 9223372036854775807) (hl : l.length ≤ 1048576) (w : World) :
    Calls Tryd.prog 8 #[.agg #[.int .i64 k, .int .i64 p, .int .i64 v, .string ⟨l.toArray⟩]] w fun e w' => e = .returned (.string ⟨(fmtStep k p v l).toArray⟩) ∧ Below w.heap.size w w' := by
  have HB0 := Lib.hid ((Below.refl w.heap.size w).alloc (Nat.le_refl _) (.cells #[.int .i64 k, .int .i64 p, .int .i64 v, .string ⟨l.toArray⟩] 26))
  have HFP := Lib.hid (fun w' => spec_FormatInt p hp0 hp1 w')
  have HFV := Lib.hid (fun w' => spec_FormatInt v hv0 hv1 w')
  have hqp := itoa_length_le p hp0 hp1
  have hqv := itoa_length_le v hv0 hv1
  rcases (by omega : k = 1 ∨ k = 2 ∨ k = 3 ∨ (k ≠ 1 ∧ k ≠ 2 ∧ k ≠ 3)) with rfl | rfl | rfl | ⟨k1, k2, k3⟩
  · have FIN := Lib.hid (fmtStep_1 p v l)
    clear HFV
    generalize itoa p = u at *
    have hadd1 := fun w' => run_string_add_lists (P := Tryd.prog) w' [101, 118, 97, 108, 32, 36] u (by simp) (by omega)
    have hadd2 := fun w' => run_string_add_lists (P := Tryd.prog) w' ([101, 118, 97, 108, 32, 36] ++ u) [46] (by simp; omega) (by simp)
    have hadd3 := fun w' => run_string_add_lists (P := Tryd.prog) w' (([101, 118, 97, 108, 32, 36] ++ u) ++ [46]) l (by simp; omega) (by omega)
    go_enter Tryd.func8, Tryd.ntmps8
    go_wp2_with fail
    go_region_with ((go_at_call 22; refine (HFP.out _).mono ?_; rintro e w1 ⟨rfl, hb1⟩; have x1 : w1.cell? ⟨w.heap.size, 3, none⟩ = some (.string ⟨l.toArray⟩) := (hb1.cell (p := ⟨w.heap.size, 3, none⟩) (by first | omega | (simp; done) | (simp; omega) | (simp [World.setCell]; omega))).trans (by go_simp); have HB1 := Lib.hid ((by repeat (first | (with_reducible exact HB0.out) | (with_reducible apply Below.drew) | (with_reducible refine below_drewN ?_ _)) : Below w.heap.size w _).trans (hb1.mono (Below.size (by repeat (first | (with_reducible exact HB0.out) | (with_reducible apply Below.drew) | (with_reducible refine below_drewN ?_ _)) : Below w.heap.size w _)))); clear hb1))
    all_goals
      go_wp2
      go_ret
      exact ⟨ret_str FIN.out.symm, by repeat (first | (with_reducible exact HB1.out) | (with_reducible apply Below.drew) | (with_reducible refine below_drewN ?_ _))⟩
  · have FIN := Lib.hid (fmtStep_2 p v l)
    generalize itoa p = u at *
    generalize itoa v = y at *
    have hadd1 := fun w' => run_string_add_lists (P := Tryd.prog) w' [118, 105, 115, 105, 116, 32] u (by simp) (by omega)
    have hadd2 := fun w' => run_string_add_lists (P := Tryd.prog) w' ([118, 105, 115, 105, 116, 32] ++ u) [46] (by simp; omega) (by simp)
    have hadd3 := fun w' => run_string_add_lists (P := Tryd.prog) w' (([118, 105, 115, 105, 116, 32] ++ u) ++ [46]) y (by simp; omega) (by omega)
    go_enter Tryd.func8, Tryd.ntmps8
    go_wp2_with fail
    go_region_with ((first | (go_at_call 22; with_reducible refine (HFP.out _).mono ?_; rintro e w1 ⟨rfl, hb1⟩; have x1 : w1.cell? ⟨w.heap.size, 2, none⟩ = some (.int .i64 v) := (hb1.cell (p := ⟨w.heap.size, 2, none⟩) (by first | omega | (simp; done) | (simp; omega) | (simp [World.setCell]; omega))).trans (by go_simp); have HB1 := Lib.hid ((by repeat (first | (with_reducible exact HB0.out) | (with_reducible apply Below.drew) | (with_reducible refine below_drewN ?_ _)) : Below w.heap.size w _).trans (hb1.mono (Below.size (by repeat (first | (with_reducible exact HB0.out) | (with_reducible apply Below.drew) | (with_reducible refine below_drewN ?_ _)) : Below w.heap.size w _)))); clear hb1) | (go_at_call 22; with_reducible refine (HFV.out _).mono ?_; rintro e w2 ⟨rfl, hb2⟩; have HB2 := Lib.hid ((by repeat (first | (with_reducible exact HB1.out) | (with_reducible apply Below.drew) | (with_reducible refine below_drewN ?_ _)) : Below w.heap.size w _).trans (hb2.mono (Below.size (by repeat (first | (with_reducible exact HB1.out) | (with_reducible apply Below.drew) | (with_reducible refine below_drewN ?_ _)) : Below w.heap.size w _)))); clear hb2)))
    all_goals
      go_wp2
      go_ret
      exact ⟨ret_str FIN.out.symm, by repeat (first | (with_reducible exact HB2.out) | (with_reducible apply Below.drew) | (with_reducible refine below_drewN ?_ _))⟩
  · have FIN := Lib.hid (fmtStep_3 p v l)
    clear HFP
    generalize itoa v = y at *
    have hadd1 := fun w' => run_string_add_lists (P := Tryd.prog) w' [108, 101, 97, 118, 101, 32] y (by simp) (by omega)
    go_enter Tryd.func8, Tryd.ntmps8
    go_wp2_with fail
    refine (HFV.out _).mono ?_
    rintro e w1 ⟨rfl, hb1⟩
    have HB1 := Lib.hid ((by repeat (first | (with_reducible exact HB0.out) | (with_reducible apply Below.drew) | (with_reducible refine below_drewN ?_ _)) : Below w.heap.size w _).trans (hb1.mono (Below.size (by repeat (first | (with_reducible exact HB0.out) | (with_reducible apply Below.drew) | (with_reducible refine below_drewN ?_ _)) : Below w.heap.size w _))))
    clear hb1
    go_wp2
    go_ret
    exact ⟨ret_str FIN.out.symm, HB1.out⟩
  · have FIN := Lib.hid (fmtStep_no k1 k2 k3 p v l)
    have e1 : (k == 1) = false := beq_eq_false_iff_ne.2 k1
    have e2 : (k == 2) = false := beq_eq_false_iff_ne.2 k2
    have e3 : (k == 3) = false := beq_eq_false_iff_ne.2 k3
    clear k1 k2 k3 HFP HFV
    go_enter Tryd.func8, Tryd.ntmps8
    go_wp2
    go_ret
    exact ⟨ret_str FIN.out.symm, HB0.out⟩

set_option maxHeartbeats 1600000 in
set_option maxRecDepth 100000 in
theorem impl_FormatStep (k p v : Int) (l : List UInt8) (hp0 : -9223372036854775808 ≤ p) (hp1 : p ≤ 9223372036854775807) (hv0 : -9223372036854775808 ≤ v) (hv1 : v ≤ 9223372036854775807) (hl : l.length ≤ 1048576) (w : World) (hp : Pow w) :
    Calls Tryd.prog 10 #[.agg #[.int .i64 k, .int .i64 p, .int .i64 v, .string ⟨l.toArray⟩]] w fun e w' => e = .returned (.string ⟨(fmtStep k p v l).toArray⟩) ∧ Below w.heap.size w w' := by
  have HB0 := Lib.hid ((Below.refl w.heap.size w).alloc (Nat.le_refl _) (.cells #[.int .i64 k, .int .i64 p, .int .i64 v, .string ⟨l.toArray⟩] 26))
  have HFP := Lib.hid (fun w' (hb : Below w.heap.size w w') => impl_FormatInt p hp0 hp1 w' (hp.below hb))
  have HFV := Lib.hid (fun w' (hb : Below w.heap.size w w') => impl_FormatInt v hv0 hv1 w' (hp.below hb))
  have hqp := itoa_length_le p hp0 hp1
  have hqv := itoa_length_le v hv0 hv1
  rcases (by omega : k = 1 ∨ k = 2 ∨ k = 3 ∨ (k ≠ 1 ∧ k ≠ 2 ∧ k ≠ 3)) with rfl | rfl | rfl | ⟨k1, k2, k3⟩
  · have FIN := Lib.hid (fmtStep_1 p v l)
    have HO := Lib.hid (fun w' (hb : Below w.heap.size w w') => impl_formatOccurrence p l hp0 hp1 hl w' (hp.below hb))
    clear HFV HFP
    generalize itoa p = u at *
    have hadd1 := fun w' => run_string_add_lists (P := Tryd.prog) w' [101, 118, 97, 108, 32] ((([36] ++ u) ++ [46]) ++ l) (by simp) (by simp; omega)
    go_enter Tryd.func10, Tryd.ntmps10
    go_wp2_with fail
    refine (HO.out _ (by repeat (first | (with_reducible exact HB0.out) | (with_reducible apply Below.drew) | (with_reducible refine below_drewN ?_ _)) : Below w.heap.size w _)).mono ?_
    rintro e w1 ⟨rfl, hb1⟩
    have HB1 := Lib.hid ((by repeat (first | (with_reducible exact HB0.out) | (with_reducible apply Below.drew) | (with_reducible refine below_drewN ?_ _)) : Below w.heap.size w _).trans (hb1.mono (Below.size (by repeat (first | (with_reducible exact HB0.out) | (with_reducible apply Below.drew) | (with_reducible refine below_drewN ?_ _)) : Below w.heap.size w _))))
    clear hb1
    go_wp2
    go_ret
    exact ⟨ret_str (by rw [FIN.out]; simp), HB1.out⟩
  · have FIN := Lib.hid (fmtStep_2 p v l)
    generalize itoa p = u at *
    generalize itoa v = y at *
    have hadd1 := fun w' => run_string_add_lists (P := Tryd.prog) w' [118, 105, 115, 105, 116, 32] u (by simp) (by omega)
    have hadd2 := fun w' => run_string_add_lists (P := Tryd.prog) w' ([118, 105, 115, 105, 116, 32] ++ u) [46] (by simp; omega) (by simp)
    have hadd3 := fun w' => run_string_add_lists (P := Tryd.prog) w' (([118, 105, 115, 105, 116, 32] ++ u) ++ [46]) y (by simp; omega) (by omega)
    go_enter Tryd.func10, Tryd.ntmps10
    go_wp2_with fail
    go_region_with ((first | (go_at_call 24; with_reducible refine (HFP.out _ (by repeat (first | (with_reducible exact HB0.out) | (with_reducible apply Below.drew) | (with_reducible refine below_drewN ?_ _)) : Below w.heap.size w _)).mono ?_; rintro e w1 ⟨rfl, hb1⟩; have x1 : w1.cell? ⟨w.heap.size, 2, none⟩ = some (.int .i64 v) := (hb1.cell (p := ⟨w.heap.size, 2, none⟩) (by first | omega | (simp; done) | (simp; omega) | (simp [World.setCell]; omega))).trans (by go_simp); have HB1 := Lib.hid ((by repeat (first | (with_reducible exact HB0.out) | (with_reducible apply Below.drew) | (with_reducible refine below_drewN ?_ _)) : Below w.heap.size w _).trans (hb1.mono (Below.size (by repeat (first | (with_reducible exact HB0.out) | (with_reducible apply Below.drew) | (with_reducible refine below_drewN ?_ _)) : Below w.heap.size w _)))); clear hb1) | (go_at_call 24; with_reducible refine (HFV.out _ (by repeat (first | (with_reducible exact HB1.out) | (with_reducible apply Below.drew) | (with_reducible refine below_drewN ?_ _)) : Below w.heap.size w _)).mono ?_; rintro e w2 ⟨rfl, hb2⟩; have HB2 := Lib.hid ((by repeat (first | (with_reducible exact HB1.out) | (with_reducible apply Below.drew) | (with_reducible refine below_drewN ?_ _)) : Below w.heap.size w _).trans (hb2.mono (Below.size (by repeat (first | (with_reducible exact HB1.out) | (with_reducible apply Below.drew) | (with_reducible refine below_drewN ?_ _)) : Below w.heap.size w _)))); clear hb2)))
    all_goals
      go_wp2
      go_ret
      exact ⟨ret_str FIN.out.symm, by repeat (first | (with_reducible exact HB2.out) | (with_reducible apply Below.drew) | (with_reducible refine below_drewN ?_ _))⟩
  · have FIN := Lib.hid (fmtStep_3 p v l)
    clear HFP
    generalize itoa v = y at *
    have hadd1 := fun w' => run_string_add_lists (P := Tryd.prog) w' [108, 101, 97, 118, 101, 32] y (by simp) (by omega)
    go_enter Tryd.func10, Tryd.ntmps10
    go_wp2_with fail
    refine (HFV.out _ (by repeat (first | (with_reducible exact HB0.out) | (with_reducible apply Below.drew) | (with_reducible refine below_drewN ?_ _)) : Below w.heap.size w _)).mono ?_
    rintro e w1 ⟨rfl, hb1⟩
    have HB1 := Lib.hid ((by repeat (first | (with_reducible exact HB0.out) | (with_reducible apply Below.drew) | (with_reducible refine below_drewN ?_ _)) : Below w.heap.size w _).trans (hb1.mono (Below.size (by repeat (first | (with_reducible exact HB0.out) | (with_reducible apply Below.drew) | (with_reducible refine below_drewN ?_ _)) : Below w.heap.size w _))))
    clear hb1
    go_wp2
    go_ret
    exact ⟨ret_str FIN.out.symm, HB1.out⟩
  · have FIN := Lib.hid (fmtStep_no k1 k2 k3 p v l)
    have e1 : (k == 1) = false := beq_eq_false_iff_ne.2 k1
    have e2 : (k == 2) = false := beq_eq_false_iff_ne.2 k2
    have e3 : (k == 3) = false := beq_eq_false_iff_ne.2 k3
    clear k1 k2 k3 HFP HFV
    go_enter Tryd.func10, Tryd.ntmps10
    go_wp2
    go_ret
    exact ⟨ret_str FIN.out.symm, HB0.out⟩
end Go.Proofs.YthmgjlejejgecabDoor
