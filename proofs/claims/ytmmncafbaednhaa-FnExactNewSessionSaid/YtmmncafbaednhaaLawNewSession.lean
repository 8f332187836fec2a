/-
  The law FnExactNewSession: the program's NewSession answers as the model's, and its answer owns its memory. No condition.
-/
import Derived.Test.YtmmncafbaednhaaEmpty
import Derived.SizedLaws
namespace Go.Proofs.Ytmmncafbaednhaa.fnExactNewSession
open Go.ChangeShapes Go.WideShapes Go.ChangeAt Go.RowKit Go.WideMaps Go.WideElems
open Go.Lib

set_option maxHeartbeats 1600000 in
set_option maxRecDepth 100000 in
theorem walk (w : World) : Calls Try.prog 3 #[] w fun e w' => e = .returned (.bool true) ∧ Below w.heap.size w w' := by
  have HB0 := Lib.hid (Below.refl w.heap.size w)
  go_enter Try.func3, Try.ntmps3
  go_wp2_with fail
  refine (spec_NewSession _).mono ?_
  rintro e w1 ⟨rfl, hb1⟩
  have hst1 : Below w.heap.size w w1 := Below.trans (by repeat (first | (with_reducible exact Below.refl _ _) | (refine Below.setCell ?_ (by simp <;> omega) _) | (refine Below.alloc ?_ (by simp <;> omega) _)) : Below w.heap.size w _) (hb1.mono (Below.size (by repeat (first | (with_reducible exact Below.refl _ _) | (refine Below.setCell ?_ (by simp <;> omega) _) | (refine Below.alloc ?_ (by simp <;> omega) _)) : Below w.heap.size w _)))
  have HB1 := Lib.hid (HB0.out.trans (hst1.mono HB0.out.size))
  clear hb1 hst1 HB0
  go_wp2_with fail
  refine (impl_NewSession _).mono ?_
  rintro e w2 ⟨rfl, hb2⟩
  have hst2 : Below w1.heap.size w1 w2 := Below.trans (by repeat (first | (with_reducible exact Below.refl _ _) | (refine Below.setCell ?_ (by simp <;> omega) _) | (refine Below.alloc ?_ (by simp <;> omega) _)) : Below w1.heap.size w1 _) (hb2.mono (Below.size (by repeat (first | (with_reducible exact Below.refl _ _) | (refine Below.setCell ?_ (by simp <;> omega) _) | (refine Below.alloc ?_ (by simp <;> omega) _)) : Below w1.heap.size w1 _)))
  have sz2_a : w1.heap.size < w2.heap.size := Nat.lt_of_lt_of_le (by first | omega | (simp; done) | (simp; omega) | (simp [World.setCell]; omega)) hb2.size
  have x2_a_0 : w2.cell? ⟨w1.heap.size, 0, none⟩ = some (.slice none 0 0) := (hb2.cell (p := ⟨w1.heap.size, 0, none⟩) (by first | omega | (simp; done) | (simp; omega) | (simp [World.setCell]; omega))).trans (by go_simp)
  have x2_a_1 : w2.cell? ⟨w1.heap.size, 1, none⟩ = some (.slice none 0 0) := (hb2.cell (p := ⟨w1.heap.size, 1, none⟩) (by first | omega | (simp; done) | (simp; omega) | (simp [World.setCell]; omega))).trans (by go_simp)
  have x2_a_2 : w2.cell? ⟨w1.heap.size, 2, none⟩ = some (.slice none 0 0) := (hb2.cell (p := ⟨w1.heap.size, 2, none⟩) (by first | omega | (simp; done) | (simp; omega) | (simp [World.setCell]; omega))).trans (by go_simp)
  have x2_a_3 : w2.cell? ⟨w1.heap.size, 3, none⟩ = some (.slice none 0 0) := (hb2.cell (p := ⟨w1.heap.size, 3, none⟩) (by first | omega | (simp; done) | (simp; omega) | (simp [World.setCell]; omega))).trans (by go_simp)
  have x2_a_4 : w2.cell? ⟨w1.heap.size, 4, none⟩ = some (.slice none 0 0) := (hb2.cell (p := ⟨w1.heap.size, 4, none⟩) (by first | omega | (simp; done) | (simp; omega) | (simp [World.setCell]; omega))).trans (by go_simp)
  have x2_a_5 : w2.cell? ⟨w1.heap.size, 5, none⟩ = some (.int .i64 1) := (hb2.cell (p := ⟨w1.heap.size, 5, none⟩) (by first | omega | (simp; done) | (simp; omega) | (simp [World.setCell]; omega))).trans (by go_simp)
  have HB2 := Lib.hid (HB1.out.trans (hst2.mono HB1.out.size))
  clear hb2 hst2 HB1
  go_wp2_with fail
  refine (e_eqSession _).mono ?_
  rintro e w3 ⟨rfl, hb3⟩
  have hst3 : Below w2.heap.size w2 w3 := Below.trans (by repeat (first | (with_reducible exact Below.refl _ _) | (refine Below.setCell ?_ (by simp <;> omega) _) | (refine Below.alloc ?_ (by simp <;> omega) _)) : Below w2.heap.size w2 _) (hb3.mono (Below.size (by repeat (first | (with_reducible exact Below.refl _ _) | (refine Below.setCell ?_ (by simp <;> omega) _) | (refine Below.alloc ?_ (by simp <;> omega) _)) : Below w2.heap.size w2 _)))
  have sz3_a : w1.heap.size < w3.heap.size := Nat.lt_of_lt_of_le sz2_a hst3.size
  have x3_a_0 : w3.cell? ⟨w1.heap.size, 0, none⟩ = some (.slice none 0 0) := (hst3.cell (p := ⟨w1.heap.size, 0, none⟩) sz2_a).trans x2_a_0
  have x3_a_1 : w3.cell? ⟨w1.heap.size, 1, none⟩ = some (.slice none 0 0) := (hst3.cell (p := ⟨w1.heap.size, 1, none⟩) sz2_a).trans x2_a_1
  have x3_a_2 : w3.cell? ⟨w1.heap.size, 2, none⟩ = some (.slice none 0 0) := (hst3.cell (p := ⟨w1.heap.size, 2, none⟩) sz2_a).trans x2_a_2
  have x3_a_3 : w3.cell? ⟨w1.heap.size, 3, none⟩ = some (.slice none 0 0) := (hst3.cell (p := ⟨w1.heap.size, 3, none⟩) sz2_a).trans x2_a_3
  have x3_a_4 : w3.cell? ⟨w1.heap.size, 4, none⟩ = some (.slice none 0 0) := (hst3.cell (p := ⟨w1.heap.size, 4, none⟩) sz2_a).trans x2_a_4
  have x3_a_5 : w3.cell? ⟨w1.heap.size, 5, none⟩ = some (.int .i64 1) := (hst3.cell (p := ⟨w1.heap.size, 5, none⟩) sz2_a).trans x2_a_5
  have sz3_b : w2.heap.size < w3.heap.size := Nat.lt_of_lt_of_le (by first | omega | (simp; done) | (simp; omega) | (simp [World.setCell]; omega)) hb3.size
  have x3_b_0 : w3.cell? ⟨w2.heap.size, 0, none⟩ = some (.slice none 0 0) := (hb3.cell (p := ⟨w2.heap.size, 0, none⟩) (by first | omega | (simp; done) | (simp; omega) | (simp [World.setCell]; omega))).trans (by go_simp)
  have x3_b_1 : w3.cell? ⟨w2.heap.size, 1, none⟩ = some (.slice none 0 0) := (hb3.cell (p := ⟨w2.heap.size, 1, none⟩) (by first | omega | (simp; done) | (simp; omega) | (simp [World.setCell]; omega))).trans (by go_simp)
  have x3_b_2 : w3.cell? ⟨w2.heap.size, 2, none⟩ = some (.slice none 0 0) := (hb3.cell (p := ⟨w2.heap.size, 2, none⟩) (by first | omega | (simp; done) | (simp; omega) | (simp [World.setCell]; omega))).trans (by go_simp)
  have x3_b_3 : w3.cell? ⟨w2.heap.size, 3, none⟩ = some (.slice none 0 0) := (hb3.cell (p := ⟨w2.heap.size, 3, none⟩) (by first | omega | (simp; done) | (simp; omega) | (simp [World.setCell]; omega))).trans (by go_simp)
  have x3_b_4 : w3.cell? ⟨w2.heap.size, 4, none⟩ = some (.slice none 0 0) := (hb3.cell (p := ⟨w2.heap.size, 4, none⟩) (by first | omega | (simp; done) | (simp; omega) | (simp [World.setCell]; omega))).trans (by go_simp)
  have x3_b_5 : w3.cell? ⟨w2.heap.size, 5, none⟩ = some (.int .i64 1) := (hb3.cell (p := ⟨w2.heap.size, 5, none⟩) (by first | omega | (simp; done) | (simp; omega) | (simp [World.setCell]; omega))).trans (by go_simp)
  have HB3 := Lib.hid (HB2.out.trans (hst3.mono HB2.out.size))
  clear hb3 hst3 HB2 x2_a_0 x2_a_1 x2_a_2 x2_a_3 x2_a_4 x2_a_5 sz2_a
  go_wp2_with fail
  refine (e_markSession _).mono ?_
  rintro e w4 ⟨rfl, hb4⟩
  have hst4 : Below w3.heap.size w3 w4 := Below.trans (by repeat (first | (with_reducible exact Below.refl _ _) | (refine Below.setCell ?_ (by simp <;> omega) _) | (refine Below.alloc ?_ (by simp <;> omega) _)) : Below w3.heap.size w3 _) (hb4.mono (Below.size (by repeat (first | (with_reducible exact Below.refl _ _) | (refine Below.setCell ?_ (by simp <;> omega) _) | (refine Below.alloc ?_ (by simp <;> omega) _)) : Below w3.heap.size w3 _)))
  have sz4_a : w1.heap.size < w4.heap.size := Nat.lt_of_lt_of_le sz3_a hst4.size
  have x4_a_0 : w4.cell? ⟨w1.heap.size, 0, none⟩ = some (.slice none 0 0) := (hst4.cell (p := ⟨w1.heap.size, 0, none⟩) sz3_a).trans x3_a_0
  have x4_a_1 : w4.cell? ⟨w1.heap.size, 1, none⟩ = some (.slice none 0 0) := (hst4.cell (p := ⟨w1.heap.size, 1, none⟩) sz3_a).trans x3_a_1
  have x4_a_2 : w4.cell? ⟨w1.heap.size, 2, none⟩ = some (.slice none 0 0) := (hst4.cell (p := ⟨w1.heap.size, 2, none⟩) sz3_a).trans x3_a_2
  have x4_a_3 : w4.cell? ⟨w1.heap.size, 3, none⟩ = some (.slice none 0 0) := (hst4.cell (p := ⟨w1.heap.size, 3, none⟩) sz3_a).trans x3_a_3
  have x4_a_4 : w4.cell? ⟨w1.heap.size, 4, none⟩ = some (.slice none 0 0) := (hst4.cell (p := ⟨w1.heap.size, 4, none⟩) sz3_a).trans x3_a_4
  have x4_a_5 : w4.cell? ⟨w1.heap.size, 5, none⟩ = some (.int .i64 1) := (hst4.cell (p := ⟨w1.heap.size, 5, none⟩) sz3_a).trans x3_a_5
  have sz4_b : w2.heap.size < w4.heap.size := Nat.lt_of_lt_of_le sz3_b hst4.size
  have x4_b_0 : w4.cell? ⟨w2.heap.size, 0, none⟩ = some (.slice none 0 0) := (hst4.cell (p := ⟨w2.heap.size, 0, none⟩) sz3_b).trans x3_b_0
  have x4_b_1 : w4.cell? ⟨w2.heap.size, 1, none⟩ = some (.slice none 0 0) := (hst4.cell (p := ⟨w2.heap.size, 1, none⟩) sz3_b).trans x3_b_1
  have x4_b_2 : w4.cell? ⟨w2.heap.size, 2, none⟩ = some (.slice none 0 0) := (hst4.cell (p := ⟨w2.heap.size, 2, none⟩) sz3_b).trans x3_b_2
  have x4_b_3 : w4.cell? ⟨w2.heap.size, 3, none⟩ = some (.slice none 0 0) := (hst4.cell (p := ⟨w2.heap.size, 3, none⟩) sz3_b).trans x3_b_3
  have x4_b_4 : w4.cell? ⟨w2.heap.size, 4, none⟩ = some (.slice none 0 0) := (hst4.cell (p := ⟨w2.heap.size, 4, none⟩) sz3_b).trans x3_b_4
  have x4_b_5 : w4.cell? ⟨w2.heap.size, 5, none⟩ = some (.int .i64 1) := (hst4.cell (p := ⟨w2.heap.size, 5, none⟩) sz3_b).trans x3_b_5
  have HB4 := Lib.hid (HB3.out.trans (hst4.mono HB3.out.size))
  clear hb4 hst4 HB3 x3_a_0 x3_a_1 x3_a_2 x3_a_3 x3_a_4 x3_a_5 sz3_a x3_b_0 x3_b_1 x3_b_2 x3_b_3 x3_b_4 x3_b_5 sz3_b
  go_wp2_with fail
  refine (e_heldSession _).mono ?_
  rintro e w5 ⟨rfl, hb5⟩
  have hst5 : Below w4.heap.size w4 w5 := Below.trans (by repeat (first | (with_reducible exact Below.refl _ _) | (refine Below.setCell ?_ (by simp <;> omega) _) | (refine Below.alloc ?_ (by simp <;> omega) _)) : Below w4.heap.size w4 _) (hb5.mono (Below.size (by repeat (first | (with_reducible exact Below.refl _ _) | (refine Below.setCell ?_ (by simp <;> omega) _) | (refine Below.alloc ?_ (by simp <;> omega) _)) : Below w4.heap.size w4 _)))
  have sz5_a : w1.heap.size < w5.heap.size := Nat.lt_of_lt_of_le sz4_a hst5.size
  have x5_a_0 : w5.cell? ⟨w1.heap.size, 0, none⟩ = some (.slice none 0 0) := (hst5.cell (p := ⟨w1.heap.size, 0, none⟩) sz4_a).trans x4_a_0
  have x5_a_1 : w5.cell? ⟨w1.heap.size, 1, none⟩ = some (.slice none 0 0) := (hst5.cell (p := ⟨w1.heap.size, 1, none⟩) sz4_a).trans x4_a_1
  have x5_a_2 : w5.cell? ⟨w1.heap.size, 2, none⟩ = some (.slice none 0 0) := (hst5.cell (p := ⟨w1.heap.size, 2, none⟩) sz4_a).trans x4_a_2
  have x5_a_3 : w5.cell? ⟨w1.heap.size, 3, none⟩ = some (.slice none 0 0) := (hst5.cell (p := ⟨w1.heap.size, 3, none⟩) sz4_a).trans x4_a_3
  have x5_a_4 : w5.cell? ⟨w1.heap.size, 4, none⟩ = some (.slice none 0 0) := (hst5.cell (p := ⟨w1.heap.size, 4, none⟩) sz4_a).trans x4_a_4
  have x5_a_5 : w5.cell? ⟨w1.heap.size, 5, none⟩ = some (.int .i64 1) := (hst5.cell (p := ⟨w1.heap.size, 5, none⟩) sz4_a).trans x4_a_5
  have sz5_b : w2.heap.size < w5.heap.size := Nat.lt_of_lt_of_le sz4_b hst5.size
  have x5_b_0 : w5.cell? ⟨w2.heap.size, 0, none⟩ = some (.slice none 0 0) := (hst5.cell (p := ⟨w2.heap.size, 0, none⟩) sz4_b).trans x4_b_0
  have x5_b_1 : w5.cell? ⟨w2.heap.size, 1, none⟩ = some (.slice none 0 0) := (hst5.cell (p := ⟨w2.heap.size, 1, none⟩) sz4_b).trans x4_b_1
  have x5_b_2 : w5.cell? ⟨w2.heap.size, 2, none⟩ = some (.slice none 0 0) := (hst5.cell (p := ⟨w2.heap.size, 2, none⟩) sz4_b).trans x4_b_2
  have x5_b_3 : w5.cell? ⟨w2.heap.size, 3, none⟩ = some (.slice none 0 0) := (hst5.cell (p := ⟨w2.heap.size, 3, none⟩) sz4_b).trans x4_b_3
  have x5_b_4 : w5.cell? ⟨w2.heap.size, 4, none⟩ = some (.slice none 0 0) := (hst5.cell (p := ⟨w2.heap.size, 4, none⟩) sz4_b).trans x4_b_4
  have x5_b_5 : w5.cell? ⟨w2.heap.size, 5, none⟩ = some (.int .i64 1) := (hst5.cell (p := ⟨w2.heap.size, 5, none⟩) sz4_b).trans x4_b_5
  have HB5 := Lib.hid (HB4.out.trans (hst5.mono HB4.out.size))
  clear hb5 hst5 HB4 x4_a_0 x4_a_1 x4_a_2 x4_a_3 x4_a_4 x4_a_5 sz4_a x4_b_0 x4_b_1 x4_b_2 x4_b_3 x4_b_4 x4_b_5 sz4_b
  go_wp2_with fail
  refine (impl_NewSession _).mono ?_
  rintro e w6 ⟨rfl, hb6⟩
  have hst6 : Below w5.heap.size w5 w6 := Below.trans (by repeat (first | (with_reducible exact Below.refl _ _) | (refine Below.setCell ?_ (by simp <;> omega) _) | (refine Below.alloc ?_ (by simp <;> omega) _)) : Below w5.heap.size w5 _) (hb6.mono (Below.size (by repeat (first | (with_reducible exact Below.refl _ _) | (refine Below.setCell ?_ (by simp <;> omega) _) | (refine Below.alloc ?_ (by simp <;> omega) _)) : Below w5.heap.size w5 _)))
  have sz6_a : w1.heap.size < w6.heap.size := Nat.lt_of_lt_of_le sz5_a hst6.size
  have x6_a_0 : w6.cell? ⟨w1.heap.size, 0, none⟩ = some (.slice none 0 0) := (hst6.cell (p := ⟨w1.heap.size, 0, none⟩) sz5_a).trans x5_a_0
  have x6_a_1 : w6.cell? ⟨w1.heap.size, 1, none⟩ = some (.slice none 0 0) := (hst6.cell (p := ⟨w1.heap.size, 1, none⟩) sz5_a).trans x5_a_1
  have x6_a_2 : w6.cell? ⟨w1.heap.size, 2, none⟩ = some (.slice none 0 0) := (hst6.cell (p := ⟨w1.heap.size, 2, none⟩) sz5_a).trans x5_a_2
  have x6_a_3 : w6.cell? ⟨w1.heap.size, 3, none⟩ = some (.slice none 0 0) := (hst6.cell (p := ⟨w1.heap.size, 3, none⟩) sz5_a).trans x5_a_3
  have x6_a_4 : w6.cell? ⟨w1.heap.size, 4, none⟩ = some (.slice none 0 0) := (hst6.cell (p := ⟨w1.heap.size, 4, none⟩) sz5_a).trans x5_a_4
  have x6_a_5 : w6.cell? ⟨w1.heap.size, 5, none⟩ = some (.int .i64 1) := (hst6.cell (p := ⟨w1.heap.size, 5, none⟩) sz5_a).trans x5_a_5
  have sz6_b : w2.heap.size < w6.heap.size := Nat.lt_of_lt_of_le sz5_b hst6.size
  have x6_b_0 : w6.cell? ⟨w2.heap.size, 0, none⟩ = some (.slice none 0 0) := (hst6.cell (p := ⟨w2.heap.size, 0, none⟩) sz5_b).trans x5_b_0
  have x6_b_1 : w6.cell? ⟨w2.heap.size, 1, none⟩ = some (.slice none 0 0) := (hst6.cell (p := ⟨w2.heap.size, 1, none⟩) sz5_b).trans x5_b_1
  have x6_b_2 : w6.cell? ⟨w2.heap.size, 2, none⟩ = some (.slice none 0 0) := (hst6.cell (p := ⟨w2.heap.size, 2, none⟩) sz5_b).trans x5_b_2
  have x6_b_3 : w6.cell? ⟨w2.heap.size, 3, none⟩ = some (.slice none 0 0) := (hst6.cell (p := ⟨w2.heap.size, 3, none⟩) sz5_b).trans x5_b_3
  have x6_b_4 : w6.cell? ⟨w2.heap.size, 4, none⟩ = some (.slice none 0 0) := (hst6.cell (p := ⟨w2.heap.size, 4, none⟩) sz5_b).trans x5_b_4
  have x6_b_5 : w6.cell? ⟨w2.heap.size, 5, none⟩ = some (.int .i64 1) := (hst6.cell (p := ⟨w2.heap.size, 5, none⟩) sz5_b).trans x5_b_5
  have HB6 := Lib.hid (HB5.out.trans (hst6.mono HB5.out.size))
  clear hb6 hst6 HB5 x5_a_0 x5_a_1 x5_a_2 x5_a_3 x5_a_4 x5_a_5 sz5_a x5_b_0 x5_b_1 x5_b_2 x5_b_3 x5_b_4 x5_b_5 sz5_b
  go_wp2_with fail
  refine (e_eqSession _).mono ?_
  rintro e w7 ⟨rfl, hb7⟩
  have hst7 : Below w6.heap.size w6 w7 := Below.trans (by repeat (first | (with_reducible exact Below.refl _ _) | (refine Below.setCell ?_ (by simp <;> omega) _) | (refine Below.alloc ?_ (by simp <;> omega) _)) : Below w6.heap.size w6 _) (hb7.mono (Below.size (by repeat (first | (with_reducible exact Below.refl _ _) | (refine Below.setCell ?_ (by simp <;> omega) _) | (refine Below.alloc ?_ (by simp <;> omega) _)) : Below w6.heap.size w6 _)))
  have sz7_a : w1.heap.size < w7.heap.size := Nat.lt_of_lt_of_le sz6_a hst7.size
  have x7_a_0 : w7.cell? ⟨w1.heap.size, 0, none⟩ = some (.slice none 0 0) := (hst7.cell (p := ⟨w1.heap.size, 0, none⟩) sz6_a).trans x6_a_0
  have x7_a_1 : w7.cell? ⟨w1.heap.size, 1, none⟩ = some (.slice none 0 0) := (hst7.cell (p := ⟨w1.heap.size, 1, none⟩) sz6_a).trans x6_a_1
  have x7_a_2 : w7.cell? ⟨w1.heap.size, 2, none⟩ = some (.slice none 0 0) := (hst7.cell (p := ⟨w1.heap.size, 2, none⟩) sz6_a).trans x6_a_2
  have x7_a_3 : w7.cell? ⟨w1.heap.size, 3, none⟩ = some (.slice none 0 0) := (hst7.cell (p := ⟨w1.heap.size, 3, none⟩) sz6_a).trans x6_a_3
  have x7_a_4 : w7.cell? ⟨w1.heap.size, 4, none⟩ = some (.slice none 0 0) := (hst7.cell (p := ⟨w1.heap.size, 4, none⟩) sz6_a).trans x6_a_4
  have x7_a_5 : w7.cell? ⟨w1.heap.size, 5, none⟩ = some (.int .i64 1) := (hst7.cell (p := ⟨w1.heap.size, 5, none⟩) sz6_a).trans x6_a_5
  have sz7_b : w2.heap.size < w7.heap.size := Nat.lt_of_lt_of_le sz6_b hst7.size
  have x7_b_0 : w7.cell? ⟨w2.heap.size, 0, none⟩ = some (.slice none 0 0) := (hst7.cell (p := ⟨w2.heap.size, 0, none⟩) sz6_b).trans x6_b_0
  have x7_b_1 : w7.cell? ⟨w2.heap.size, 1, none⟩ = some (.slice none 0 0) := (hst7.cell (p := ⟨w2.heap.size, 1, none⟩) sz6_b).trans x6_b_1
  have x7_b_2 : w7.cell? ⟨w2.heap.size, 2, none⟩ = some (.slice none 0 0) := (hst7.cell (p := ⟨w2.heap.size, 2, none⟩) sz6_b).trans x6_b_2
  have x7_b_3 : w7.cell? ⟨w2.heap.size, 3, none⟩ = some (.slice none 0 0) := (hst7.cell (p := ⟨w2.heap.size, 3, none⟩) sz6_b).trans x6_b_3
  have x7_b_4 : w7.cell? ⟨w2.heap.size, 4, none⟩ = some (.slice none 0 0) := (hst7.cell (p := ⟨w2.heap.size, 4, none⟩) sz6_b).trans x6_b_4
  have x7_b_5 : w7.cell? ⟨w2.heap.size, 5, none⟩ = some (.int .i64 1) := (hst7.cell (p := ⟨w2.heap.size, 5, none⟩) sz6_b).trans x6_b_5
  have sz7_c : w6.heap.size < w7.heap.size := Nat.lt_of_lt_of_le (by first | omega | (simp; done) | (simp; omega) | (simp [World.setCell]; omega)) hb7.size
  have x7_c_0 : w7.cell? ⟨w6.heap.size, 0, none⟩ = some (.slice none 0 0) := (hb7.cell (p := ⟨w6.heap.size, 0, none⟩) (by first | omega | (simp; done) | (simp; omega) | (simp [World.setCell]; omega))).trans (by go_simp)
  have x7_c_1 : w7.cell? ⟨w6.heap.size, 1, none⟩ = some (.slice none 0 0) := (hb7.cell (p := ⟨w6.heap.size, 1, none⟩) (by first | omega | (simp; done) | (simp; omega) | (simp [World.setCell]; omega))).trans (by go_simp)
  have x7_c_2 : w7.cell? ⟨w6.heap.size, 2, none⟩ = some (.slice none 0 0) := (hb7.cell (p := ⟨w6.heap.size, 2, none⟩) (by first | omega | (simp; done) | (simp; omega) | (simp [World.setCell]; omega))).trans (by go_simp)
  have x7_c_3 : w7.cell? ⟨w6.heap.size, 3, none⟩ = some (.slice none 0 0) := (hb7.cell (p := ⟨w6.heap.size, 3, none⟩) (by first | omega | (simp; done) | (simp; omega) | (simp [World.setCell]; omega))).trans (by go_simp)
  have x7_c_4 : w7.cell? ⟨w6.heap.size, 4, none⟩ = some (.slice none 0 0) := (hb7.cell (p := ⟨w6.heap.size, 4, none⟩) (by first | omega | (simp; done) | (simp; omega) | (simp [World.setCell]; omega))).trans (by go_simp)
  have x7_c_5 : w7.cell? ⟨w6.heap.size, 5, none⟩ = some (.int .i64 1) := (hb7.cell (p := ⟨w6.heap.size, 5, none⟩) (by first | omega | (simp; done) | (simp; omega) | (simp [World.setCell]; omega))).trans (by go_simp)
  have HB7 := Lib.hid (HB6.out.trans (hst7.mono HB6.out.size))
  clear hb7 hst7 HB6 x6_a_0 x6_a_1 x6_a_2 x6_a_3 x6_a_4 x6_a_5 sz6_a x6_b_0 x6_b_1 x6_b_2 x6_b_3 x6_b_4 x6_b_5 sz6_b
  go_wp2_with fail
  refine (e_heldSession _).mono ?_
  rintro e w8 ⟨rfl, hb8⟩
  have hst8 : Below w7.heap.size w7 w8 := Below.trans (by repeat (first | (with_reducible exact Below.refl _ _) | (refine Below.setCell ?_ (by simp <;> omega) _) | (refine Below.alloc ?_ (by simp <;> omega) _)) : Below w7.heap.size w7 _) (hb8.mono (Below.size (by repeat (first | (with_reducible exact Below.refl _ _) | (refine Below.setCell ?_ (by simp <;> omega) _) | (refine Below.alloc ?_ (by simp <;> omega) _)) : Below w7.heap.size w7 _)))
  have sz8_a : w1.heap.size < w8.heap.size := Nat.lt_of_lt_of_le sz7_a hst8.size
  have x8_a_0 : w8.cell? ⟨w1.heap.size, 0, none⟩ = some (.slice none 0 0) := (hst8.cell (p := ⟨w1.heap.size, 0, none⟩) sz7_a).trans x7_a_0
  have x8_a_1 : w8.cell? ⟨w1.heap.size, 1, none⟩ = some (.slice none 0 0) := (hst8.cell (p := ⟨w1.heap.size, 1, none⟩) sz7_a).trans x7_a_1
  have x8_a_2 : w8.cell? ⟨w1.heap.size, 2, none⟩ = some (.slice none 0 0) := (hst8.cell (p := ⟨w1.heap.size, 2, none⟩) sz7_a).trans x7_a_2
  have x8_a_3 : w8.cell? ⟨w1.heap.size, 3, none⟩ = some (.slice none 0 0) := (hst8.cell (p := ⟨w1.heap.size, 3, none⟩) sz7_a).trans x7_a_3
  have x8_a_4 : w8.cell? ⟨w1.heap.size, 4, none⟩ = some (.slice none 0 0) := (hst8.cell (p := ⟨w1.heap.size, 4, none⟩) sz7_a).trans x7_a_4
  have x8_a_5 : w8.cell? ⟨w1.heap.size, 5, none⟩ = some (.int .i64 1) := (hst8.cell (p := ⟨w1.heap.size, 5, none⟩) sz7_a).trans x7_a_5
  have sz8_b : w2.heap.size < w8.heap.size := Nat.lt_of_lt_of_le sz7_b hst8.size
  have x8_b_0 : w8.cell? ⟨w2.heap.size, 0, none⟩ = some (.slice none 0 0) := (hst8.cell (p := ⟨w2.heap.size, 0, none⟩) sz7_b).trans x7_b_0
  have x8_b_1 : w8.cell? ⟨w2.heap.size, 1, none⟩ = some (.slice none 0 0) := (hst8.cell (p := ⟨w2.heap.size, 1, none⟩) sz7_b).trans x7_b_1
  have x8_b_2 : w8.cell? ⟨w2.heap.size, 2, none⟩ = some (.slice none 0 0) := (hst8.cell (p := ⟨w2.heap.size, 2, none⟩) sz7_b).trans x7_b_2
  have x8_b_3 : w8.cell? ⟨w2.heap.size, 3, none⟩ = some (.slice none 0 0) := (hst8.cell (p := ⟨w2.heap.size, 3, none⟩) sz7_b).trans x7_b_3
  have x8_b_4 : w8.cell? ⟨w2.heap.size, 4, none⟩ = some (.slice none 0 0) := (hst8.cell (p := ⟨w2.heap.size, 4, none⟩) sz7_b).trans x7_b_4
  have x8_b_5 : w8.cell? ⟨w2.heap.size, 5, none⟩ = some (.int .i64 1) := (hst8.cell (p := ⟨w2.heap.size, 5, none⟩) sz7_b).trans x7_b_5
  have sz8_c : w6.heap.size < w8.heap.size := Nat.lt_of_lt_of_le sz7_c hst8.size
  have x8_c_0 : w8.cell? ⟨w6.heap.size, 0, none⟩ = some (.slice none 0 0) := (hst8.cell (p := ⟨w6.heap.size, 0, none⟩) sz7_c).trans x7_c_0
  have x8_c_1 : w8.cell? ⟨w6.heap.size, 1, none⟩ = some (.slice none 0 0) := (hst8.cell (p := ⟨w6.heap.size, 1, none⟩) sz7_c).trans x7_c_1
  have x8_c_2 : w8.cell? ⟨w6.heap.size, 2, none⟩ = some (.slice none 0 0) := (hst8.cell (p := ⟨w6.heap.size, 2, none⟩) sz7_c).trans x7_c_2
  have x8_c_3 : w8.cell? ⟨w6.heap.size, 3, none⟩ = some (.slice none 0 0) := (hst8.cell (p := ⟨w6.heap.size, 3, none⟩) sz7_c).trans x7_c_3
  have x8_c_4 : w8.cell? ⟨w6.heap.size, 4, none⟩ = some (.slice none 0 0) := (hst8.cell (p := ⟨w6.heap.size, 4, none⟩) sz7_c).trans x7_c_4
  have x8_c_5 : w8.cell? ⟨w6.heap.size, 5, none⟩ = some (.int .i64 1) := (hst8.cell (p := ⟨w6.heap.size, 5, none⟩) sz7_c).trans x7_c_5
  have HB8 := Lib.hid (HB7.out.trans (hst8.mono HB7.out.size))
  clear hb8 hst8 HB7 x7_a_0 x7_a_1 x7_a_2 x7_a_3 x7_a_4 x7_a_5 sz7_a x7_b_0 x7_b_1 x7_b_2 x7_b_3 x7_b_4 x7_b_5 sz7_b x7_c_0 x7_c_1 x7_c_2 x7_c_3 x7_c_4 x7_c_5 sz7_c
  go_wp2
  go_ret
  exact ⟨rfl, HB8.out⟩

set_option maxRecDepth 100000 in
theorem lifted (os : Os) (started : os.Started) (H : Type) (enc : TypeId × Value → H) :
    ReturnsInHanded {} Try.checked os 3 .any (Rows.fnExactNewSessionSpec.pre6 enc Try.prog Try.f3 Rows.fnExactNewSessionRow.domain false) (Rows.fnExactNewSessionSpec.post enc Try.prog Try.f3 false true false false) := by
  refine returnsInHanded_of_change_sized (C := Try.checked) own started (by kernel_rfl) Try.func3
    (ChangeSpec.witness6 (enc := enc) (C := Try.checked) false ⟨#[], #[], []⟩ 8 (by kernel_rfl) (by kernel_rfl) (by kernel_rfl) (by kernel_rfl)) ?_
  intro W base args ds gs before hval0 hW _ hsz0 _
  obtain ⟨p, q, hA0, hV, hps, hfz, hnd⟩ := id hW
  have hA : DataW.TrodAll enc Try.prog W 0 (fun _ => true) true Try.f3.params.toList args.toList ds p := hA0
  rw [Try.params3] at hA
  obtain ⟨hargs, rfl, rfl⟩ := trodAll_nil hA
  obtain rfl : args = #[] := by cases args; simp_all
  refine (walk W).mono fun e W' ⟨he, hg⟩ => ?_
  subst he
  exact ⟨_, rfl, law_post laidOut (by kernel_rfl) rfl Try.underlying4 rfl rfl hW hg⟩

theorem said : Rows.FnExactNewSessionSaid :=
  OpenClaim.holds_of_wide 3 Try.f3 rfl rfl rfl rfl rfl rfl rfl ⟨rfl, rfl, rfl, rfl, rfl⟩ rfl rfl rfl rfl rfl (by kernel_rfl) Try.func3 (by kernel_rfl)
    (of_decide_eq_true (by kernel_rfl)) (by unfold Func.isWrapper; first | (rw [if_pos (by decide +kernel)]; kernel_rfl) | (rw [if_neg (by decide +kernel)]; exact ⟨rfl, rfl⟩))
    (fun os started H enc _ => lifted os started H enc)
#print axioms said
end Go.Proofs.Ytmmncafbaednhaa.fnExactNewSession
