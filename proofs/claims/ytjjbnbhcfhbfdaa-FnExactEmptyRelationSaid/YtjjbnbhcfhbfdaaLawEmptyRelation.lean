/-
  The law FnExactEmptyRelation: for every number the program's EmptyRelation answers as the model's, and its answer owns its memory. No condition.
-/
import Derived.Test.YtjjbnbhcfhbfdaaEmptyRel
import Derived.Test.YtjjbnbhcfhbfdaaOwnAt
import Derived.SizedLaws
namespace Go.Proofs.Ytjjbnbhcfhbfdaa.fnExactEmptyRelation
open Go.ChangeShapes Go.WideShapes Go.ChangeAt Go.RowKit Go.WideMaps Go.WideElems
open Go.ChangeMaps (open_string)
open Go.Lib Go.Deep

set_option maxHeartbeats 3200000 in
set_option maxRecDepth 100000 in
theorem walk (vN : Int) (ok_vN : okI vN) (w : World) :
    Calls Try.prog 5 #[.int .i64 vN] w fun e w' => e = .returned (.bool true) ∧ Below w.heap.size w w' := by
  have okb_vN : -9223372036854775808 ≤ vN ∧ vN ≤ 9223372036854775807 := ok_vN
  have OK_vN := Lib.hid ok_vN
  clear ok_vN
  have hq_R : DRelation.sz (emptyRel vN) ≤ 1048576 := emptyRel_sz vN
  go_enter Try.func5, Try.ntmps5
  go_wp2_with fail
  refine (spec_EmptyRelation vN OK_vN.out _).mono ?_
  rintro e w1 ⟨a1_R_1, c1_R_1, rfl, ho1, hb1⟩
  have hst1 : Below w.heap.size w w1 := Below.trans (by repeat (first | (with_reducible exact Below.refl _ _) | (with_reducible apply Below.drew) | (with_reducible refine below_drewN ?_ _) | (refine Below.setCell ?_ (by simp <;> omega) _) | (refine Below.alloc ?_ (by simp <;> omega) _)) : Below w.heap.size w _) (hb1.mono (Below.size (by repeat (first | (with_reducible exact Below.refl _ _) | (with_reducible apply Below.drew) | (with_reducible refine below_drewN ?_ _) | (refine Below.setCell ?_ (by simp <;> omega) _) | (refine Below.alloc ?_ (by simp <;> omega) _)) : Below w.heap.size w _)))
  have hr1 : w.heap.size ≤ w1.heap.size := Nat.le_trans (by first | exact Nat.le_refl _ | (simp; done) | (simp; omega) | (simp [World.setCell]; done) | (simp [World.setCell]; omega)) hb1.size
  have HO1_1_R_1 := Lib.hid (show Own w1 (fun y => w.heap.size ≤ y ∧ y < w1.heap.size) (.sl 1 (emptyRel vN).fRows.length (fun k => ictI ((emptyRel vN).fRows.getD k default))) (.slice a1_R_1 (emptyRel vN).fRows.length c1_R_1) from Own.sub (F := fun y => _ ≤ y ∧ y < _) ho1 (fun y hy => ⟨Nat.le_trans (by first | exact Nat.le_refl _ | (simp; done) | (simp; omega) | (simp [World.setCell]; done) | (simp [World.setCell]; omega)) hy.1, hy.2⟩))
  have HB1 := Lib.hid ((Below.refl w.heap.size w).trans (hst1.mono (Below.refl w.heap.size w).size))
  clear ho1 hb1 hst1
  go_wp2_with fail
  refine (impl_EmptyRelation vN OK_vN.out _).mono ?_
  rintro e w2 ⟨a1_R_2, c1_R_2, rfl, ho2, hb2⟩
  have hst2 : Below w1.heap.size w1 w2 := Below.trans (by repeat (first | (with_reducible exact Below.refl _ _) | (with_reducible apply Below.drew) | (with_reducible refine below_drewN ?_ _) | (refine Below.setCell ?_ (by simp <;> omega) _) | (refine Below.alloc ?_ (by simp <;> omega) _)) : Below w1.heap.size w1 _) (hb2.mono (Below.size (by repeat (first | (with_reducible exact Below.refl _ _) | (with_reducible apply Below.drew) | (with_reducible refine below_drewN ?_ _) | (refine Below.setCell ?_ (by simp <;> omega) _) | (refine Below.alloc ?_ (by simp <;> omega) _)) : Below w1.heap.size w1 _)))
  have hr2 : w1.heap.size + 1 ≤ w2.heap.size := Nat.le_trans (by first | exact Nat.le_refl _ | (simp; done) | (simp; omega) | (simp [World.setCell]; done) | (simp [World.setCell]; omega)) hb2.size
  have sz2_w0 : w1.heap.size < w2.heap.size := Nat.lt_of_lt_of_le (by first | omega | (simp; done) | (simp; omega) | (simp [World.setCell]; omega)) hb2.size
  have bx2_w0_0 : w2.cell? ⟨w1.heap.size, 0, none⟩ = some (.int .i64 (emptyRel vN).fN) := (hb2.cell (p := ⟨w1.heap.size, 0, none⟩) (by first | omega | (simp; done) | (simp; omega) | (simp [World.setCell]; omega))).trans (by go_simp)
  have bx2_w0_1 : w2.cell? ⟨w1.heap.size, 1, none⟩ = some (.slice a1_R_1 (emptyRel vN).fRows.length c1_R_1) := (hb2.cell (p := ⟨w1.heap.size, 1, none⟩) (by first | omega | (simp; done) | (simp; omega) | (simp [World.setCell]; omega))).trans (by go_simp)
  have HO2_1_R_1 := Lib.hid (HO1_1_R_1.out.kept (Kept.of_below_all hst2))
  have HO2_1_R_2 := Lib.hid (show Own w2 (fun y => w1.heap.size + 1 ≤ y ∧ y < w2.heap.size) (.sl 1 (emptyRel vN).fRows.length (fun k => ictI ((emptyRel vN).fRows.getD k default))) (.slice a1_R_2 (emptyRel vN).fRows.length c1_R_2) from Own.sub (F := fun y => _ ≤ y ∧ y < _) ho2 (fun y hy => ⟨Nat.le_trans (by first | exact Nat.le_refl _ | (simp; done) | (simp; omega) | (simp [World.setCell]; done) | (simp [World.setCell]; omega)) hy.1, hy.2⟩))
  have HB2 := Lib.hid (HB1.out.trans (hst2.mono HB1.out.size))
  clear HO1_1_R_1 ho2 hb2 hst2 HB1
  go_wp2_with fail
  refine (laws_eqRelation (c1 := c1_R_2) (c1q := c1_R_1) (emptyRel vN) hq_R _ (Below.size (by repeat (first | (with_reducible exact Below.refl _ _) | (with_reducible apply Below.drew) | (with_reducible refine below_drewN ?_ _) | (refine Below.setCell ?_ (by simp <;> omega) _) | (refine Below.alloc ?_ (by simp <;> omega) _)) : Below w2.heap.size w2 _)) (Below.size (by repeat (first | (with_reducible exact Below.refl _ _) | (with_reducible apply Below.drew) | (with_reducible refine below_drewN ?_ _) | (refine Below.setCell ?_ (by simp <;> omega) _) | (refine Below.alloc ?_ (by simp <;> omega) _)) : Below w2.heap.size w2 _)) ((Sl.of (HO2_1_R_2.out.lies (lo := 0) (hi := w2.heap.size) (fun y hy => ⟨Nat.zero_le _, by have := hy.2; omega⟩))).later (by repeat (first | (with_reducible exact Below.refl _ _) | (with_reducible apply Below.drew) | (with_reducible refine below_drewN ?_ _) | (refine Below.setCell ?_ (by simp <;> omega) _) | (refine Below.alloc ?_ (by simp <;> omega) _)) : Below w2.heap.size w2 _) (Nat.le_refl _)) ((Sl.of (HO2_1_R_1.out.lies (lo := 0) (hi := w2.heap.size) (fun y hy => ⟨Nat.zero_le _, by have := hy.2; omega⟩))).later (by repeat (first | (with_reducible exact Below.refl _ _) | (with_reducible apply Below.drew) | (with_reducible refine below_drewN ?_ _) | (refine Below.setCell ?_ (by simp <;> omega) _) | (refine Below.alloc ?_ (by simp <;> omega) _)) : Below w2.heap.size w2 _) (Nat.le_refl _))).mono ?_
  rintro e w3 ⟨rfl, hb3⟩
  have hst3 : Below w2.heap.size w2 w3 := Below.trans (by repeat (first | (with_reducible exact Below.refl _ _) | (with_reducible apply Below.drew) | (with_reducible refine below_drewN ?_ _) | (refine Below.setCell ?_ (by simp <;> omega) _) | (refine Below.alloc ?_ (by simp <;> omega) _)) : Below w2.heap.size w2 _) (hb3.mono (Below.size (by repeat (first | (with_reducible exact Below.refl _ _) | (with_reducible apply Below.drew) | (with_reducible refine below_drewN ?_ _) | (refine Below.setCell ?_ (by simp <;> omega) _) | (refine Below.alloc ?_ (by simp <;> omega) _)) : Below w2.heap.size w2 _)))
  have hr3 : w2.heap.size + 1 ≤ w3.heap.size := Nat.le_trans (by first | exact Nat.le_refl _ | (simp; done) | (simp; omega) | (simp [World.setCell]; done) | (simp [World.setCell]; omega)) hb3.size
  have sz3_w0 : w1.heap.size < w3.heap.size := Nat.lt_of_lt_of_le sz2_w0 hst3.size
  have bx3_w0_0 : w3.cell? ⟨w1.heap.size, 0, none⟩ = some (.int .i64 (emptyRel vN).fN) := (hst3.cell (p := ⟨w1.heap.size, 0, none⟩) sz2_w0).trans bx2_w0_0
  have bx3_w0_1 : w3.cell? ⟨w1.heap.size, 1, none⟩ = some (.slice a1_R_1 (emptyRel vN).fRows.length c1_R_1) := (hst3.cell (p := ⟨w1.heap.size, 1, none⟩) sz2_w0).trans bx2_w0_1
  have sz3_g0 : w2.heap.size < w3.heap.size := Nat.lt_of_lt_of_le (by first | omega | (simp; done) | (simp; omega) | (simp [World.setCell]; omega)) hb3.size
  have bx3_g0_0 : w3.cell? ⟨w2.heap.size, 0, none⟩ = some (.int .i64 (emptyRel vN).fN) := (hb3.cell (p := ⟨w2.heap.size, 0, none⟩) (by first | omega | (simp; done) | (simp; omega) | (simp [World.setCell]; omega))).trans (by go_simp)
  have bx3_g0_1 : w3.cell? ⟨w2.heap.size, 1, none⟩ = some (.slice a1_R_2 (emptyRel vN).fRows.length c1_R_2) := (hb3.cell (p := ⟨w2.heap.size, 1, none⟩) (by first | omega | (simp; done) | (simp; omega) | (simp [World.setCell]; omega))).trans (by go_simp)
  have HO3_1_R_1 := Lib.hid (HO2_1_R_1.out.kept (Kept.of_below_all hst3))
  have HO3_1_R_2 := Lib.hid (HO2_1_R_2.out.kept (Kept.of_below_all hst3))
  have HB3 := Lib.hid (HB2.out.trans (hst3.mono HB2.out.size))
  clear bx2_w0_0 bx2_w0_1 sz2_w0 HO2_1_R_1 HO2_1_R_2 hb3 hst3 HB2
  go_wp2_with fail
  refine (laws_markRelation (c1 := c1_R_2) (emptyRel vN) (by have := emptyRel_len vN; omega) 1 (by have := emptyRel_len vN; omega) _ (fun y hy => Nat.lt_of_lt_of_le (show y < w3.heap.size by have := hy.2; omega) (Below.size (by repeat (first | (with_reducible exact Below.refl _ _) | (with_reducible apply Below.drew) | (with_reducible refine below_drewN ?_ _) | (refine Below.setCell ?_ (by simp <;> omega) _) | (refine Below.alloc ?_ (by simp <;> omega) _)) : Below w3.heap.size w3 _))) (HO3_1_R_2.out.kept (Kept.of_below (by repeat (first | (with_reducible exact Below.refl _ _) | (with_reducible apply Below.drew) | (with_reducible refine below_drewN ?_ _) | (refine Below.setCell ?_ (by simp <;> omega) _) | (refine Below.alloc ?_ (by simp <;> omega) _)) : Below w3.heap.size w3 _) (fun y hy => by have := hy.2; omega)))).mono ?_
  rintro e w4 ⟨rfl, ho4, hw4⟩
  have hst4 : WritesF (fun y => w1.heap.size + 1 ≤ y ∧ y < w2.heap.size) w3 w4 := hw4.of_below (by repeat (first | (with_reducible exact Below.refl _ _) | (with_reducible apply Below.drew) | (with_reducible refine below_drewN ?_ _) | (refine Below.setCell ?_ (by simp <;> omega) _) | (refine Below.alloc ?_ (by simp <;> omega) _)) : Below w3.heap.size w3 _)
  have hr4 : w3.heap.size ≤ w4.heap.size := Nat.le_trans (by first | exact Nat.le_refl _ | (simp; done) | (simp; omega) | (simp [World.setCell]; done) | (simp [World.setCell]; omega)) hw4.size
  have sz4_w0 : w1.heap.size < w4.heap.size := Nat.lt_of_lt_of_le sz3_w0 hst4.size
  have bx4_w0_0 : w4.cell? ⟨w1.heap.size, 0, none⟩ = some (.int .i64 (emptyRel vN).fN) := (World.cell?_of_block (a := ⟨w1.heap.size, 0, none⟩) (hst4.block w1.heap.size sz3_w0 (fun hf => by have h1 := hf.1; have h2 := hf.2; omega))).trans bx3_w0_0
  have bx4_w0_1 : w4.cell? ⟨w1.heap.size, 1, none⟩ = some (.slice a1_R_1 (emptyRel vN).fRows.length c1_R_1) := (World.cell?_of_block (a := ⟨w1.heap.size, 1, none⟩) (hst4.block w1.heap.size sz3_w0 (fun hf => by have h1 := hf.1; have h2 := hf.2; omega))).trans bx3_w0_1
  have sz4_g0 : w2.heap.size < w4.heap.size := Nat.lt_of_lt_of_le sz3_g0 hst4.size
  have bx4_g0_0 : w4.cell? ⟨w2.heap.size, 0, none⟩ = some (.int .i64 (emptyRel vN).fN) := (World.cell?_of_block (a := ⟨w2.heap.size, 0, none⟩) (hst4.block w2.heap.size sz3_g0 (fun hf => by have h1 := hf.1; have h2 := hf.2; omega))).trans bx3_g0_0
  have bx4_g0_1 : w4.cell? ⟨w2.heap.size, 1, none⟩ = some (.slice a1_R_2 (emptyRel vN).fRows.length c1_R_2) := (World.cell?_of_block (a := ⟨w2.heap.size, 1, none⟩) (hst4.block w2.heap.size sz3_g0 (fun hf => by have h1 := hf.1; have h2 := hf.2; omega))).trans bx3_g0_1
  have HO4_1_R_1 := Lib.hid (HO3_1_R_1.out.kept (hst4.kept (fun y hy hf => by have h1 := hy.1; have h2 := hy.2; have h3 := hf.1; have h4 := hf.2; omega)))
  have HO4_1_R_2 := Lib.hid ho4
  have HB4 := Lib.hid (HB3.out.trans (hst4.below (fun y hy => by have := hy.1; omega) HB3.out.size))
  clear bx3_w0_0 bx3_w0_1 sz3_w0 bx3_g0_0 bx3_g0_1 sz3_g0 HO3_1_R_1 ho4 HO3_1_R_2 hw4 hst4 HB3
  go_wp2_with fail
  refine (laws_heldRelation (c1 := c1_R_2) (emptyRel vN) (by have := emptyRel_len vN; omega) 1 (by have := emptyRel_len vN; omega) _ (fun y hy => Nat.lt_of_lt_of_le (show y < w4.heap.size by have := hy.2; omega) (Below.size (by repeat (first | (with_reducible exact Below.refl _ _) | (with_reducible apply Below.drew) | (with_reducible refine below_drewN ?_ _) | (refine Below.setCell ?_ (by simp <;> omega) _) | (refine Below.alloc ?_ (by simp <;> omega) _)) : Below w4.heap.size w4 _))) (HO4_1_R_2.out.kept (Kept.of_below (by repeat (first | (with_reducible exact Below.refl _ _) | (with_reducible apply Below.drew) | (with_reducible refine below_drewN ?_ _) | (refine Below.setCell ?_ (by simp <;> omega) _) | (refine Below.alloc ?_ (by simp <;> omega) _)) : Below w4.heap.size w4 _) (fun y hy => by have := hy.2; omega)))).mono ?_
  rintro e w5 ⟨rfl, hb5⟩
  have hst5 : Below w4.heap.size w4 w5 := Below.trans (by repeat (first | (with_reducible exact Below.refl _ _) | (with_reducible apply Below.drew) | (with_reducible refine below_drewN ?_ _) | (refine Below.setCell ?_ (by simp <;> omega) _) | (refine Below.alloc ?_ (by simp <;> omega) _)) : Below w4.heap.size w4 _) (hb5.mono (Below.size (by repeat (first | (with_reducible exact Below.refl _ _) | (with_reducible apply Below.drew) | (with_reducible refine below_drewN ?_ _) | (refine Below.setCell ?_ (by simp <;> omega) _) | (refine Below.alloc ?_ (by simp <;> omega) _)) : Below w4.heap.size w4 _)))
  have hr5 : w4.heap.size ≤ w5.heap.size := Nat.le_trans (by first | exact Nat.le_refl _ | (simp; done) | (simp; omega) | (simp [World.setCell]; done) | (simp [World.setCell]; omega)) hb5.size
  have sz5_w0 : w1.heap.size < w5.heap.size := Nat.lt_of_lt_of_le sz4_w0 hst5.size
  have bx5_w0_0 : w5.cell? ⟨w1.heap.size, 0, none⟩ = some (.int .i64 (emptyRel vN).fN) := (hst5.cell (p := ⟨w1.heap.size, 0, none⟩) sz4_w0).trans bx4_w0_0
  have bx5_w0_1 : w5.cell? ⟨w1.heap.size, 1, none⟩ = some (.slice a1_R_1 (emptyRel vN).fRows.length c1_R_1) := (hst5.cell (p := ⟨w1.heap.size, 1, none⟩) sz4_w0).trans bx4_w0_1
  have sz5_g0 : w2.heap.size < w5.heap.size := Nat.lt_of_lt_of_le sz4_g0 hst5.size
  have bx5_g0_0 : w5.cell? ⟨w2.heap.size, 0, none⟩ = some (.int .i64 (emptyRel vN).fN) := (hst5.cell (p := ⟨w2.heap.size, 0, none⟩) sz4_g0).trans bx4_g0_0
  have bx5_g0_1 : w5.cell? ⟨w2.heap.size, 1, none⟩ = some (.slice a1_R_2 (emptyRel vN).fRows.length c1_R_2) := (hst5.cell (p := ⟨w2.heap.size, 1, none⟩) sz4_g0).trans bx4_g0_1
  have HO5_1_R_1 := Lib.hid (HO4_1_R_1.out.kept (Kept.of_below_all hst5))
  have HO5_1_R_2 := Lib.hid (HO4_1_R_2.out.kept (Kept.of_below_all hst5))
  have HB5 := Lib.hid (HB4.out.trans (hst5.mono HB4.out.size))
  clear bx4_w0_0 bx4_w0_1 sz4_w0 bx4_g0_0 bx4_g0_1 sz4_g0 HO4_1_R_1 HO4_1_R_2 hb5 hst5 HB4
  go_wp2_with fail
  refine (impl_EmptyRelation vN OK_vN.out _).mono ?_
  rintro e w6 ⟨a1_R_6, c1_R_6, rfl, ho6, hb6⟩
  have hst6 : Below w5.heap.size w5 w6 := Below.trans (by repeat (first | (with_reducible exact Below.refl _ _) | (with_reducible apply Below.drew) | (with_reducible refine below_drewN ?_ _) | (refine Below.setCell ?_ (by simp <;> omega) _) | (refine Below.alloc ?_ (by simp <;> omega) _)) : Below w5.heap.size w5 _) (hb6.mono (Below.size (by repeat (first | (with_reducible exact Below.refl _ _) | (with_reducible apply Below.drew) | (with_reducible refine below_drewN ?_ _) | (refine Below.setCell ?_ (by simp <;> omega) _) | (refine Below.alloc ?_ (by simp <;> omega) _)) : Below w5.heap.size w5 _)))
  have hr6 : w5.heap.size ≤ w6.heap.size := Nat.le_trans (by first | exact Nat.le_refl _ | (simp; done) | (simp; omega) | (simp [World.setCell]; done) | (simp [World.setCell]; omega)) hb6.size
  have sz6_w0 : w1.heap.size < w6.heap.size := Nat.lt_of_lt_of_le sz5_w0 hst6.size
  have bx6_w0_0 : w6.cell? ⟨w1.heap.size, 0, none⟩ = some (.int .i64 (emptyRel vN).fN) := (hst6.cell (p := ⟨w1.heap.size, 0, none⟩) sz5_w0).trans bx5_w0_0
  have bx6_w0_1 : w6.cell? ⟨w1.heap.size, 1, none⟩ = some (.slice a1_R_1 (emptyRel vN).fRows.length c1_R_1) := (hst6.cell (p := ⟨w1.heap.size, 1, none⟩) sz5_w0).trans bx5_w0_1
  have sz6_g0 : w2.heap.size < w6.heap.size := Nat.lt_of_lt_of_le sz5_g0 hst6.size
  have bx6_g0_0 : w6.cell? ⟨w2.heap.size, 0, none⟩ = some (.int .i64 (emptyRel vN).fN) := (hst6.cell (p := ⟨w2.heap.size, 0, none⟩) sz5_g0).trans bx5_g0_0
  have bx6_g0_1 : w6.cell? ⟨w2.heap.size, 1, none⟩ = some (.slice a1_R_2 (emptyRel vN).fRows.length c1_R_2) := (hst6.cell (p := ⟨w2.heap.size, 1, none⟩) sz5_g0).trans bx5_g0_1
  have HO6_1_R_1 := Lib.hid (HO5_1_R_1.out.kept (Kept.of_below_all hst6))
  have HO6_1_R_2 := Lib.hid (HO5_1_R_2.out.kept (Kept.of_below_all hst6))
  have HO6_1_R_6 := Lib.hid (show Own w6 (fun y => w5.heap.size ≤ y ∧ y < w6.heap.size) (.sl 1 (emptyRel vN).fRows.length (fun k => ictI ((emptyRel vN).fRows.getD k default))) (.slice a1_R_6 (emptyRel vN).fRows.length c1_R_6) from Own.sub (F := fun y => _ ≤ y ∧ y < _) ho6 (fun y hy => ⟨Nat.le_trans (by first | exact Nat.le_refl _ | (simp; done) | (simp; omega) | (simp [World.setCell]; done) | (simp [World.setCell]; omega)) hy.1, hy.2⟩))
  have HB6 := Lib.hid (HB5.out.trans (hst6.mono HB5.out.size))
  clear bx5_w0_0 bx5_w0_1 sz5_w0 bx5_g0_0 bx5_g0_1 sz5_g0 HO5_1_R_1 HO5_1_R_2 ho6 hb6 hst6 HB5
  go_wp2_with fail
  refine (laws_eqRelation (c1 := c1_R_6) (c1q := c1_R_1) (emptyRel vN) hq_R _ (Below.size (by repeat (first | (with_reducible exact Below.refl _ _) | (with_reducible apply Below.drew) | (with_reducible refine below_drewN ?_ _) | (refine Below.setCell ?_ (by simp <;> omega) _) | (refine Below.alloc ?_ (by simp <;> omega) _)) : Below w6.heap.size w6 _)) (Below.size (by repeat (first | (with_reducible exact Below.refl _ _) | (with_reducible apply Below.drew) | (with_reducible refine below_drewN ?_ _) | (refine Below.setCell ?_ (by simp <;> omega) _) | (refine Below.alloc ?_ (by simp <;> omega) _)) : Below w6.heap.size w6 _)) ((Sl.of (HO6_1_R_6.out.lies (lo := 0) (hi := w6.heap.size) (fun y hy => ⟨Nat.zero_le _, by have := hy.2; omega⟩))).later (by repeat (first | (with_reducible exact Below.refl _ _) | (with_reducible apply Below.drew) | (with_reducible refine below_drewN ?_ _) | (refine Below.setCell ?_ (by simp <;> omega) _) | (refine Below.alloc ?_ (by simp <;> omega) _)) : Below w6.heap.size w6 _) (Nat.le_refl _)) ((Sl.of (HO6_1_R_1.out.lies (lo := 0) (hi := w6.heap.size) (fun y hy => ⟨Nat.zero_le _, by have := hy.2; omega⟩))).later (by repeat (first | (with_reducible exact Below.refl _ _) | (with_reducible apply Below.drew) | (with_reducible refine below_drewN ?_ _) | (refine Below.setCell ?_ (by simp <;> omega) _) | (refine Below.alloc ?_ (by simp <;> omega) _)) : Below w6.heap.size w6 _) (Nat.le_refl _))).mono ?_
  rintro e w7 ⟨rfl, hb7⟩
  have hst7 : Below w6.heap.size w6 w7 := Below.trans (by repeat (first | (with_reducible exact Below.refl _ _) | (with_reducible apply Below.drew) | (with_reducible refine below_drewN ?_ _) | (refine Below.setCell ?_ (by simp <;> omega) _) | (refine Below.alloc ?_ (by simp <;> omega) _)) : Below w6.heap.size w6 _) (hb7.mono (Below.size (by repeat (first | (with_reducible exact Below.refl _ _) | (with_reducible apply Below.drew) | (with_reducible refine below_drewN ?_ _) | (refine Below.setCell ?_ (by simp <;> omega) _) | (refine Below.alloc ?_ (by simp <;> omega) _)) : Below w6.heap.size w6 _)))
  have hr7 : w6.heap.size + 1 ≤ w7.heap.size := Nat.le_trans (by first | exact Nat.le_refl _ | (simp; done) | (simp; omega) | (simp [World.setCell]; done) | (simp [World.setCell]; omega)) hb7.size
  have sz7_w0 : w1.heap.size < w7.heap.size := Nat.lt_of_lt_of_le sz6_w0 hst7.size
  have bx7_w0_0 : w7.cell? ⟨w1.heap.size, 0, none⟩ = some (.int .i64 (emptyRel vN).fN) := (hst7.cell (p := ⟨w1.heap.size, 0, none⟩) sz6_w0).trans bx6_w0_0
  have bx7_w0_1 : w7.cell? ⟨w1.heap.size, 1, none⟩ = some (.slice a1_R_1 (emptyRel vN).fRows.length c1_R_1) := (hst7.cell (p := ⟨w1.heap.size, 1, none⟩) sz6_w0).trans bx6_w0_1
  have sz7_g0 : w2.heap.size < w7.heap.size := Nat.lt_of_lt_of_le sz6_g0 hst7.size
  have bx7_g0_0 : w7.cell? ⟨w2.heap.size, 0, none⟩ = some (.int .i64 (emptyRel vN).fN) := (hst7.cell (p := ⟨w2.heap.size, 0, none⟩) sz6_g0).trans bx6_g0_0
  have bx7_g0_1 : w7.cell? ⟨w2.heap.size, 1, none⟩ = some (.slice a1_R_2 (emptyRel vN).fRows.length c1_R_2) := (hst7.cell (p := ⟨w2.heap.size, 1, none⟩) sz6_g0).trans bx6_g0_1
  have sz7_h0 : w6.heap.size < w7.heap.size := Nat.lt_of_lt_of_le (by first | omega | (simp; done) | (simp; omega) | (simp [World.setCell]; omega)) hb7.size
  have bx7_h0_0 : w7.cell? ⟨w6.heap.size, 0, none⟩ = some (.int .i64 (emptyRel vN).fN) := (hb7.cell (p := ⟨w6.heap.size, 0, none⟩) (by first | omega | (simp; done) | (simp; omega) | (simp [World.setCell]; omega))).trans (by go_simp)
  have bx7_h0_1 : w7.cell? ⟨w6.heap.size, 1, none⟩ = some (.slice a1_R_6 (emptyRel vN).fRows.length c1_R_6) := (hb7.cell (p := ⟨w6.heap.size, 1, none⟩) (by first | omega | (simp; done) | (simp; omega) | (simp [World.setCell]; omega))).trans (by go_simp)
  have HO7_1_R_1 := Lib.hid (HO6_1_R_1.out.kept (Kept.of_below_all hst7))
  have HO7_1_R_2 := Lib.hid (HO6_1_R_2.out.kept (Kept.of_below_all hst7))
  have HO7_1_R_6 := Lib.hid (HO6_1_R_6.out.kept (Kept.of_below_all hst7))
  have HB7 := Lib.hid (HB6.out.trans (hst7.mono HB6.out.size))
  clear bx6_w0_0 bx6_w0_1 sz6_w0 bx6_g0_0 bx6_g0_1 sz6_g0 HO6_1_R_1 HO6_1_R_2 HO6_1_R_6 hb7 hst7 HB6
  go_wp2_with fail
  refine (laws_heldRelation (c1 := c1_R_2) (emptyRel vN) (by have := emptyRel_len vN; omega) 1 (by have := emptyRel_len vN; omega) _ (fun y hy => Nat.lt_of_lt_of_le (show y < w7.heap.size by have := hy.2; omega) (Below.size (by repeat (first | (with_reducible exact Below.refl _ _) | (with_reducible apply Below.drew) | (with_reducible refine below_drewN ?_ _) | (refine Below.setCell ?_ (by simp <;> omega) _) | (refine Below.alloc ?_ (by simp <;> omega) _)) : Below w7.heap.size w7 _))) (HO7_1_R_2.out.kept (Kept.of_below (by repeat (first | (with_reducible exact Below.refl _ _) | (with_reducible apply Below.drew) | (with_reducible refine below_drewN ?_ _) | (refine Below.setCell ?_ (by simp <;> omega) _) | (refine Below.alloc ?_ (by simp <;> omega) _)) : Below w7.heap.size w7 _) (fun y hy => by have := hy.2; omega)))).mono ?_
  rintro e w8 ⟨rfl, hb8⟩
  have hst8 : Below w7.heap.size w7 w8 := Below.trans (by repeat (first | (with_reducible exact Below.refl _ _) | (with_reducible apply Below.drew) | (with_reducible refine below_drewN ?_ _) | (refine Below.setCell ?_ (by simp <;> omega) _) | (refine Below.alloc ?_ (by simp <;> omega) _)) : Below w7.heap.size w7 _) (hb8.mono (Below.size (by repeat (first | (with_reducible exact Below.refl _ _) | (with_reducible apply Below.drew) | (with_reducible refine below_drewN ?_ _) | (refine Below.setCell ?_ (by simp <;> omega) _) | (refine Below.alloc ?_ (by simp <;> omega) _)) : Below w7.heap.size w7 _)))
  have hr8 : w7.heap.size ≤ w8.heap.size := Nat.le_trans (by first | exact Nat.le_refl _ | (simp; done) | (simp; omega) | (simp [World.setCell]; done) | (simp [World.setCell]; omega)) hb8.size
  have sz8_w0 : w1.heap.size < w8.heap.size := Nat.lt_of_lt_of_le sz7_w0 hst8.size
  have bx8_w0_0 : w8.cell? ⟨w1.heap.size, 0, none⟩ = some (.int .i64 (emptyRel vN).fN) := (hst8.cell (p := ⟨w1.heap.size, 0, none⟩) sz7_w0).trans bx7_w0_0
  have bx8_w0_1 : w8.cell? ⟨w1.heap.size, 1, none⟩ = some (.slice a1_R_1 (emptyRel vN).fRows.length c1_R_1) := (hst8.cell (p := ⟨w1.heap.size, 1, none⟩) sz7_w0).trans bx7_w0_1
  have sz8_g0 : w2.heap.size < w8.heap.size := Nat.lt_of_lt_of_le sz7_g0 hst8.size
  have bx8_g0_0 : w8.cell? ⟨w2.heap.size, 0, none⟩ = some (.int .i64 (emptyRel vN).fN) := (hst8.cell (p := ⟨w2.heap.size, 0, none⟩) sz7_g0).trans bx7_g0_0
  have bx8_g0_1 : w8.cell? ⟨w2.heap.size, 1, none⟩ = some (.slice a1_R_2 (emptyRel vN).fRows.length c1_R_2) := (hst8.cell (p := ⟨w2.heap.size, 1, none⟩) sz7_g0).trans bx7_g0_1
  have sz8_h0 : w6.heap.size < w8.heap.size := Nat.lt_of_lt_of_le sz7_h0 hst8.size
  have bx8_h0_0 : w8.cell? ⟨w6.heap.size, 0, none⟩ = some (.int .i64 (emptyRel vN).fN) := (hst8.cell (p := ⟨w6.heap.size, 0, none⟩) sz7_h0).trans bx7_h0_0
  have bx8_h0_1 : w8.cell? ⟨w6.heap.size, 1, none⟩ = some (.slice a1_R_6 (emptyRel vN).fRows.length c1_R_6) := (hst8.cell (p := ⟨w6.heap.size, 1, none⟩) sz7_h0).trans bx7_h0_1
  have HO8_1_R_1 := Lib.hid (HO7_1_R_1.out.kept (Kept.of_below_all hst8))
  have HO8_1_R_2 := Lib.hid (HO7_1_R_2.out.kept (Kept.of_below_all hst8))
  have HO8_1_R_6 := Lib.hid (HO7_1_R_6.out.kept (Kept.of_below_all hst8))
  have HB8 := Lib.hid (HB7.out.trans (hst8.mono HB7.out.size))
  clear bx7_w0_0 bx7_w0_1 sz7_w0 bx7_g0_0 bx7_g0_1 sz7_g0 bx7_h0_0 bx7_h0_1 sz7_h0 HO7_1_R_1 HO7_1_R_2 HO7_1_R_6 hb8 hst8 HB7
  go_wp2
  go_ret
  exact ⟨rfl, HB8.out⟩

set_option maxRecDepth 100000 in
theorem lifted (os : Os) (started : os.Started) (H : Type) (enc : TypeId × Value → H) :
    ReturnsInHanded {} Try.checked os 5 .any (Rows.fnExactEmptyRelationSpec.pre6 enc Try.prog Try.f5 Rows.fnExactEmptyRelationRow.domain false) (Rows.fnExactEmptyRelationSpec.post enc Try.prog Try.f5 false true false false) := by
  refine returnsInHanded_of_change_sized (C := Try.checked) own started (by kernel_rfl) Try.func5
    (ChangeSpec.witness6 (enc := enc) (C := Try.checked) false ⟨#[], #[.int .i64 0], []⟩ 8 (by kernel_rfl) (by kernel_rfl) (by kernel_rfl) (by kernel_rfl)) ?_
  intro W base args ds gs before hval0 hW _ hsz0 _
  have hval : ∀ (j : Nat) t v, Try.f5.params[j]? = some t → args[j]? = some v → Value.okWide Try.prog W .any base t v := hval0
  obtain ⟨p, q, hA0, hV, hps, hfz, hnd⟩ := id hW
  have hA : DataW.TrodAll enc Try.prog W 0 (fun _ => true) true Try.f5.params.toList args.toList ds p := hA0
  have hsz : (DataW.weightsEach Try.prog (Try.f5.params.toList ++ Rows.fnExactEmptyRelationSpec.plain.varTypes Try.prog) (ds ++ gs)).all (· ≤ reachBytes) = true := hsz0
  rw [Try.params5] at hA hval hsz
  obtain ⟨v0, vs0, d0, ds0, p0, q0, hargs, rfl, rfl, h0, r0⟩ := trodAll_cons hA
  obtain ⟨rfl, rfl, rfl⟩ := trodAll_nil r0
  obtain rfl : args = #[v0] := by cases args; simp_all
  obtain ⟨vN, rfl, rfl, rfl, w0⟩ := open_int Try.underlying3 (hval 0 3 v0 rfl rfl) h0
  have ok_vN := bounds_i64 w0
  refine (walk vN ok_vN W).mono fun e W' ⟨he, hg⟩ => ?_
  subst he
  exact ⟨_, rfl, law_post laidOut (by kernel_rfl) rfl Try.underlying4 rfl rfl hW hg⟩

theorem said : Rows.FnExactEmptyRelationSaid :=
  OpenClaim.holds_of_wide 5 Try.f5 rfl rfl rfl rfl rfl rfl rfl ⟨rfl, rfl, rfl, rfl, rfl⟩ rfl rfl rfl rfl rfl (by kernel_rfl) Try.func5 (by kernel_rfl)
    (of_decide_eq_true (by kernel_rfl)) (by unfold Func.isWrapper; first | (rw [if_pos (by decide +kernel)]; kernel_rfl) | (rw [if_neg (by decide +kernel)]; exact ⟨rfl, rfl⟩))
    (fun os started H enc _ => lifted os started H enc)
#print axioms said
end Go.Proofs.Ytjjbnbhcfhbfdaa.fnExactEmptyRelation
