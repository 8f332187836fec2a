/-
  The law FnExactCloseRelation: for every relation the program's CloseRelation answers as the model's, and its answer owns its memory. No condition.
-/
import Derived.Test.YtjjbnbhcfhbfdabClose
import Derived.Test.YtjjbnbhcfhbfdabOwnAt
import Derived.SizedLaws
namespace Go.Proofs.Ytjjbnbhcfhbfdab.fnExactCloseRelation
open Go.ChangeShapes Go.WideShapes Go.ChangeAt Go.RowKit Go.WideMaps Go.WideElems
open Go.ChangeMaps (open_string)
open Go.Lib Go.Deep

set_option maxHeartbeats 3200000 in
set_option maxRecDepth 100000 in
theorem walk (vR : DRelation) (a1_vR : Option Addr) (c1_vR : Nat) (ok_vR : DRelation.ok vR) (w : World) (hs_1_vR : Sl 0 w.heap.size w 1 vR.fRows.length (fun k => ictI (vR.fRows.getD k default)) a1_vR) :
    Calls Try.prog 9 #[.agg #[.int .i64 vR.fN, .slice a1_vR vR.fRows.length c1_vR]] w fun e w' => e = .returned (.bool true) ∧ Below w.heap.size w w' := by
  have HS_1_vR := Lib.hid hs_1_vR
  clear hs_1_vR
  have OK_vR := Lib.hid ok_vR
  clear ok_vR
  by_cases h0 : 1048576 < ((DRelation.sz vR : Nat) : Int)
  · skip
    have hz := fun (hi : Nat) (w' : World) (hhi : hi ≤ w'.heap.size) (hs_1_vR : Sl 0 hi w' 1 vR.fRows.length (fun k => ictI (vR.fRows.getD k default)) a1_vR) => laws_szRelation (c1 := c1_vR) vR 1048576 (by omega) (by omega) OK_vR.out w' hhi hs_1_vR
    rw [szR_gt (by omega)] at hz
    have HZ_vR := Lib.hid hz
    clear hz
    go_enter Try.func9, Try.ntmps9
    go_wp2_with fail
    refine (HZ_vR.out w.heap.size _ (Below.size (by repeat (first | (with_reducible exact Below.refl _ _) | (with_reducible apply Below.drew) | (with_reducible refine below_drewN ?_ _) | (refine Below.setCell ?_ (by simp <;> omega) _) | (refine Below.alloc ?_ (by simp <;> omega) _)) : Below w.heap.size w _)) ((HS_1_vR.out.later ((Below.refl w.heap.size w).trans ((by repeat (first | (with_reducible exact Below.refl _ _) | (with_reducible apply Below.drew) | (with_reducible refine below_drewN ?_ _) | (refine Below.setCell ?_ (by simp <;> omega) _) | (refine Below.alloc ?_ (by simp <;> omega) _)) : Below w.heap.size w _).mono (Below.refl w.heap.size w).size)) (Nat.le_refl _)).mono (Nat.le_refl _) (Below.refl w.heap.size w).size)).mono ?_
    rintro e w1 ⟨rfl, hb1⟩
    have hst1 : Below w.heap.size w w1 := Below.trans (by repeat (first | (with_reducible exact Below.refl _ _) | (with_reducible apply Below.drew) | (with_reducible refine below_drewN ?_ _) | (refine Below.setCell ?_ (by simp <;> omega) _) | (refine Below.alloc ?_ (by simp <;> omega) _)) : Below w.heap.size w _) (hb1.mono (Below.size (by repeat (first | (with_reducible exact Below.refl _ _) | (with_reducible apply Below.drew) | (with_reducible refine below_drewN ?_ _) | (refine Below.setCell ?_ (by simp <;> omega) _) | (refine Below.alloc ?_ (by simp <;> omega) _)) : Below w.heap.size w _)))
    have hr1 : w.heap.size + 1 ≤ w1.heap.size := Nat.le_trans (by first | exact Nat.le_refl _ | (simp; done) | (simp; omega) | (simp [World.setCell]; done) | (simp [World.setCell]; omega)) hb1.size
    have sz1_paR : w.heap.size < w1.heap.size := Nat.lt_of_lt_of_le (by first | omega | (simp; done) | (simp; omega) | (simp [World.setCell]; omega)) hb1.size
    have bx1_paR_0 : w1.cell? ⟨w.heap.size, 0, none⟩ = some (.int .i64 vR.fN) := (hb1.cell (p := ⟨w.heap.size, 0, none⟩) (by first | omega | (simp; done) | (simp; omega) | (simp [World.setCell]; omega))).trans (by go_simp)
    have bx1_paR_1 : w1.cell? ⟨w.heap.size, 1, none⟩ = some (.slice a1_vR vR.fRows.length c1_vR) := (hb1.cell (p := ⟨w.heap.size, 1, none⟩) (by first | omega | (simp; done) | (simp; omega) | (simp [World.setCell]; omega))).trans (by go_simp)
    have HB1 := Lib.hid ((Below.refl w.heap.size w).trans (hst1.mono (Below.refl w.heap.size w).size))
    clear hb1 hst1
    go_wp2
    go_ret
    exact ⟨rfl, HB1.out⟩
  · skip
    have hz := fun (hi : Nat) (w' : World) (hhi : hi ≤ w'.heap.size) (hs_1_vR : Sl 0 hi w' 1 vR.fRows.length (fun k => ictI (vR.fRows.getD k default)) a1_vR) => laws_szRelation (c1 := c1_vR) vR 1048576 (by omega) (by omega) OK_vR.out w' hhi hs_1_vR
    rw [szR_le (by omega)] at hz
    have HZ_vR := Lib.hid hz
    clear hz
    have hq_vR : DRelation.sz vR ≤ 1048576 := by omega
    have hq_R : DRelation.sz (closeRel vR) ≤ 1048576 := closeRel_sz hq_vR
    go_enter Try.func9, Try.ntmps9
    go_wp2_with fail
    refine (HZ_vR.out w.heap.size _ (Below.size (by repeat (first | (with_reducible exact Below.refl _ _) | (with_reducible apply Below.drew) | (with_reducible refine below_drewN ?_ _) | (refine Below.setCell ?_ (by simp <;> omega) _) | (refine Below.alloc ?_ (by simp <;> omega) _)) : Below w.heap.size w _)) ((HS_1_vR.out.later ((Below.refl w.heap.size w).trans ((by repeat (first | (with_reducible exact Below.refl _ _) | (with_reducible apply Below.drew) | (with_reducible refine below_drewN ?_ _) | (refine Below.setCell ?_ (by simp <;> omega) _) | (refine Below.alloc ?_ (by simp <;> omega) _)) : Below w.heap.size w _).mono (Below.refl w.heap.size w).size)) (Nat.le_refl _)).mono (Nat.le_refl _) (Below.refl w.heap.size w).size)).mono ?_
    rintro e w1 ⟨rfl, hb1⟩
    have hst1 : Below w.heap.size w w1 := Below.trans (by repeat (first | (with_reducible exact Below.refl _ _) | (with_reducible apply Below.drew) | (with_reducible refine below_drewN ?_ _) | (refine Below.setCell ?_ (by simp <;> omega) _) | (refine Below.alloc ?_ (by simp <;> omega) _)) : Below w.heap.size w _) (hb1.mono (Below.size (by repeat (first | (with_reducible exact Below.refl _ _) | (with_reducible apply Below.drew) | (with_reducible refine below_drewN ?_ _) | (refine Below.setCell ?_ (by simp <;> omega) _) | (refine Below.alloc ?_ (by simp <;> omega) _)) : Below w.heap.size w _)))
    have hr1 : w.heap.size + 1 ≤ w1.heap.size := Nat.le_trans (by first | exact Nat.le_refl _ | (simp; done) | (simp; omega) | (simp [World.setCell]; done) | (simp [World.setCell]; omega)) hb1.size
    have sz1_paR : w.heap.size < w1.heap.size := Nat.lt_of_lt_of_le (by first | omega | (simp; done) | (simp; omega) | (simp [World.setCell]; omega)) hb1.size
    have bx1_paR_0 : w1.cell? ⟨w.heap.size, 0, none⟩ = some (.int .i64 vR.fN) := (hb1.cell (p := ⟨w.heap.size, 0, none⟩) (by first | omega | (simp; done) | (simp; omega) | (simp [World.setCell]; omega))).trans (by go_simp)
    have bx1_paR_1 : w1.cell? ⟨w.heap.size, 1, none⟩ = some (.slice a1_vR vR.fRows.length c1_vR) := (hb1.cell (p := ⟨w.heap.size, 1, none⟩) (by first | omega | (simp; done) | (simp; omega) | (simp [World.setCell]; omega))).trans (by go_simp)
    have HB1 := Lib.hid ((Below.refl w.heap.size w).trans (hst1.mono (Below.refl w.heap.size w).size))
    clear hb1 hst1
    go_wp2_with fail
    refine (laws_toRelation (c1 := c1_vR) vR hq_vR _ (Below.size (by repeat (first | (with_reducible exact Below.refl _ _) | (with_reducible apply Below.drew) | (with_reducible refine below_drewN ?_ _) | (refine Below.setCell ?_ (by simp <;> omega) _) | (refine Below.alloc ?_ (by simp <;> omega) _)) : Below w1.heap.size w1 _)) ((HS_1_vR.out.later (HB1.out.trans ((by repeat (first | (with_reducible exact Below.refl _ _) | (with_reducible apply Below.drew) | (with_reducible refine below_drewN ?_ _) | (refine Below.setCell ?_ (by simp <;> omega) _) | (refine Below.alloc ?_ (by simp <;> omega) _)) : Below w1.heap.size w1 _).mono HB1.out.size)) (Nat.le_refl _)).mono (Nat.le_refl _) HB1.out.size)).mono ?_
    rintro e w2 ⟨a1_vR_2, c1_vR_2, rfl, ho2, hb2⟩
    have hst2 : Below w1.heap.size w1 w2 := Below.trans (by repeat (first | (with_reducible exact Below.refl _ _) | (with_reducible apply Below.drew) | (with_reducible refine below_drewN ?_ _) | (refine Below.setCell ?_ (by simp <;> omega) _) | (refine Below.alloc ?_ (by simp <;> omega) _)) : Below w1.heap.size w1 _) (hb2.mono (Below.size (by repeat (first | (with_reducible exact Below.refl _ _) | (with_reducible apply Below.drew) | (with_reducible refine below_drewN ?_ _) | (refine Below.setCell ?_ (by simp <;> omega) _) | (refine Below.alloc ?_ (by simp <;> omega) _)) : Below w1.heap.size w1 _)))
    have hr2 : w1.heap.size ≤ w2.heap.size := Nat.le_trans (by first | exact Nat.le_refl _ | (simp; done) | (simp; omega) | (simp [World.setCell]; done) | (simp [World.setCell]; omega)) hb2.size
    have sz2_paR : w.heap.size < w2.heap.size := Nat.lt_of_lt_of_le sz1_paR hst2.size
    have bx2_paR_0 : w2.cell? ⟨w.heap.size, 0, none⟩ = some (.int .i64 vR.fN) := (hst2.cell (p := ⟨w.heap.size, 0, none⟩) sz1_paR).trans bx1_paR_0
    have bx2_paR_1 : w2.cell? ⟨w.heap.size, 1, none⟩ = some (.slice a1_vR vR.fRows.length c1_vR) := (hst2.cell (p := ⟨w.heap.size, 1, none⟩) sz1_paR).trans bx1_paR_1
    have HO2_1_vR_2 := Lib.hid (show Own w2 (fun y => w1.heap.size ≤ y ∧ y < w2.heap.size) (.sl 1 vR.fRows.length (fun k => ictI (vR.fRows.getD k default))) (.slice a1_vR_2 vR.fRows.length c1_vR_2) from Own.sub (F := fun y => _ ≤ y ∧ y < _) (OwnR.at ho2 1 (by decide)) (fun y hy => ⟨Nat.le_trans (by first | exact Nat.le_refl _ | (simp; done) | (simp; omega) | (simp [World.setCell]; done) | (simp [World.setCell]; omega)) hy.1, hy.2⟩))
    have HB2 := Lib.hid (HB1.out.trans (hst2.mono HB1.out.size))
    clear bx1_paR_0 bx1_paR_1 sz1_paR ho2 hb2 hst2 HB1
    go_wp2_with fail
    refine (spec_CloseRelation (c0_0 := c1_vR_2) vR OK_vR.out hq_vR _ (Below.size (by repeat (first | (with_reducible exact Below.refl _ _) | (with_reducible apply Below.drew) | (with_reducible refine below_drewN ?_ _) | (refine Below.setCell ?_ (by simp <;> omega) _) | (refine Below.alloc ?_ (by simp <;> omega) _)) : Below w2.heap.size w2 _)) ((Sl.of (HO2_1_vR_2.out.lies (lo := 0) (hi := w2.heap.size) (fun y hy => ⟨Nat.zero_le _, by have := hy.2; omega⟩))).later (by repeat (first | (with_reducible exact Below.refl _ _) | (with_reducible apply Below.drew) | (with_reducible refine below_drewN ?_ _) | (refine Below.setCell ?_ (by simp <;> omega) _) | (refine Below.alloc ?_ (by simp <;> omega) _)) : Below w2.heap.size w2 _) (Nat.le_refl _))).mono ?_
    rintro e w3 ⟨a1_R_3, c1_R_3, rfl, ho3, hb3⟩
    have hst3 : Below w2.heap.size w2 w3 := Below.trans (by repeat (first | (with_reducible exact Below.refl _ _) | (with_reducible apply Below.drew) | (with_reducible refine below_drewN ?_ _) | (refine Below.setCell ?_ (by simp <;> omega) _) | (refine Below.alloc ?_ (by simp <;> omega) _)) : Below w2.heap.size w2 _) (hb3.mono (Below.size (by repeat (first | (with_reducible exact Below.refl _ _) | (with_reducible apply Below.drew) | (with_reducible refine below_drewN ?_ _) | (refine Below.setCell ?_ (by simp <;> omega) _) | (refine Below.alloc ?_ (by simp <;> omega) _)) : Below w2.heap.size w2 _)))
    have hr3 : w2.heap.size ≤ w3.heap.size := Nat.le_trans (by first | exact Nat.le_refl _ | (simp; done) | (simp; omega) | (simp [World.setCell]; done) | (simp [World.setCell]; omega)) hb3.size
    have sz3_paR : w.heap.size < w3.heap.size := Nat.lt_of_lt_of_le sz2_paR hst3.size
    have bx3_paR_0 : w3.cell? ⟨w.heap.size, 0, none⟩ = some (.int .i64 vR.fN) := (hst3.cell (p := ⟨w.heap.size, 0, none⟩) sz2_paR).trans bx2_paR_0
    have bx3_paR_1 : w3.cell? ⟨w.heap.size, 1, none⟩ = some (.slice a1_vR vR.fRows.length c1_vR) := (hst3.cell (p := ⟨w.heap.size, 1, none⟩) sz2_paR).trans bx2_paR_1
    have HO3_1_vR_2 := Lib.hid (HO2_1_vR_2.out.kept (Kept.of_below_all hst3))
    have HO3_1_R_3 := Lib.hid (show Own w3 (fun y => w2.heap.size ≤ y ∧ y < w3.heap.size) (.sl 1 (closeRel vR).fRows.length (fun k => ictI ((closeRel vR).fRows.getD k default))) (.slice a1_R_3 (closeRel vR).fRows.length c1_R_3) from Own.sub (F := fun y => _ ≤ y ∧ y < _) ho3 (fun y hy => ⟨Nat.le_trans (by first | exact Nat.le_refl _ | (simp; done) | (simp; omega) | (simp [World.setCell]; done) | (simp [World.setCell]; omega)) hy.1, hy.2⟩))
    have HB3 := Lib.hid (HB2.out.trans (hst3.mono HB2.out.size))
    clear bx2_paR_0 bx2_paR_1 sz2_paR HO2_1_vR_2 ho3 hb3 hst3 HB2
    go_wp2_with fail
    refine (laws_toRelation (c1 := c1_vR) vR hq_vR _ (Below.size (by repeat (first | (with_reducible exact Below.refl _ _) | (with_reducible apply Below.drew) | (with_reducible refine below_drewN ?_ _) | (refine Below.setCell ?_ (by simp <;> omega) _) | (refine Below.alloc ?_ (by simp <;> omega) _)) : Below w3.heap.size w3 _)) ((HS_1_vR.out.later (HB3.out.trans ((by repeat (first | (with_reducible exact Below.refl _ _) | (with_reducible apply Below.drew) | (with_reducible refine below_drewN ?_ _) | (refine Below.setCell ?_ (by simp <;> omega) _) | (refine Below.alloc ?_ (by simp <;> omega) _)) : Below w3.heap.size w3 _).mono HB3.out.size)) (Nat.le_refl _)).mono (Nat.le_refl _) HB3.out.size)).mono ?_
    rintro e w4 ⟨a1_vR_4, c1_vR_4, rfl, ho4, hb4⟩
    have hst4 : Below w3.heap.size w3 w4 := Below.trans (by repeat (first | (with_reducible exact Below.refl _ _) | (with_reducible apply Below.drew) | (with_reducible refine below_drewN ?_ _) | (refine Below.setCell ?_ (by simp <;> omega) _) | (refine Below.alloc ?_ (by simp <;> omega) _)) : Below w3.heap.size w3 _) (hb4.mono (Below.size (by repeat (first | (with_reducible exact Below.refl _ _) | (with_reducible apply Below.drew) | (with_reducible refine below_drewN ?_ _) | (refine Below.setCell ?_ (by simp <;> omega) _) | (refine Below.alloc ?_ (by simp <;> omega) _)) : Below w3.heap.size w3 _)))
    have hr4 : w3.heap.size + 1 ≤ w4.heap.size := Nat.le_trans (by first | exact Nat.le_refl _ | (simp; done) | (simp; omega) | (simp [World.setCell]; done) | (simp [World.setCell]; omega)) hb4.size
    have sz4_paR : w.heap.size < w4.heap.size := Nat.lt_of_lt_of_le sz3_paR hst4.size
    have bx4_paR_0 : w4.cell? ⟨w.heap.size, 0, none⟩ = some (.int .i64 vR.fN) := (hst4.cell (p := ⟨w.heap.size, 0, none⟩) sz3_paR).trans bx3_paR_0
    have bx4_paR_1 : w4.cell? ⟨w.heap.size, 1, none⟩ = some (.slice a1_vR vR.fRows.length c1_vR) := (hst4.cell (p := ⟨w.heap.size, 1, none⟩) sz3_paR).trans bx3_paR_1
    have sz4_w0 : w3.heap.size < w4.heap.size := Nat.lt_of_lt_of_le (by first | omega | (simp; done) | (simp; omega) | (simp [World.setCell]; omega)) hb4.size
    have bx4_w0_0 : w4.cell? ⟨w3.heap.size, 0, none⟩ = some (.int .i64 (closeRel vR).fN) := (hb4.cell (p := ⟨w3.heap.size, 0, none⟩) (by first | omega | (simp; done) | (simp; omega) | (simp [World.setCell]; omega))).trans (by go_simp)
    have bx4_w0_1 : w4.cell? ⟨w3.heap.size, 1, none⟩ = some (.slice a1_R_3 (closeRel vR).fRows.length c1_R_3) := (hb4.cell (p := ⟨w3.heap.size, 1, none⟩) (by first | omega | (simp; done) | (simp; omega) | (simp [World.setCell]; omega))).trans (by go_simp)
    have HO4_1_vR_2 := Lib.hid (HO3_1_vR_2.out.kept (Kept.of_below_all hst4))
    have HO4_1_R_3 := Lib.hid (HO3_1_R_3.out.kept (Kept.of_below_all hst4))
    have HO4_1_vR_4 := Lib.hid (show Own w4 (fun y => w3.heap.size + 1 ≤ y ∧ y < w4.heap.size) (.sl 1 vR.fRows.length (fun k => ictI (vR.fRows.getD k default))) (.slice a1_vR_4 vR.fRows.length c1_vR_4) from Own.sub (F := fun y => _ ≤ y ∧ y < _) (OwnR.at ho4 1 (by decide)) (fun y hy => ⟨Nat.le_trans (by first | exact Nat.le_refl _ | (simp; done) | (simp; omega) | (simp [World.setCell]; done) | (simp [World.setCell]; omega)) hy.1, hy.2⟩))
    have HB4 := Lib.hid (HB3.out.trans (hst4.mono HB3.out.size))
    clear bx3_paR_0 bx3_paR_1 sz3_paR HO3_1_vR_2 HO3_1_R_3 ho4 hb4 hst4 HB3
    go_wp2_with fail
    refine (impl_CloseRelation (c0_0 := c1_vR_4) vR OK_vR.out hq_vR _ (Below.size (by repeat (first | (with_reducible exact Below.refl _ _) | (with_reducible apply Below.drew) | (with_reducible refine below_drewN ?_ _) | (refine Below.setCell ?_ (by simp <;> omega) _) | (refine Below.alloc ?_ (by simp <;> omega) _)) : Below w4.heap.size w4 _)) ((Sl.of (HO4_1_vR_4.out.lies (lo := 0) (hi := w4.heap.size) (fun y hy => ⟨Nat.zero_le _, by have := hy.2; omega⟩))).later (by repeat (first | (with_reducible exact Below.refl _ _) | (with_reducible apply Below.drew) | (with_reducible refine below_drewN ?_ _) | (refine Below.setCell ?_ (by simp <;> omega) _) | (refine Below.alloc ?_ (by simp <;> omega) _)) : Below w4.heap.size w4 _) (Nat.le_refl _))).mono ?_
    rintro e w5 ⟨a1_R_5, c1_R_5, rfl, ho5, hb5⟩
    have hst5 : Below w4.heap.size w4 w5 := Below.trans (by repeat (first | (with_reducible exact Below.refl _ _) | (with_reducible apply Below.drew) | (with_reducible refine below_drewN ?_ _) | (refine Below.setCell ?_ (by simp <;> omega) _) | (refine Below.alloc ?_ (by simp <;> omega) _)) : Below w4.heap.size w4 _) (hb5.mono (Below.size (by repeat (first | (with_reducible exact Below.refl _ _) | (with_reducible apply Below.drew) | (with_reducible refine below_drewN ?_ _) | (refine Below.setCell ?_ (by simp <;> omega) _) | (refine Below.alloc ?_ (by simp <;> omega) _)) : Below w4.heap.size w4 _)))
    have hr5 : w4.heap.size + 1 ≤ w5.heap.size := Nat.le_trans (by first | exact Nat.le_refl _ | (simp; done) | (simp; omega) | (simp [World.setCell]; done) | (simp [World.setCell]; omega)) hb5.size
    have sz5_paR : w.heap.size < w5.heap.size := Nat.lt_of_lt_of_le sz4_paR hst5.size
    have bx5_paR_0 : w5.cell? ⟨w.heap.size, 0, none⟩ = some (.int .i64 vR.fN) := (hst5.cell (p := ⟨w.heap.size, 0, none⟩) sz4_paR).trans bx4_paR_0
    have bx5_paR_1 : w5.cell? ⟨w.heap.size, 1, none⟩ = some (.slice a1_vR vR.fRows.length c1_vR) := (hst5.cell (p := ⟨w.heap.size, 1, none⟩) sz4_paR).trans bx4_paR_1
    have sz5_w0 : w3.heap.size < w5.heap.size := Nat.lt_of_lt_of_le sz4_w0 hst5.size
    have bx5_w0_0 : w5.cell? ⟨w3.heap.size, 0, none⟩ = some (.int .i64 (closeRel vR).fN) := (hst5.cell (p := ⟨w3.heap.size, 0, none⟩) sz4_w0).trans bx4_w0_0
    have bx5_w0_1 : w5.cell? ⟨w3.heap.size, 1, none⟩ = some (.slice a1_R_3 (closeRel vR).fRows.length c1_R_3) := (hst5.cell (p := ⟨w3.heap.size, 1, none⟩) sz4_w0).trans bx4_w0_1
    have sz5_x0 : w4.heap.size < w5.heap.size := Nat.lt_of_lt_of_le (by first | omega | (simp; done) | (simp; omega) | (simp [World.setCell]; omega)) hb5.size
    have bx5_x0_0 : w5.cell? ⟨w4.heap.size, 0, none⟩ = some (.int .i64 vR.fN) := (hb5.cell (p := ⟨w4.heap.size, 0, none⟩) (by first | omega | (simp; done) | (simp; omega) | (simp [World.setCell]; omega))).trans (by go_simp)
    have bx5_x0_1 : w5.cell? ⟨w4.heap.size, 1, none⟩ = some (.slice a1_vR_4 vR.fRows.length c1_vR_4) := (hb5.cell (p := ⟨w4.heap.size, 1, none⟩) (by first | omega | (simp; done) | (simp; omega) | (simp [World.setCell]; omega))).trans (by go_simp)
    have HO5_1_vR_2 := Lib.hid (HO4_1_vR_2.out.kept (Kept.of_below_all hst5))
    have HO5_1_R_3 := Lib.hid (HO4_1_R_3.out.kept (Kept.of_below_all hst5))
    have HO5_1_vR_4 := Lib.hid (HO4_1_vR_4.out.kept (Kept.of_below_all hst5))
    have HO5_1_R_5 := Lib.hid (show Own w5 (fun y => w4.heap.size + 1 ≤ y ∧ y < w5.heap.size) (.sl 1 (closeRel vR).fRows.length (fun k => ictI ((closeRel vR).fRows.getD k default))) (.slice a1_R_5 (closeRel vR).fRows.length c1_R_5) from Own.sub (F := fun y => _ ≤ y ∧ y < _) ho5 (fun y hy => ⟨Nat.le_trans (by first | exact Nat.le_refl _ | (simp; done) | (simp; omega) | (simp [World.setCell]; done) | (simp [World.setCell]; omega)) hy.1, hy.2⟩))
    have HB5 := Lib.hid (HB4.out.trans (hst5.mono HB4.out.size))
    clear bx4_paR_0 bx4_paR_1 sz4_paR bx4_w0_0 bx4_w0_1 sz4_w0 HO4_1_vR_2 HO4_1_R_3 HO4_1_vR_4 ho5 hb5 hst5 HB4
    go_wp2_with fail
    refine (laws_eqRelation (c1 := c1_R_5) (c1q := c1_R_3) (closeRel vR) hq_R _ (Below.size (by repeat (first | (with_reducible exact Below.refl _ _) | (with_reducible apply Below.drew) | (with_reducible refine below_drewN ?_ _) | (refine Below.setCell ?_ (by simp <;> omega) _) | (refine Below.alloc ?_ (by simp <;> omega) _)) : Below w5.heap.size w5 _)) (Below.size (by repeat (first | (with_reducible exact Below.refl _ _) | (with_reducible apply Below.drew) | (with_reducible refine below_drewN ?_ _) | (refine Below.setCell ?_ (by simp <;> omega) _) | (refine Below.alloc ?_ (by simp <;> omega) _)) : Below w5.heap.size w5 _)) ((Sl.of (HO5_1_R_5.out.lies (lo := 0) (hi := w5.heap.size) (fun y hy => ⟨Nat.zero_le _, by have := hy.2; omega⟩))).later (by repeat (first | (with_reducible exact Below.refl _ _) | (with_reducible apply Below.drew) | (with_reducible refine below_drewN ?_ _) | (refine Below.setCell ?_ (by simp <;> omega) _) | (refine Below.alloc ?_ (by simp <;> omega) _)) : Below w5.heap.size w5 _) (Nat.le_refl _)) ((Sl.of (HO5_1_R_3.out.lies (lo := 0) (hi := w5.heap.size) (fun y hy => ⟨Nat.zero_le _, by have := hy.2; omega⟩))).later (by repeat (first | (with_reducible exact Below.refl _ _) | (with_reducible apply Below.drew) | (with_reducible refine below_drewN ?_ _) | (refine Below.setCell ?_ (by simp <;> omega) _) | (refine Below.alloc ?_ (by simp <;> omega) _)) : Below w5.heap.size w5 _) (Nat.le_refl _))).mono ?_
    rintro e w6 ⟨rfl, hb6⟩
    have hst6 : Below w5.heap.size w5 w6 := Below.trans (by repeat (first | (with_reducible exact Below.refl _ _) | (with_reducible apply Below.drew) | (with_reducible refine below_drewN ?_ _) | (refine Below.setCell ?_ (by simp <;> omega) _) | (refine Below.alloc ?_ (by simp <;> omega) _)) : Below w5.heap.size w5 _) (hb6.mono (Below.size (by repeat (first | (with_reducible exact Below.refl _ _) | (with_reducible apply Below.drew) | (with_reducible refine below_drewN ?_ _) | (refine Below.setCell ?_ (by simp <;> omega) _) | (refine Below.alloc ?_ (by simp <;> omega) _)) : Below w5.heap.size w5 _)))
    have hr6 : w5.heap.size + 1 ≤ w6.heap.size := Nat.le_trans (by first | exact Nat.le_refl _ | (simp; done) | (simp; omega) | (simp [World.setCell]; done) | (simp [World.setCell]; omega)) hb6.size
    have sz6_paR : w.heap.size < w6.heap.size := Nat.lt_of_lt_of_le sz5_paR hst6.size
    have bx6_paR_0 : w6.cell? ⟨w.heap.size, 0, none⟩ = some (.int .i64 vR.fN) := (hst6.cell (p := ⟨w.heap.size, 0, none⟩) sz5_paR).trans bx5_paR_0
    have bx6_paR_1 : w6.cell? ⟨w.heap.size, 1, none⟩ = some (.slice a1_vR vR.fRows.length c1_vR) := (hst6.cell (p := ⟨w.heap.size, 1, none⟩) sz5_paR).trans bx5_paR_1
    have sz6_w0 : w3.heap.size < w6.heap.size := Nat.lt_of_lt_of_le sz5_w0 hst6.size
    have bx6_w0_0 : w6.cell? ⟨w3.heap.size, 0, none⟩ = some (.int .i64 (closeRel vR).fN) := (hst6.cell (p := ⟨w3.heap.size, 0, none⟩) sz5_w0).trans bx5_w0_0
    have bx6_w0_1 : w6.cell? ⟨w3.heap.size, 1, none⟩ = some (.slice a1_R_3 (closeRel vR).fRows.length c1_R_3) := (hst6.cell (p := ⟨w3.heap.size, 1, none⟩) sz5_w0).trans bx5_w0_1
    have sz6_x0 : w4.heap.size < w6.heap.size := Nat.lt_of_lt_of_le sz5_x0 hst6.size
    have bx6_x0_0 : w6.cell? ⟨w4.heap.size, 0, none⟩ = some (.int .i64 vR.fN) := (hst6.cell (p := ⟨w4.heap.size, 0, none⟩) sz5_x0).trans bx5_x0_0
    have bx6_x0_1 : w6.cell? ⟨w4.heap.size, 1, none⟩ = some (.slice a1_vR_4 vR.fRows.length c1_vR_4) := (hst6.cell (p := ⟨w4.heap.size, 1, none⟩) sz5_x0).trans bx5_x0_1
    have sz6_g0 : w5.heap.size < w6.heap.size := Nat.lt_of_lt_of_le (by first | omega | (simp; done) | (simp; omega) | (simp [World.setCell]; omega)) hb6.size
    have bx6_g0_0 : w6.cell? ⟨w5.heap.size, 0, none⟩ = some (.int .i64 (closeRel vR).fN) := (hb6.cell (p := ⟨w5.heap.size, 0, none⟩) (by first | omega | (simp; done) | (simp; omega) | (simp [World.setCell]; omega))).trans (by go_simp)
    have bx6_g0_1 : w6.cell? ⟨w5.heap.size, 1, none⟩ = some (.slice a1_R_5 (closeRel vR).fRows.length c1_R_5) := (hb6.cell (p := ⟨w5.heap.size, 1, none⟩) (by first | omega | (simp; done) | (simp; omega) | (simp [World.setCell]; omega))).trans (by go_simp)
    have HO6_1_vR_2 := Lib.hid (HO5_1_vR_2.out.kept (Kept.of_below_all hst6))
    have HO6_1_R_3 := Lib.hid (HO5_1_R_3.out.kept (Kept.of_below_all hst6))
    have HO6_1_vR_4 := Lib.hid (HO5_1_vR_4.out.kept (Kept.of_below_all hst6))
    have HO6_1_R_5 := Lib.hid (HO5_1_R_5.out.kept (Kept.of_below_all hst6))
    have HB6 := Lib.hid (HB5.out.trans (hst6.mono HB5.out.size))
    clear bx5_paR_0 bx5_paR_1 sz5_paR bx5_w0_0 bx5_w0_1 sz5_w0 bx5_x0_0 bx5_x0_1 sz5_x0 HO5_1_vR_2 HO5_1_R_3 HO5_1_vR_4 HO5_1_R_5 hb6 hst6 HB5
    go_wp2_with fail
    go_region_with ((first | (go_at_call 27; refine (laws_toRelation (c1 := c1_vR) vR hq_vR _ (Below.size (by repeat (first | (with_reducible exact Below.refl _ _) | (with_reducible apply Below.drew) | (with_reducible refine below_drewN ?_ _) | (refine Below.setCell ?_ (by simp <;> omega) _) | (refine Below.alloc ?_ (by simp <;> omega) _)) : Below w6.heap.size w6 _)) ((HS_1_vR.out.later (HB6.out.trans ((by repeat (first | (with_reducible exact Below.refl _ _) | (with_reducible apply Below.drew) | (with_reducible refine below_drewN ?_ _) | (refine Below.setCell ?_ (by simp <;> omega) _) | (refine Below.alloc ?_ (by simp <;> omega) _)) : Below w6.heap.size w6 _).mono HB6.out.size)) (Nat.le_refl _)).mono (Nat.le_refl _) HB6.out.size)).mono ?_; rintro e w7 ⟨a1_vR_7, c1_vR_7, rfl, ho7, hb7⟩; have hst7 : Below w6.heap.size w6 w7 := Below.trans (by repeat (first | (with_reducible exact Below.refl _ _) | (with_reducible apply Below.drew) | (with_reducible refine below_drewN ?_ _) | (refine Below.setCell ?_ (by simp <;> omega) _) | (refine Below.alloc ?_ (by simp <;> omega) _)) : Below w6.heap.size w6 _) (hb7.mono (Below.size (by repeat (first | (with_reducible exact Below.refl _ _) | (with_reducible apply Below.drew) | (with_reducible refine below_drewN ?_ _) | (refine Below.setCell ?_ (by simp <;> omega) _) | (refine Below.alloc ?_ (by simp <;> omega) _)) : Below w6.heap.size w6 _))); have hr7 : w6.heap.size ≤ w7.heap.size := Nat.le_trans (by first | exact Nat.le_refl _ | (simp; done) | (simp; omega) | (simp [World.setCell]; done) | (simp [World.setCell]; omega)) hb7.size; have sz7_paR : w.heap.size < w7.heap.size := Nat.lt_of_lt_of_le sz6_paR hst7.size; have bx7_paR_0 : w7.cell? ⟨w.heap.size, 0, none⟩ = some (.int .i64 vR.fN) := (hst7.cell (p := ⟨w.heap.size, 0, none⟩) sz6_paR).trans bx6_paR_0; have bx7_paR_1 : w7.cell? ⟨w.heap.size, 1, none⟩ = some (.slice a1_vR vR.fRows.length c1_vR) := (hst7.cell (p := ⟨w.heap.size, 1, none⟩) sz6_paR).trans bx6_paR_1; have sz7_w0 : w3.heap.size < w7.heap.size := Nat.lt_of_lt_of_le sz6_w0 hst7.size; have bx7_w0_0 : w7.cell? ⟨w3.heap.size, 0, none⟩ = some (.int .i64 (closeRel vR).fN) := (hst7.cell (p := ⟨w3.heap.size, 0, none⟩) sz6_w0).trans bx6_w0_0; have bx7_w0_1 : w7.cell? ⟨w3.heap.size, 1, none⟩ = some (.slice a1_R_3 (closeRel vR).fRows.length c1_R_3) := (hst7.cell (p := ⟨w3.heap.size, 1, none⟩) sz6_w0).trans bx6_w0_1; have sz7_x0 : w4.heap.size < w7.heap.size := Nat.lt_of_lt_of_le sz6_x0 hst7.size; have bx7_x0_0 : w7.cell? ⟨w4.heap.size, 0, none⟩ = some (.int .i64 vR.fN) := (hst7.cell (p := ⟨w4.heap.size, 0, none⟩) sz6_x0).trans bx6_x0_0; have bx7_x0_1 : w7.cell? ⟨w4.heap.size, 1, none⟩ = some (.slice a1_vR_4 vR.fRows.length c1_vR_4) := (hst7.cell (p := ⟨w4.heap.size, 1, none⟩) sz6_x0).trans bx6_x0_1; have sz7_g0 : w5.heap.size < w7.heap.size := Nat.lt_of_lt_of_le sz6_g0 hst7.size; have bx7_g0_0 : w7.cell? ⟨w5.heap.size, 0, none⟩ = some (.int .i64 (closeRel vR).fN) := (hst7.cell (p := ⟨w5.heap.size, 0, none⟩) sz6_g0).trans bx6_g0_0; have bx7_g0_1 : w7.cell? ⟨w5.heap.size, 1, none⟩ = some (.slice a1_R_5 (closeRel vR).fRows.length c1_R_5) := (hst7.cell (p := ⟨w5.heap.size, 1, none⟩) sz6_g0).trans bx6_g0_1; have HO7_1_vR_2 := Lib.hid (HO6_1_vR_2.out.kept (Kept.of_below_all hst7)); have HO7_1_R_3 := Lib.hid (HO6_1_R_3.out.kept (Kept.of_below_all hst7)); have HO7_1_vR_4 := Lib.hid (HO6_1_vR_4.out.kept (Kept.of_below_all hst7)); have HO7_1_R_5 := Lib.hid (HO6_1_R_5.out.kept (Kept.of_below_all hst7)); have HO7_1_vR_7 := Lib.hid (show Own w7 (fun y => w6.heap.size ≤ y ∧ y < w7.heap.size) (.sl 1 vR.fRows.length (fun k => ictI (vR.fRows.getD k default))) (.slice a1_vR_7 vR.fRows.length c1_vR_7) from Own.sub (F := fun y => _ ≤ y ∧ y < _) (OwnR.at ho7 1 (by decide)) (fun y hy => ⟨Nat.le_trans (by first | exact Nat.le_refl _ | (simp; done) | (simp; omega) | (simp [World.setCell]; done) | (simp [World.setCell]; omega)) hy.1, hy.2⟩)); have HB7 := Lib.hid (HB6.out.trans (hst7.mono HB6.out.size)); clear bx6_paR_0 bx6_paR_1 sz6_paR bx6_w0_0 bx6_w0_1 sz6_w0 bx6_x0_0 bx6_x0_1 sz6_x0 bx6_g0_0 bx6_g0_1 sz6_g0 HO6_1_vR_2 HO6_1_R_3 HO6_1_vR_4 HO6_1_R_5 ho7 hb7 hst7 HB6) | (go_at_call 29; refine (laws_eqRelation (c1 := c1_vR_4) (c1q := c1_vR_7) vR hq_vR _ (Below.size (by repeat (first | (with_reducible exact Below.refl _ _) | (with_reducible apply Below.drew) | (with_reducible refine below_drewN ?_ _) | (refine Below.setCell ?_ (by simp <;> omega) _) | (refine Below.alloc ?_ (by simp <;> omega) _)) : Below w7.heap.size w7 _)) (Below.size (by repeat (first | (with_reducible exact Below.refl _ _) | (with_reducible apply Below.drew) | (with_reducible refine below_drewN ?_ _) | (refine Below.setCell ?_ (by simp <;> omega) _) | (refine Below.alloc ?_ (by simp <;> omega) _)) : Below w7.heap.size w7 _)) ((Sl.of (HO7_1_vR_4.out.lies (lo := 0) (hi := w7.heap.size) (fun y hy => ⟨Nat.zero_le _, by have := hy.2; omega⟩))).later (by repeat (first | (with_reducible exact Below.refl _ _) | (with_reducible apply Below.drew) | (with_reducible refine below_drewN ?_ _) | (refine Below.setCell ?_ (by simp <;> omega) _) | (refine Below.alloc ?_ (by simp <;> omega) _)) : Below w7.heap.size w7 _) (Nat.le_refl _)) ((Sl.of (HO7_1_vR_7.out.lies (lo := 0) (hi := w7.heap.size) (fun y hy => ⟨Nat.zero_le _, by have := hy.2; omega⟩))).later (by repeat (first | (with_reducible exact Below.refl _ _) | (with_reducible apply Below.drew) | (with_reducible refine below_drewN ?_ _) | (refine Below.setCell ?_ (by simp <;> omega) _) | (refine Below.alloc ?_ (by simp <;> omega) _)) : Below w7.heap.size w7 _) (Nat.le_refl _))).mono ?_; rintro e w8 ⟨rfl, hb8⟩; have hst8 : Below w7.heap.size w7 w8 := Below.trans (by repeat (first | (with_reducible exact Below.refl _ _) | (with_reducible apply Below.drew) | (with_reducible refine below_drewN ?_ _) | (refine Below.setCell ?_ (by simp <;> omega) _) | (refine Below.alloc ?_ (by simp <;> omega) _)) : Below w7.heap.size w7 _) (hb8.mono (Below.size (by repeat (first | (with_reducible exact Below.refl _ _) | (with_reducible apply Below.drew) | (with_reducible refine below_drewN ?_ _) | (refine Below.setCell ?_ (by simp <;> omega) _) | (refine Below.alloc ?_ (by simp <;> omega) _)) : Below w7.heap.size w7 _))); have hr8 : w7.heap.size ≤ w8.heap.size := Nat.le_trans (by first | exact Nat.le_refl _ | (simp; done) | (simp; omega) | (simp [World.setCell]; done) | (simp [World.setCell]; omega)) hb8.size; have sz8_paR : w.heap.size < w8.heap.size := Nat.lt_of_lt_of_le sz7_paR hst8.size; have bx8_paR_0 : w8.cell? ⟨w.heap.size, 0, none⟩ = some (.int .i64 vR.fN) := (hst8.cell (p := ⟨w.heap.size, 0, none⟩) sz7_paR).trans bx7_paR_0; have bx8_paR_1 : w8.cell? ⟨w.heap.size, 1, none⟩ = some (.slice a1_vR vR.fRows.length c1_vR) := (hst8.cell (p := ⟨w.heap.size, 1, none⟩) sz7_paR).trans bx7_paR_1; have sz8_w0 : w3.heap.size < w8.heap.size := Nat.lt_of_lt_of_le sz7_w0 hst8.size; have bx8_w0_0 : w8.cell? ⟨w3.heap.size, 0, none⟩ = some (.int .i64 (closeRel vR).fN) := (hst8.cell (p := ⟨w3.heap.size, 0, none⟩) sz7_w0).trans bx7_w0_0; have bx8_w0_1 : w8.cell? ⟨w3.heap.size, 1, none⟩ = some (.slice a1_R_3 (closeRel vR).fRows.length c1_R_3) := (hst8.cell (p := ⟨w3.heap.size, 1, none⟩) sz7_w0).trans bx7_w0_1; have sz8_x0 : w4.heap.size < w8.heap.size := Nat.lt_of_lt_of_le sz7_x0 hst8.size; have bx8_x0_0 : w8.cell? ⟨w4.heap.size, 0, none⟩ = some (.int .i64 vR.fN) := (hst8.cell (p := ⟨w4.heap.size, 0, none⟩) sz7_x0).trans bx7_x0_0; have bx8_x0_1 : w8.cell? ⟨w4.heap.size, 1, none⟩ = some (.slice a1_vR_4 vR.fRows.length c1_vR_4) := (hst8.cell (p := ⟨w4.heap.size, 1, none⟩) sz7_x0).trans bx7_x0_1; have sz8_g0 : w5.heap.size < w8.heap.size := Nat.lt_of_lt_of_le sz7_g0 hst8.size; have bx8_g0_0 : w8.cell? ⟨w5.heap.size, 0, none⟩ = some (.int .i64 (closeRel vR).fN) := (hst8.cell (p := ⟨w5.heap.size, 0, none⟩) sz7_g0).trans bx7_g0_0; have bx8_g0_1 : w8.cell? ⟨w5.heap.size, 1, none⟩ = some (.slice a1_R_5 (closeRel vR).fRows.length c1_R_5) := (hst8.cell (p := ⟨w5.heap.size, 1, none⟩) sz7_g0).trans bx7_g0_1; have HO8_1_vR_2 := Lib.hid (HO7_1_vR_2.out.kept (Kept.of_below_all hst8)); have HO8_1_R_3 := Lib.hid (HO7_1_R_3.out.kept (Kept.of_below_all hst8)); have HO8_1_vR_4 := Lib.hid (HO7_1_vR_4.out.kept (Kept.of_below_all hst8)); have HO8_1_R_5 := Lib.hid (HO7_1_R_5.out.kept (Kept.of_below_all hst8)); have HO8_1_vR_7 := Lib.hid (HO7_1_vR_7.out.kept (Kept.of_below_all hst8)); have HB8 := Lib.hid (HB7.out.trans (hst8.mono HB7.out.size)); clear bx7_paR_0 bx7_paR_1 sz7_paR bx7_w0_0 bx7_w0_1 sz7_w0 bx7_x0_0 bx7_x0_1 sz7_x0 bx7_g0_0 bx7_g0_1 sz7_g0 HO7_1_vR_2 HO7_1_R_3 HO7_1_vR_4 HO7_1_R_5 HO7_1_vR_7 hb8 hst8 HB7)))
    all_goals
      go_wp2_with fail
      refine (laws_markRelation (c1 := c1_vR_4) vR (by have h1 := rel_len hq_vR; have h2 := closeRel_len vR; omega) 1 (by have h1 := rel_len hq_vR; have h2 := closeRel_len vR; omega) _ (fun y hy => Nat.lt_of_lt_of_le (show y < w8.heap.size by have := hy.2; omega) (Below.size (by repeat (first | (with_reducible exact Below.refl _ _) | (with_reducible apply Below.drew) | (with_reducible refine below_drewN ?_ _) | (refine Below.setCell ?_ (by simp <;> omega) _) | (refine Below.alloc ?_ (by simp <;> omega) _)) : Below w8.heap.size w8 _))) (HO8_1_vR_4.out.kept (Kept.of_below (by repeat (first | (with_reducible exact Below.refl _ _) | (with_reducible apply Below.drew) | (with_reducible refine below_drewN ?_ _) | (refine Below.setCell ?_ (by simp <;> omega) _) | (refine Below.alloc ?_ (by simp <;> omega) _)) : Below w8.heap.size w8 _) (fun y hy => by have := hy.2; omega)))).mono ?_
      rintro e w9 ⟨rfl, ho9, hw9⟩
      have hst9 : WritesF (fun y => w3.heap.size + 1 ≤ y ∧ y < w4.heap.size) w8 w9 := hw9.of_below (by repeat (first | (with_reducible exact Below.refl _ _) | (with_reducible apply Below.drew) | (with_reducible refine below_drewN ?_ _) | (refine Below.setCell ?_ (by simp <;> omega) _) | (refine Below.alloc ?_ (by simp <;> omega) _)) : Below w8.heap.size w8 _)
      have hr9 : w8.heap.size ≤ w9.heap.size := Nat.le_trans (by first | exact Nat.le_refl _ | (simp; done) | (simp; omega) | (simp [World.setCell]; done) | (simp [World.setCell]; omega)) hw9.size
      have sz9_paR : w.heap.size < w9.heap.size := Nat.lt_of_lt_of_le sz8_paR hst9.size
      have bx9_paR_0 : w9.cell? ⟨w.heap.size, 0, none⟩ = some (.int .i64 vR.fN) := (World.cell?_of_block (a := ⟨w.heap.size, 0, none⟩) (hst9.block w.heap.size sz8_paR (fun hf => by have h1 := hf.1; have h2 := hf.2; omega))).trans bx8_paR_0
      have bx9_paR_1 : w9.cell? ⟨w.heap.size, 1, none⟩ = some (.slice a1_vR vR.fRows.length c1_vR) := (World.cell?_of_block (a := ⟨w.heap.size, 1, none⟩) (hst9.block w.heap.size sz8_paR (fun hf => by have h1 := hf.1; have h2 := hf.2; omega))).trans bx8_paR_1
      have sz9_w0 : w3.heap.size < w9.heap.size := Nat.lt_of_lt_of_le sz8_w0 hst9.size
      have bx9_w0_0 : w9.cell? ⟨w3.heap.size, 0, none⟩ = some (.int .i64 (closeRel vR).fN) := (World.cell?_of_block (a := ⟨w3.heap.size, 0, none⟩) (hst9.block w3.heap.size sz8_w0 (fun hf => by have h1 := hf.1; have h2 := hf.2; omega))).trans bx8_w0_0
      have bx9_w0_1 : w9.cell? ⟨w3.heap.size, 1, none⟩ = some (.slice a1_R_3 (closeRel vR).fRows.length c1_R_3) := (World.cell?_of_block (a := ⟨w3.heap.size, 1, none⟩) (hst9.block w3.heap.size sz8_w0 (fun hf => by have h1 := hf.1; have h2 := hf.2; omega))).trans bx8_w0_1
      have sz9_x0 : w4.heap.size < w9.heap.size := Nat.lt_of_lt_of_le sz8_x0 hst9.size
      have bx9_x0_0 : w9.cell? ⟨w4.heap.size, 0, none⟩ = some (.int .i64 vR.fN) := (World.cell?_of_block (a := ⟨w4.heap.size, 0, none⟩) (hst9.block w4.heap.size sz8_x0 (fun hf => by have h1 := hf.1; have h2 := hf.2; omega))).trans bx8_x0_0
      have bx9_x0_1 : w9.cell? ⟨w4.heap.size, 1, none⟩ = some (.slice a1_vR_4 vR.fRows.length c1_vR_4) := (World.cell?_of_block (a := ⟨w4.heap.size, 1, none⟩) (hst9.block w4.heap.size sz8_x0 (fun hf => by have h1 := hf.1; have h2 := hf.2; omega))).trans bx8_x0_1
      have sz9_g0 : w5.heap.size < w9.heap.size := Nat.lt_of_lt_of_le sz8_g0 hst9.size
      have bx9_g0_0 : w9.cell? ⟨w5.heap.size, 0, none⟩ = some (.int .i64 (closeRel vR).fN) := (World.cell?_of_block (a := ⟨w5.heap.size, 0, none⟩) (hst9.block w5.heap.size sz8_g0 (fun hf => by have h1 := hf.1; have h2 := hf.2; omega))).trans bx8_g0_0
      have bx9_g0_1 : w9.cell? ⟨w5.heap.size, 1, none⟩ = some (.slice a1_R_5 (closeRel vR).fRows.length c1_R_5) := (World.cell?_of_block (a := ⟨w5.heap.size, 1, none⟩) (hst9.block w5.heap.size sz8_g0 (fun hf => by have h1 := hf.1; have h2 := hf.2; omega))).trans bx8_g0_1
      have HO9_1_vR_2 := Lib.hid (HO8_1_vR_2.out.kept (hst9.kept (fun y hy hf => by have h1 := hy.1; have h2 := hy.2; have h3 := hf.1; have h4 := hf.2; omega)))
      have HO9_1_R_3 := Lib.hid (HO8_1_R_3.out.kept (hst9.kept (fun y hy hf => by have h1 := hy.1; have h2 := hy.2; have h3 := hf.1; have h4 := hf.2; omega)))
      have HO9_1_vR_4 := Lib.hid ho9
      have HO9_1_R_5 := Lib.hid (HO8_1_R_5.out.kept (hst9.kept (fun y hy hf => by have h1 := hy.1; have h2 := hy.2; have h3 := hf.1; have h4 := hf.2; omega)))
      have HO9_1_vR_7 := Lib.hid (HO8_1_vR_7.out.kept (hst9.kept (fun y hy hf => by have h1 := hy.1; have h2 := hy.2; have h3 := hf.1; have h4 := hf.2; omega)))
      have HB9 := Lib.hid (HB8.out.trans (hst9.below (fun y hy => by have := hy.1; omega) HB8.out.size))
      clear bx8_paR_0 bx8_paR_1 sz8_paR bx8_w0_0 bx8_w0_1 sz8_w0 bx8_x0_0 bx8_x0_1 sz8_x0 bx8_g0_0 bx8_g0_1 sz8_g0 HO8_1_vR_2 HO8_1_R_3 ho9 HO8_1_vR_4 HO8_1_R_5 HO8_1_vR_7 hw9 hst9 HB8
      go_wp2_with fail
      refine (laws_eqRelation (c1 := c1_R_5) (c1q := c1_R_3) (closeRel vR) hq_R _ (Below.size (by repeat (first | (with_reducible exact Below.refl _ _) | (with_reducible apply Below.drew) | (with_reducible refine below_drewN ?_ _) | (refine Below.setCell ?_ (by simp <;> omega) _) | (refine Below.alloc ?_ (by simp <;> omega) _)) : Below w9.heap.size w9 _)) (Below.size (by repeat (first | (with_reducible exact Below.refl _ _) | (with_reducible apply Below.drew) | (with_reducible refine below_drewN ?_ _) | (refine Below.setCell ?_ (by simp <;> omega) _) | (refine Below.alloc ?_ (by simp <;> omega) _)) : Below w9.heap.size w9 _)) ((Sl.of (HO9_1_R_5.out.lies (lo := 0) (hi := w9.heap.size) (fun y hy => ⟨Nat.zero_le _, by have := hy.2; omega⟩))).later (by repeat (first | (with_reducible exact Below.refl _ _) | (with_reducible apply Below.drew) | (with_reducible refine below_drewN ?_ _) | (refine Below.setCell ?_ (by simp <;> omega) _) | (refine Below.alloc ?_ (by simp <;> omega) _)) : Below w9.heap.size w9 _) (Nat.le_refl _)) ((Sl.of (HO9_1_R_3.out.lies (lo := 0) (hi := w9.heap.size) (fun y hy => ⟨Nat.zero_le _, by have := hy.2; omega⟩))).later (by repeat (first | (with_reducible exact Below.refl _ _) | (with_reducible apply Below.drew) | (with_reducible refine below_drewN ?_ _) | (refine Below.setCell ?_ (by simp <;> omega) _) | (refine Below.alloc ?_ (by simp <;> omega) _)) : Below w9.heap.size w9 _) (Nat.le_refl _))).mono ?_
      rintro e w10 ⟨rfl, hb10⟩
      have hst10 : Below w9.heap.size w9 w10 := Below.trans (by repeat (first | (with_reducible exact Below.refl _ _) | (with_reducible apply Below.drew) | (with_reducible refine below_drewN ?_ _) | (refine Below.setCell ?_ (by simp <;> omega) _) | (refine Below.alloc ?_ (by simp <;> omega) _)) : Below w9.heap.size w9 _) (hb10.mono (Below.size (by repeat (first | (with_reducible exact Below.refl _ _) | (with_reducible apply Below.drew) | (with_reducible refine below_drewN ?_ _) | (refine Below.setCell ?_ (by simp <;> omega) _) | (refine Below.alloc ?_ (by simp <;> omega) _)) : Below w9.heap.size w9 _)))
      have hr10 : w9.heap.size ≤ w10.heap.size := Nat.le_trans (by first | exact Nat.le_refl _ | (simp; done) | (simp; omega) | (simp [World.setCell]; done) | (simp [World.setCell]; omega)) hb10.size
      have sz10_paR : w.heap.size < w10.heap.size := Nat.lt_of_lt_of_le sz9_paR hst10.size
      have bx10_paR_0 : w10.cell? ⟨w.heap.size, 0, none⟩ = some (.int .i64 vR.fN) := (hst10.cell (p := ⟨w.heap.size, 0, none⟩) sz9_paR).trans bx9_paR_0
      have bx10_paR_1 : w10.cell? ⟨w.heap.size, 1, none⟩ = some (.slice a1_vR vR.fRows.length c1_vR) := (hst10.cell (p := ⟨w.heap.size, 1, none⟩) sz9_paR).trans bx9_paR_1
      have sz10_w0 : w3.heap.size < w10.heap.size := Nat.lt_of_lt_of_le sz9_w0 hst10.size
      have bx10_w0_0 : w10.cell? ⟨w3.heap.size, 0, none⟩ = some (.int .i64 (closeRel vR).fN) := (hst10.cell (p := ⟨w3.heap.size, 0, none⟩) sz9_w0).trans bx9_w0_0
      have bx10_w0_1 : w10.cell? ⟨w3.heap.size, 1, none⟩ = some (.slice a1_R_3 (closeRel vR).fRows.length c1_R_3) := (hst10.cell (p := ⟨w3.heap.size, 1, none⟩) sz9_w0).trans bx9_w0_1
      have sz10_x0 : w4.heap.size < w10.heap.size := Nat.lt_of_lt_of_le sz9_x0 hst10.size
      have bx10_x0_0 : w10.cell? ⟨w4.heap.size, 0, none⟩ = some (.int .i64 vR.fN) := (hst10.cell (p := ⟨w4.heap.size, 0, none⟩) sz9_x0).trans bx9_x0_0
      have bx10_x0_1 : w10.cell? ⟨w4.heap.size, 1, none⟩ = some (.slice a1_vR_4 vR.fRows.length c1_vR_4) := (hst10.cell (p := ⟨w4.heap.size, 1, none⟩) sz9_x0).trans bx9_x0_1
      have sz10_g0 : w5.heap.size < w10.heap.size := Nat.lt_of_lt_of_le sz9_g0 hst10.size
      have bx10_g0_0 : w10.cell? ⟨w5.heap.size, 0, none⟩ = some (.int .i64 (closeRel vR).fN) := (hst10.cell (p := ⟨w5.heap.size, 0, none⟩) sz9_g0).trans bx9_g0_0
      have bx10_g0_1 : w10.cell? ⟨w5.heap.size, 1, none⟩ = some (.slice a1_R_5 (closeRel vR).fRows.length c1_R_5) := (hst10.cell (p := ⟨w5.heap.size, 1, none⟩) sz9_g0).trans bx9_g0_1
      have HO10_1_vR_2 := Lib.hid (HO9_1_vR_2.out.kept (Kept.of_below_all hst10))
      have HO10_1_R_3 := Lib.hid (HO9_1_R_3.out.kept (Kept.of_below_all hst10))
      have HO10_1_vR_4 := Lib.hid (HO9_1_vR_4.out.kept (Kept.of_below_all hst10))
      have HO10_1_R_5 := Lib.hid (HO9_1_R_5.out.kept (Kept.of_below_all hst10))
      have HO10_1_vR_7 := Lib.hid (HO9_1_vR_7.out.kept (Kept.of_below_all hst10))
      have HB10 := Lib.hid (HB9.out.trans (hst10.mono HB9.out.size))
      clear bx9_paR_0 bx9_paR_1 sz9_paR bx9_w0_0 bx9_w0_1 sz9_w0 bx9_x0_0 bx9_x0_1 sz9_x0 bx9_g0_0 bx9_g0_1 sz9_g0 HO9_1_vR_2 HO9_1_R_3 HO9_1_vR_4 HO9_1_R_5 HO9_1_vR_7 hb10 hst10 HB9
      go_wp2_with fail
      refine (laws_markRelation (c1 := c1_R_5) (closeRel vR) (by have h1 := rel_len hq_vR; have h2 := closeRel_len vR; omega) 1 (by have h1 := rel_len hq_vR; have h2 := closeRel_len vR; omega) _ (fun y hy => Nat.lt_of_lt_of_le (show y < w10.heap.size by have := hy.2; omega) (Below.size (by repeat (first | (with_reducible exact Below.refl _ _) | (with_reducible apply Below.drew) | (with_reducible refine below_drewN ?_ _) | (refine Below.setCell ?_ (by simp <;> omega) _) | (refine Below.alloc ?_ (by simp <;> omega) _)) : Below w10.heap.size w10 _))) (HO10_1_R_5.out.kept (Kept.of_below (by repeat (first | (with_reducible exact Below.refl _ _) | (with_reducible apply Below.drew) | (with_reducible refine below_drewN ?_ _) | (refine Below.setCell ?_ (by simp <;> omega) _) | (refine Below.alloc ?_ (by simp <;> omega) _)) : Below w10.heap.size w10 _) (fun y hy => by have := hy.2; omega)))).mono ?_
      rintro e w11 ⟨rfl, ho11, hw11⟩
      have hst11 : WritesF (fun y => w4.heap.size + 1 ≤ y ∧ y < w5.heap.size) w10 w11 := hw11.of_below (by repeat (first | (with_reducible exact Below.refl _ _) | (with_reducible apply Below.drew) | (with_reducible refine below_drewN ?_ _) | (refine Below.setCell ?_ (by simp <;> omega) _) | (refine Below.alloc ?_ (by simp <;> omega) _)) : Below w10.heap.size w10 _)
      have hr11 : w10.heap.size ≤ w11.heap.size := Nat.le_trans (by first | exact Nat.le_refl _ | (simp; done) | (simp; omega) | (simp [World.setCell]; done) | (simp [World.setCell]; omega)) hw11.size
      have sz11_paR : w.heap.size < w11.heap.size := Nat.lt_of_lt_of_le sz10_paR hst11.size
      have bx11_paR_0 : w11.cell? ⟨w.heap.size, 0, none⟩ = some (.int .i64 vR.fN) := (World.cell?_of_block (a := ⟨w.heap.size, 0, none⟩) (hst11.block w.heap.size sz10_paR (fun hf => by have h1 := hf.1; have h2 := hf.2; omega))).trans bx10_paR_0
      have bx11_paR_1 : w11.cell? ⟨w.heap.size, 1, none⟩ = some (.slice a1_vR vR.fRows.length c1_vR) := (World.cell?_of_block (a := ⟨w.heap.size, 1, none⟩) (hst11.block w.heap.size sz10_paR (fun hf => by have h1 := hf.1; have h2 := hf.2; omega))).trans bx10_paR_1
      have sz11_w0 : w3.heap.size < w11.heap.size := Nat.lt_of_lt_of_le sz10_w0 hst11.size
      have bx11_w0_0 : w11.cell? ⟨w3.heap.size, 0, none⟩ = some (.int .i64 (closeRel vR).fN) := (World.cell?_of_block (a := ⟨w3.heap.size, 0, none⟩) (hst11.block w3.heap.size sz10_w0 (fun hf => by have h1 := hf.1; have h2 := hf.2; omega))).trans bx10_w0_0
      have bx11_w0_1 : w11.cell? ⟨w3.heap.size, 1, none⟩ = some (.slice a1_R_3 (closeRel vR).fRows.length c1_R_3) := (World.cell?_of_block (a := ⟨w3.heap.size, 1, none⟩) (hst11.block w3.heap.size sz10_w0 (fun hf => by have h1 := hf.1; have h2 := hf.2; omega))).trans bx10_w0_1
      have sz11_x0 : w4.heap.size < w11.heap.size := Nat.lt_of_lt_of_le sz10_x0 hst11.size
      have bx11_x0_0 : w11.cell? ⟨w4.heap.size, 0, none⟩ = some (.int .i64 vR.fN) := (World.cell?_of_block (a := ⟨w4.heap.size, 0, none⟩) (hst11.block w4.heap.size sz10_x0 (fun hf => by have h1 := hf.1; have h2 := hf.2; omega))).trans bx10_x0_0
      have bx11_x0_1 : w11.cell? ⟨w4.heap.size, 1, none⟩ = some (.slice a1_vR_4 vR.fRows.length c1_vR_4) := (World.cell?_of_block (a := ⟨w4.heap.size, 1, none⟩) (hst11.block w4.heap.size sz10_x0 (fun hf => by have h1 := hf.1; have h2 := hf.2; omega))).trans bx10_x0_1
      have sz11_g0 : w5.heap.size < w11.heap.size := Nat.lt_of_lt_of_le sz10_g0 hst11.size
      have bx11_g0_0 : w11.cell? ⟨w5.heap.size, 0, none⟩ = some (.int .i64 (closeRel vR).fN) := (World.cell?_of_block (a := ⟨w5.heap.size, 0, none⟩) (hst11.block w5.heap.size sz10_g0 (fun hf => by have h1 := hf.1; have h2 := hf.2; omega))).trans bx10_g0_0
      have bx11_g0_1 : w11.cell? ⟨w5.heap.size, 1, none⟩ = some (.slice a1_R_5 (closeRel vR).fRows.length c1_R_5) := (World.cell?_of_block (a := ⟨w5.heap.size, 1, none⟩) (hst11.block w5.heap.size sz10_g0 (fun hf => by have h1 := hf.1; have h2 := hf.2; omega))).trans bx10_g0_1
      have HO11_1_vR_2 := Lib.hid (HO10_1_vR_2.out.kept (hst11.kept (fun y hy hf => by have h1 := hy.1; have h2 := hy.2; have h3 := hf.1; have h4 := hf.2; omega)))
      have HO11_1_R_3 := Lib.hid (HO10_1_R_3.out.kept (hst11.kept (fun y hy hf => by have h1 := hy.1; have h2 := hy.2; have h3 := hf.1; have h4 := hf.2; omega)))
      have HO11_1_vR_4 := Lib.hid (HO10_1_vR_4.out.kept (hst11.kept (fun y hy hf => by have h1 := hy.1; have h2 := hy.2; have h3 := hf.1; have h4 := hf.2; omega)))
      have HO11_1_R_5 := Lib.hid ho11
      have HO11_1_vR_7 := Lib.hid (HO10_1_vR_7.out.kept (hst11.kept (fun y hy hf => by have h1 := hy.1; have h2 := hy.2; have h3 := hf.1; have h4 := hf.2; omega)))
      have HB11 := Lib.hid (HB10.out.trans (hst11.below (fun y hy => by have := hy.1; omega) HB10.out.size))
      clear bx10_paR_0 bx10_paR_1 sz10_paR bx10_w0_0 bx10_w0_1 sz10_w0 bx10_x0_0 bx10_x0_1 sz10_x0 bx10_g0_0 bx10_g0_1 sz10_g0 HO10_1_vR_2 HO10_1_R_3 HO10_1_vR_4 ho11 HO10_1_R_5 HO10_1_vR_7 hw11 hst11 HB10
      go_wp2_with fail
      refine (laws_heldRelation (c1 := c1_R_5) (closeRel vR) (by have h1 := rel_len hq_vR; have h2 := closeRel_len vR; omega) 1 (by have h1 := rel_len hq_vR; have h2 := closeRel_len vR; omega) _ (fun y hy => Nat.lt_of_lt_of_le (show y < w11.heap.size by have := hy.2; omega) (Below.size (by repeat (first | (with_reducible exact Below.refl _ _) | (with_reducible apply Below.drew) | (with_reducible refine below_drewN ?_ _) | (refine Below.setCell ?_ (by simp <;> omega) _) | (refine Below.alloc ?_ (by simp <;> omega) _)) : Below w11.heap.size w11 _))) (HO11_1_R_5.out.kept (Kept.of_below (by repeat (first | (with_reducible exact Below.refl _ _) | (with_reducible apply Below.drew) | (with_reducible refine below_drewN ?_ _) | (refine Below.setCell ?_ (by simp <;> omega) _) | (refine Below.alloc ?_ (by simp <;> omega) _)) : Below w11.heap.size w11 _) (fun y hy => by have := hy.2; omega)))).mono ?_
      rintro e w12 ⟨rfl, hb12⟩
      have hst12 : Below w11.heap.size w11 w12 := Below.trans (by repeat (first | (with_reducible exact Below.refl _ _) | (with_reducible apply Below.drew) | (with_reducible refine below_drewN ?_ _) | (refine Below.setCell ?_ (by simp <;> omega) _) | (refine Below.alloc ?_ (by simp <;> omega) _)) : Below w11.heap.size w11 _) (hb12.mono (Below.size (by repeat (first | (with_reducible exact Below.refl _ _) | (with_reducible apply Below.drew) | (with_reducible refine below_drewN ?_ _) | (refine Below.setCell ?_ (by simp <;> omega) _) | (refine Below.alloc ?_ (by simp <;> omega) _)) : Below w11.heap.size w11 _)))
      have hr12 : w11.heap.size ≤ w12.heap.size := Nat.le_trans (by first | exact Nat.le_refl _ | (simp; done) | (simp; omega) | (simp [World.setCell]; done) | (simp [World.setCell]; omega)) hb12.size
      have sz12_paR : w.heap.size < w12.heap.size := Nat.lt_of_lt_of_le sz11_paR hst12.size
      have bx12_paR_0 : w12.cell? ⟨w.heap.size, 0, none⟩ = some (.int .i64 vR.fN) := (hst12.cell (p := ⟨w.heap.size, 0, none⟩) sz11_paR).trans bx11_paR_0
      have bx12_paR_1 : w12.cell? ⟨w.heap.size, 1, none⟩ = some (.slice a1_vR vR.fRows.length c1_vR) := (hst12.cell (p := ⟨w.heap.size, 1, none⟩) sz11_paR).trans bx11_paR_1
      have sz12_w0 : w3.heap.size < w12.heap.size := Nat.lt_of_lt_of_le sz11_w0 hst12.size
      have bx12_w0_0 : w12.cell? ⟨w3.heap.size, 0, none⟩ = some (.int .i64 (closeRel vR).fN) := (hst12.cell (p := ⟨w3.heap.size, 0, none⟩) sz11_w0).trans bx11_w0_0
      have bx12_w0_1 : w12.cell? ⟨w3.heap.size, 1, none⟩ = some (.slice a1_R_3 (closeRel vR).fRows.length c1_R_3) := (hst12.cell (p := ⟨w3.heap.size, 1, none⟩) sz11_w0).trans bx11_w0_1
      have sz12_x0 : w4.heap.size < w12.heap.size := Nat.lt_of_lt_of_le sz11_x0 hst12.size
      have bx12_x0_0 : w12.cell? ⟨w4.heap.size, 0, none⟩ = some (.int .i64 vR.fN) := (hst12.cell (p := ⟨w4.heap.size, 0, none⟩) sz11_x0).trans bx11_x0_0
      have bx12_x0_1 : w12.cell? ⟨w4.heap.size, 1, none⟩ = some (.slice a1_vR_4 vR.fRows.length c1_vR_4) := (hst12.cell (p := ⟨w4.heap.size, 1, none⟩) sz11_x0).trans bx11_x0_1
      have sz12_g0 : w5.heap.size < w12.heap.size := Nat.lt_of_lt_of_le sz11_g0 hst12.size
      have bx12_g0_0 : w12.cell? ⟨w5.heap.size, 0, none⟩ = some (.int .i64 (closeRel vR).fN) := (hst12.cell (p := ⟨w5.heap.size, 0, none⟩) sz11_g0).trans bx11_g0_0
      have bx12_g0_1 : w12.cell? ⟨w5.heap.size, 1, none⟩ = some (.slice a1_R_5 (closeRel vR).fRows.length c1_R_5) := (hst12.cell (p := ⟨w5.heap.size, 1, none⟩) sz11_g0).trans bx11_g0_1
      have HO12_1_vR_2 := Lib.hid (HO11_1_vR_2.out.kept (Kept.of_below_all hst12))
      have HO12_1_R_3 := Lib.hid (HO11_1_R_3.out.kept (Kept.of_below_all hst12))
      have HO12_1_vR_4 := Lib.hid (HO11_1_vR_4.out.kept (Kept.of_below_all hst12))
      have HO12_1_R_5 := Lib.hid (HO11_1_R_5.out.kept (Kept.of_below_all hst12))
      have HO12_1_vR_7 := Lib.hid (HO11_1_vR_7.out.kept (Kept.of_below_all hst12))
      have HB12 := Lib.hid (HB11.out.trans (hst12.mono HB11.out.size))
      clear bx11_paR_0 bx11_paR_1 sz11_paR bx11_w0_0 bx11_w0_1 sz11_w0 bx11_x0_0 bx11_x0_1 sz11_x0 bx11_g0_0 bx11_g0_1 sz11_g0 HO11_1_vR_2 HO11_1_R_3 HO11_1_vR_4 HO11_1_R_5 HO11_1_vR_7 hb12 hst12 HB11
      go_wp2_with fail
      refine (laws_toRelation (c1 := c1_vR) vR hq_vR _ (Below.size (by repeat (first | (with_reducible exact Below.refl _ _) | (with_reducible apply Below.drew) | (with_reducible refine below_drewN ?_ _) | (refine Below.setCell ?_ (by simp <;> omega) _) | (refine Below.alloc ?_ (by simp <;> omega) _)) : Below w12.heap.size w12 _)) ((HS_1_vR.out.later (HB12.out.trans ((by repeat (first | (with_reducible exact Below.refl _ _) | (with_reducible apply Below.drew) | (with_reducible refine below_drewN ?_ _) | (refine Below.setCell ?_ (by simp <;> omega) _) | (refine Below.alloc ?_ (by simp <;> omega) _)) : Below w12.heap.size w12 _).mono HB12.out.size)) (Nat.le_refl _)).mono (Nat.le_refl _) HB12.out.size)).mono ?_
      rintro e w13 ⟨a1_vR_13, c1_vR_13, rfl, ho13, hb13⟩
      have hst13 : Below w12.heap.size w12 w13 := Below.trans (by repeat (first | (with_reducible exact Below.refl _ _) | (with_reducible apply Below.drew) | (with_reducible refine below_drewN ?_ _) | (refine Below.setCell ?_ (by simp <;> omega) _) | (refine Below.alloc ?_ (by simp <;> omega) _)) : Below w12.heap.size w12 _) (hb13.mono (Below.size (by repeat (first | (with_reducible exact Below.refl _ _) | (with_reducible apply Below.drew) | (with_reducible refine below_drewN ?_ _) | (refine Below.setCell ?_ (by simp <;> omega) _) | (refine Below.alloc ?_ (by simp <;> omega) _)) : Below w12.heap.size w12 _)))
      have hr13 : w12.heap.size ≤ w13.heap.size := Nat.le_trans (by first | exact Nat.le_refl _ | (simp; done) | (simp; omega) | (simp [World.setCell]; done) | (simp [World.setCell]; omega)) hb13.size
      have sz13_paR : w.heap.size < w13.heap.size := Nat.lt_of_lt_of_le sz12_paR hst13.size
      have bx13_paR_0 : w13.cell? ⟨w.heap.size, 0, none⟩ = some (.int .i64 vR.fN) := (hst13.cell (p := ⟨w.heap.size, 0, none⟩) sz12_paR).trans bx12_paR_0
      have bx13_paR_1 : w13.cell? ⟨w.heap.size, 1, none⟩ = some (.slice a1_vR vR.fRows.length c1_vR) := (hst13.cell (p := ⟨w.heap.size, 1, none⟩) sz12_paR).trans bx12_paR_1
      have sz13_w0 : w3.heap.size < w13.heap.size := Nat.lt_of_lt_of_le sz12_w0 hst13.size
      have bx13_w0_0 : w13.cell? ⟨w3.heap.size, 0, none⟩ = some (.int .i64 (closeRel vR).fN) := (hst13.cell (p := ⟨w3.heap.size, 0, none⟩) sz12_w0).trans bx12_w0_0
      have bx13_w0_1 : w13.cell? ⟨w3.heap.size, 1, none⟩ = some (.slice a1_R_3 (closeRel vR).fRows.length c1_R_3) := (hst13.cell (p := ⟨w3.heap.size, 1, none⟩) sz12_w0).trans bx12_w0_1
      have sz13_x0 : w4.heap.size < w13.heap.size := Nat.lt_of_lt_of_le sz12_x0 hst13.size
      have bx13_x0_0 : w13.cell? ⟨w4.heap.size, 0, none⟩ = some (.int .i64 vR.fN) := (hst13.cell (p := ⟨w4.heap.size, 0, none⟩) sz12_x0).trans bx12_x0_0
      have bx13_x0_1 : w13.cell? ⟨w4.heap.size, 1, none⟩ = some (.slice a1_vR_4 vR.fRows.length c1_vR_4) := (hst13.cell (p := ⟨w4.heap.size, 1, none⟩) sz12_x0).trans bx12_x0_1
      have sz13_g0 : w5.heap.size < w13.heap.size := Nat.lt_of_lt_of_le sz12_g0 hst13.size
      have bx13_g0_0 : w13.cell? ⟨w5.heap.size, 0, none⟩ = some (.int .i64 (closeRel vR).fN) := (hst13.cell (p := ⟨w5.heap.size, 0, none⟩) sz12_g0).trans bx12_g0_0
      have bx13_g0_1 : w13.cell? ⟨w5.heap.size, 1, none⟩ = some (.slice a1_R_5 (closeRel vR).fRows.length c1_R_5) := (hst13.cell (p := ⟨w5.heap.size, 1, none⟩) sz12_g0).trans bx12_g0_1
      have HO13_1_vR_2 := Lib.hid (HO12_1_vR_2.out.kept (Kept.of_below_all hst13))
      have HO13_1_R_3 := Lib.hid (HO12_1_R_3.out.kept (Kept.of_below_all hst13))
      have HO13_1_vR_4 := Lib.hid (HO12_1_vR_4.out.kept (Kept.of_below_all hst13))
      have HO13_1_R_5 := Lib.hid (HO12_1_R_5.out.kept (Kept.of_below_all hst13))
      have HO13_1_vR_7 := Lib.hid (HO12_1_vR_7.out.kept (Kept.of_below_all hst13))
      have HO13_1_vR_13 := Lib.hid (show Own w13 (fun y => w12.heap.size ≤ y ∧ y < w13.heap.size) (.sl 1 vR.fRows.length (fun k => ictI (vR.fRows.getD k default))) (.slice a1_vR_13 vR.fRows.length c1_vR_13) from Own.sub (F := fun y => _ ≤ y ∧ y < _) (OwnR.at ho13 1 (by decide)) (fun y hy => ⟨Nat.le_trans (by first | exact Nat.le_refl _ | (simp; done) | (simp; omega) | (simp [World.setCell]; done) | (simp [World.setCell]; omega)) hy.1, hy.2⟩))
      have HB13 := Lib.hid (HB12.out.trans (hst13.mono HB12.out.size))
      clear bx12_paR_0 bx12_paR_1 sz12_paR bx12_w0_0 bx12_w0_1 sz12_w0 bx12_x0_0 bx12_x0_1 sz12_x0 bx12_g0_0 bx12_g0_1 sz12_g0 HO12_1_vR_2 HO12_1_R_3 HO12_1_vR_4 HO12_1_R_5 HO12_1_vR_7 ho13 hb13 hst13 HB12
      go_wp2_with fail
      refine (impl_CloseRelation (c0_0 := c1_vR_13) vR OK_vR.out hq_vR _ (Below.size (by repeat (first | (with_reducible exact Below.refl _ _) | (with_reducible apply Below.drew) | (with_reducible refine below_drewN ?_ _) | (refine Below.setCell ?_ (by simp <;> omega) _) | (refine Below.alloc ?_ (by simp <;> omega) _)) : Below w13.heap.size w13 _)) ((Sl.of (HO13_1_vR_13.out.lies (lo := 0) (hi := w13.heap.size) (fun y hy => ⟨Nat.zero_le _, by have := hy.2; omega⟩))).later (by repeat (first | (with_reducible exact Below.refl _ _) | (with_reducible apply Below.drew) | (with_reducible refine below_drewN ?_ _) | (refine Below.setCell ?_ (by simp <;> omega) _) | (refine Below.alloc ?_ (by simp <;> omega) _)) : Below w13.heap.size w13 _) (Nat.le_refl _))).mono ?_
      rintro e w14 ⟨a1_R_14, c1_R_14, rfl, ho14, hb14⟩
      have hst14 : Below w13.heap.size w13 w14 := Below.trans (by repeat (first | (with_reducible exact Below.refl _ _) | (with_reducible apply Below.drew) | (with_reducible refine below_drewN ?_ _) | (refine Below.setCell ?_ (by simp <;> omega) _) | (refine Below.alloc ?_ (by simp <;> omega) _)) : Below w13.heap.size w13 _) (hb14.mono (Below.size (by repeat (first | (with_reducible exact Below.refl _ _) | (with_reducible apply Below.drew) | (with_reducible refine below_drewN ?_ _) | (refine Below.setCell ?_ (by simp <;> omega) _) | (refine Below.alloc ?_ (by simp <;> omega) _)) : Below w13.heap.size w13 _)))
      have hr14 : w13.heap.size ≤ w14.heap.size := Nat.le_trans (by first | exact Nat.le_refl _ | (simp; done) | (simp; omega) | (simp [World.setCell]; done) | (simp [World.setCell]; omega)) hb14.size
      have sz14_paR : w.heap.size < w14.heap.size := Nat.lt_of_lt_of_le sz13_paR hst14.size
      have bx14_paR_0 : w14.cell? ⟨w.heap.size, 0, none⟩ = some (.int .i64 vR.fN) := (hst14.cell (p := ⟨w.heap.size, 0, none⟩) sz13_paR).trans bx13_paR_0
      have bx14_paR_1 : w14.cell? ⟨w.heap.size, 1, none⟩ = some (.slice a1_vR vR.fRows.length c1_vR) := (hst14.cell (p := ⟨w.heap.size, 1, none⟩) sz13_paR).trans bx13_paR_1
      have sz14_w0 : w3.heap.size < w14.heap.size := Nat.lt_of_lt_of_le sz13_w0 hst14.size
      have bx14_w0_0 : w14.cell? ⟨w3.heap.size, 0, none⟩ = some (.int .i64 (closeRel vR).fN) := (hst14.cell (p := ⟨w3.heap.size, 0, none⟩) sz13_w0).trans bx13_w0_0
      have bx14_w0_1 : w14.cell? ⟨w3.heap.size, 1, none⟩ = some (.slice a1_R_3 (closeRel vR).fRows.length c1_R_3) := (hst14.cell (p := ⟨w3.heap.size, 1, none⟩) sz13_w0).trans bx13_w0_1
      have sz14_x0 : w4.heap.size < w14.heap.size := Nat.lt_of_lt_of_le sz13_x0 hst14.size
      have bx14_x0_0 : w14.cell? ⟨w4.heap.size, 0, none⟩ = some (.int .i64 vR.fN) := (hst14.cell (p := ⟨w4.heap.size, 0, none⟩) sz13_x0).trans bx13_x0_0
      have bx14_x0_1 : w14.cell? ⟨w4.heap.size, 1, none⟩ = some (.slice a1_vR_4 vR.fRows.length c1_vR_4) := (hst14.cell (p := ⟨w4.heap.size, 1, none⟩) sz13_x0).trans bx13_x0_1
      have sz14_g0 : w5.heap.size < w14.heap.size := Nat.lt_of_lt_of_le sz13_g0 hst14.size
      have bx14_g0_0 : w14.cell? ⟨w5.heap.size, 0, none⟩ = some (.int .i64 (closeRel vR).fN) := (hst14.cell (p := ⟨w5.heap.size, 0, none⟩) sz13_g0).trans bx13_g0_0
      have bx14_g0_1 : w14.cell? ⟨w5.heap.size, 1, none⟩ = some (.slice a1_R_5 (closeRel vR).fRows.length c1_R_5) := (hst14.cell (p := ⟨w5.heap.size, 1, none⟩) sz13_g0).trans bx13_g0_1
      have HO14_1_vR_2 := Lib.hid (HO13_1_vR_2.out.kept (Kept.of_below_all hst14))
      have HO14_1_R_3 := Lib.hid (HO13_1_R_3.out.kept (Kept.of_below_all hst14))
      have HO14_1_vR_4 := Lib.hid (HO13_1_vR_4.out.kept (Kept.of_below_all hst14))
      have HO14_1_R_5 := Lib.hid (HO13_1_R_5.out.kept (Kept.of_below_all hst14))
      have HO14_1_vR_7 := Lib.hid (HO13_1_vR_7.out.kept (Kept.of_below_all hst14))
      have HO14_1_vR_13 := Lib.hid (HO13_1_vR_13.out.kept (Kept.of_below_all hst14))
      have HO14_1_R_14 := Lib.hid (show Own w14 (fun y => w13.heap.size ≤ y ∧ y < w14.heap.size) (.sl 1 (closeRel vR).fRows.length (fun k => ictI ((closeRel vR).fRows.getD k default))) (.slice a1_R_14 (closeRel vR).fRows.length c1_R_14) from Own.sub (F := fun y => _ ≤ y ∧ y < _) ho14 (fun y hy => ⟨Nat.le_trans (by first | exact Nat.le_refl _ | (simp; done) | (simp; omega) | (simp [World.setCell]; done) | (simp [World.setCell]; omega)) hy.1, hy.2⟩))
      have HB14 := Lib.hid (HB13.out.trans (hst14.mono HB13.out.size))
      clear bx13_paR_0 bx13_paR_1 sz13_paR bx13_w0_0 bx13_w0_1 sz13_w0 bx13_x0_0 bx13_x0_1 sz13_x0 bx13_g0_0 bx13_g0_1 sz13_g0 HO13_1_vR_2 HO13_1_R_3 HO13_1_vR_4 HO13_1_R_5 HO13_1_vR_7 HO13_1_vR_13 ho14 hb14 hst14 HB13
      go_wp2_with fail
      refine (laws_eqRelation (c1 := c1_R_14) (c1q := c1_R_3) (closeRel vR) hq_R _ (Below.size (by repeat (first | (with_reducible exact Below.refl _ _) | (with_reducible apply Below.drew) | (with_reducible refine below_drewN ?_ _) | (refine Below.setCell ?_ (by simp <;> omega) _) | (refine Below.alloc ?_ (by simp <;> omega) _)) : Below w14.heap.size w14 _)) (Below.size (by repeat (first | (with_reducible exact Below.refl _ _) | (with_reducible apply Below.drew) | (with_reducible refine below_drewN ?_ _) | (refine Below.setCell ?_ (by simp <;> omega) _) | (refine Below.alloc ?_ (by simp <;> omega) _)) : Below w14.heap.size w14 _)) ((Sl.of (HO14_1_R_14.out.lies (lo := 0) (hi := w14.heap.size) (fun y hy => ⟨Nat.zero_le _, by have := hy.2; omega⟩))).later (by repeat (first | (with_reducible exact Below.refl _ _) | (with_reducible apply Below.drew) | (with_reducible refine below_drewN ?_ _) | (refine Below.setCell ?_ (by simp <;> omega) _) | (refine Below.alloc ?_ (by simp <;> omega) _)) : Below w14.heap.size w14 _) (Nat.le_refl _)) ((Sl.of (HO14_1_R_3.out.lies (lo := 0) (hi := w14.heap.size) (fun y hy => ⟨Nat.zero_le _, by have := hy.2; omega⟩))).later (by repeat (first | (with_reducible exact Below.refl _ _) | (with_reducible apply Below.drew) | (with_reducible refine below_drewN ?_ _) | (refine Below.setCell ?_ (by simp <;> omega) _) | (refine Below.alloc ?_ (by simp <;> omega) _)) : Below w14.heap.size w14 _) (Nat.le_refl _))).mono ?_
      rintro e w15 ⟨rfl, hb15⟩
      have hst15 : Below w14.heap.size w14 w15 := Below.trans (by repeat (first | (with_reducible exact Below.refl _ _) | (with_reducible apply Below.drew) | (with_reducible refine below_drewN ?_ _) | (refine Below.setCell ?_ (by simp <;> omega) _) | (refine Below.alloc ?_ (by simp <;> omega) _)) : Below w14.heap.size w14 _) (hb15.mono (Below.size (by repeat (first | (with_reducible exact Below.refl _ _) | (with_reducible apply Below.drew) | (with_reducible refine below_drewN ?_ _) | (refine Below.setCell ?_ (by simp <;> omega) _) | (refine Below.alloc ?_ (by simp <;> omega) _)) : Below w14.heap.size w14 _)))
      have hr15 : w14.heap.size + 1 ≤ w15.heap.size := Nat.le_trans (by first | exact Nat.le_refl _ | (simp; done) | (simp; omega) | (simp [World.setCell]; done) | (simp [World.setCell]; omega)) hb15.size
      have sz15_paR : w.heap.size < w15.heap.size := Nat.lt_of_lt_of_le sz14_paR hst15.size
      have bx15_paR_0 : w15.cell? ⟨w.heap.size, 0, none⟩ = some (.int .i64 vR.fN) := (hst15.cell (p := ⟨w.heap.size, 0, none⟩) sz14_paR).trans bx14_paR_0
      have bx15_paR_1 : w15.cell? ⟨w.heap.size, 1, none⟩ = some (.slice a1_vR vR.fRows.length c1_vR) := (hst15.cell (p := ⟨w.heap.size, 1, none⟩) sz14_paR).trans bx14_paR_1
      have sz15_w0 : w3.heap.size < w15.heap.size := Nat.lt_of_lt_of_le sz14_w0 hst15.size
      have bx15_w0_0 : w15.cell? ⟨w3.heap.size, 0, none⟩ = some (.int .i64 (closeRel vR).fN) := (hst15.cell (p := ⟨w3.heap.size, 0, none⟩) sz14_w0).trans bx14_w0_0
      have bx15_w0_1 : w15.cell? ⟨w3.heap.size, 1, none⟩ = some (.slice a1_R_3 (closeRel vR).fRows.length c1_R_3) := (hst15.cell (p := ⟨w3.heap.size, 1, none⟩) sz14_w0).trans bx14_w0_1
      have sz15_x0 : w4.heap.size < w15.heap.size := Nat.lt_of_lt_of_le sz14_x0 hst15.size
      have bx15_x0_0 : w15.cell? ⟨w4.heap.size, 0, none⟩ = some (.int .i64 vR.fN) := (hst15.cell (p := ⟨w4.heap.size, 0, none⟩) sz14_x0).trans bx14_x0_0
      have bx15_x0_1 : w15.cell? ⟨w4.heap.size, 1, none⟩ = some (.slice a1_vR_4 vR.fRows.length c1_vR_4) := (hst15.cell (p := ⟨w4.heap.size, 1, none⟩) sz14_x0).trans bx14_x0_1
      have sz15_g0 : w5.heap.size < w15.heap.size := Nat.lt_of_lt_of_le sz14_g0 hst15.size
      have bx15_g0_0 : w15.cell? ⟨w5.heap.size, 0, none⟩ = some (.int .i64 (closeRel vR).fN) := (hst15.cell (p := ⟨w5.heap.size, 0, none⟩) sz14_g0).trans bx14_g0_0
      have bx15_g0_1 : w15.cell? ⟨w5.heap.size, 1, none⟩ = some (.slice a1_R_5 (closeRel vR).fRows.length c1_R_5) := (hst15.cell (p := ⟨w5.heap.size, 1, none⟩) sz14_g0).trans bx14_g0_1
      have sz15_h0 : w14.heap.size < w15.heap.size := Nat.lt_of_lt_of_le (by first | omega | (simp; done) | (simp; omega) | (simp [World.setCell]; omega)) hb15.size
      have bx15_h0_0 : w15.cell? ⟨w14.heap.size, 0, none⟩ = some (.int .i64 (closeRel vR).fN) := (hb15.cell (p := ⟨w14.heap.size, 0, none⟩) (by first | omega | (simp; done) | (simp; omega) | (simp [World.setCell]; omega))).trans (by go_simp)
      have bx15_h0_1 : w15.cell? ⟨w14.heap.size, 1, none⟩ = some (.slice a1_R_14 (closeRel vR).fRows.length c1_R_14) := (hb15.cell (p := ⟨w14.heap.size, 1, none⟩) (by first | omega | (simp; done) | (simp; omega) | (simp [World.setCell]; omega))).trans (by go_simp)
      have HO15_1_vR_2 := Lib.hid (HO14_1_vR_2.out.kept (Kept.of_below_all hst15))
      have HO15_1_R_3 := Lib.hid (HO14_1_R_3.out.kept (Kept.of_below_all hst15))
      have HO15_1_vR_4 := Lib.hid (HO14_1_vR_4.out.kept (Kept.of_below_all hst15))
      have HO15_1_R_5 := Lib.hid (HO14_1_R_5.out.kept (Kept.of_below_all hst15))
      have HO15_1_vR_7 := Lib.hid (HO14_1_vR_7.out.kept (Kept.of_below_all hst15))
      have HO15_1_vR_13 := Lib.hid (HO14_1_vR_13.out.kept (Kept.of_below_all hst15))
      have HO15_1_R_14 := Lib.hid (HO14_1_R_14.out.kept (Kept.of_below_all hst15))
      have HB15 := Lib.hid (HB14.out.trans (hst15.mono HB14.out.size))
      clear bx14_paR_0 bx14_paR_1 sz14_paR bx14_w0_0 bx14_w0_1 sz14_w0 bx14_x0_0 bx14_x0_1 sz14_x0 bx14_g0_0 bx14_g0_1 sz14_g0 HO14_1_vR_2 HO14_1_R_3 HO14_1_vR_4 HO14_1_R_5 HO14_1_vR_7 HO14_1_vR_13 HO14_1_R_14 hb15 hst15 HB14
      go_wp2_with fail
      refine (laws_heldRelation (c1 := c1_R_5) (closeRel vR) (by have h1 := rel_len hq_vR; have h2 := closeRel_len vR; omega) 1 (by have h1 := rel_len hq_vR; have h2 := closeRel_len vR; omega) _ (fun y hy => Nat.lt_of_lt_of_le (show y < w15.heap.size by have := hy.2; omega) (Below.size (by repeat (first | (with_reducible exact Below.refl _ _) | (with_reducible apply Below.drew) | (with_reducible refine below_drewN ?_ _) | (refine Below.setCell ?_ (by simp <;> omega) _) | (refine Below.alloc ?_ (by simp <;> omega) _)) : Below w15.heap.size w15 _))) (HO15_1_R_5.out.kept (Kept.of_below (by repeat (first | (with_reducible exact Below.refl _ _) | (with_reducible apply Below.drew) | (with_reducible refine below_drewN ?_ _) | (refine Below.setCell ?_ (by simp <;> omega) _) | (refine Below.alloc ?_ (by simp <;> omega) _)) : Below w15.heap.size w15 _) (fun y hy => by have := hy.2; omega)))).mono ?_
      rintro e w16 ⟨rfl, hb16⟩
      have hst16 : Below w15.heap.size w15 w16 := Below.trans (by repeat (first | (with_reducible exact Below.refl _ _) | (with_reducible apply Below.drew) | (with_reducible refine below_drewN ?_ _) | (refine Below.setCell ?_ (by simp <;> omega) _) | (refine Below.alloc ?_ (by simp <;> omega) _)) : Below w15.heap.size w15 _) (hb16.mono (Below.size (by repeat (first | (with_reducible exact Below.refl _ _) | (with_reducible apply Below.drew) | (with_reducible refine below_drewN ?_ _) | (refine Below.setCell ?_ (by simp <;> omega) _) | (refine Below.alloc ?_ (by simp <;> omega) _)) : Below w15.heap.size w15 _)))
      have hr16 : w15.heap.size ≤ w16.heap.size := Nat.le_trans (by first | exact Nat.le_refl _ | (simp; done) | (simp; omega) | (simp [World.setCell]; done) | (simp [World.setCell]; omega)) hb16.size
      have sz16_paR : w.heap.size < w16.heap.size := Nat.lt_of_lt_of_le sz15_paR hst16.size
      have bx16_paR_0 : w16.cell? ⟨w.heap.size, 0, none⟩ = some (.int .i64 vR.fN) := (hst16.cell (p := ⟨w.heap.size, 0, none⟩) sz15_paR).trans bx15_paR_0
      have bx16_paR_1 : w16.cell? ⟨w.heap.size, 1, none⟩ = some (.slice a1_vR vR.fRows.length c1_vR) := (hst16.cell (p := ⟨w.heap.size, 1, none⟩) sz15_paR).trans bx15_paR_1
      have sz16_w0 : w3.heap.size < w16.heap.size := Nat.lt_of_lt_of_le sz15_w0 hst16.size
      have bx16_w0_0 : w16.cell? ⟨w3.heap.size, 0, none⟩ = some (.int .i64 (closeRel vR).fN) := (hst16.cell (p := ⟨w3.heap.size, 0, none⟩) sz15_w0).trans bx15_w0_0
      have bx16_w0_1 : w16.cell? ⟨w3.heap.size, 1, none⟩ = some (.slice a1_R_3 (closeRel vR).fRows.length c1_R_3) := (hst16.cell (p := ⟨w3.heap.size, 1, none⟩) sz15_w0).trans bx15_w0_1
      have sz16_x0 : w4.heap.size < w16.heap.size := Nat.lt_of_lt_of_le sz15_x0 hst16.size
      have bx16_x0_0 : w16.cell? ⟨w4.heap.size, 0, none⟩ = some (.int .i64 vR.fN) := (hst16.cell (p := ⟨w4.heap.size, 0, none⟩) sz15_x0).trans bx15_x0_0
      have bx16_x0_1 : w16.cell? ⟨w4.heap.size, 1, none⟩ = some (.slice a1_vR_4 vR.fRows.length c1_vR_4) := (hst16.cell (p := ⟨w4.heap.size, 1, none⟩) sz15_x0).trans bx15_x0_1
      have sz16_g0 : w5.heap.size < w16.heap.size := Nat.lt_of_lt_of_le sz15_g0 hst16.size
      have bx16_g0_0 : w16.cell? ⟨w5.heap.size, 0, none⟩ = some (.int .i64 (closeRel vR).fN) := (hst16.cell (p := ⟨w5.heap.size, 0, none⟩) sz15_g0).trans bx15_g0_0
      have bx16_g0_1 : w16.cell? ⟨w5.heap.size, 1, none⟩ = some (.slice a1_R_5 (closeRel vR).fRows.length c1_R_5) := (hst16.cell (p := ⟨w5.heap.size, 1, none⟩) sz15_g0).trans bx15_g0_1
      have sz16_h0 : w14.heap.size < w16.heap.size := Nat.lt_of_lt_of_le sz15_h0 hst16.size
      have bx16_h0_0 : w16.cell? ⟨w14.heap.size, 0, none⟩ = some (.int .i64 (closeRel vR).fN) := (hst16.cell (p := ⟨w14.heap.size, 0, none⟩) sz15_h0).trans bx15_h0_0
      have bx16_h0_1 : w16.cell? ⟨w14.heap.size, 1, none⟩ = some (.slice a1_R_14 (closeRel vR).fRows.length c1_R_14) := (hst16.cell (p := ⟨w14.heap.size, 1, none⟩) sz15_h0).trans bx15_h0_1
      have HO16_1_vR_2 := Lib.hid (HO15_1_vR_2.out.kept (Kept.of_below_all hst16))
      have HO16_1_R_3 := Lib.hid (HO15_1_R_3.out.kept (Kept.of_below_all hst16))
      have HO16_1_vR_4 := Lib.hid (HO15_1_vR_4.out.kept (Kept.of_below_all hst16))
      have HO16_1_R_5 := Lib.hid (HO15_1_R_5.out.kept (Kept.of_below_all hst16))
      have HO16_1_vR_7 := Lib.hid (HO15_1_vR_7.out.kept (Kept.of_below_all hst16))
      have HO16_1_vR_13 := Lib.hid (HO15_1_vR_13.out.kept (Kept.of_below_all hst16))
      have HO16_1_R_14 := Lib.hid (HO15_1_R_14.out.kept (Kept.of_below_all hst16))
      have HB16 := Lib.hid (HB15.out.trans (hst16.mono HB15.out.size))
      clear bx15_paR_0 bx15_paR_1 sz15_paR bx15_w0_0 bx15_w0_1 sz15_w0 bx15_x0_0 bx15_x0_1 sz15_x0 bx15_g0_0 bx15_g0_1 sz15_g0 bx15_h0_0 bx15_h0_1 sz15_h0 HO15_1_vR_2 HO15_1_R_3 HO15_1_vR_4 HO15_1_R_5 HO15_1_vR_7 HO15_1_vR_13 HO15_1_R_14 hb16 hst16 HB15
      go_wp2
      go_ret
      exact ⟨rfl, HB16.out⟩

set_option maxRecDepth 100000 in
theorem lifted (os : Os) (started : os.Started) (H : Type) (enc : TypeId × Value → H) :
    ReturnsInHanded {} Try.checked os 9 .any (Rows.fnExactCloseRelationSpec.pre6 enc Try.prog Try.f9 Rows.fnExactCloseRelationRow.domain false) (Rows.fnExactCloseRelationSpec.post enc Try.prog Try.f9 false true false false) := by
  refine returnsInHanded_of_change_sized (C := Try.checked) own started (by kernel_rfl) Try.func9
    (ChangeSpec.witness6 (enc := enc) (C := Try.checked) false ⟨#[], #[.agg #[.int .i64 0, .slice none 0 0]], []⟩ 8 (by kernel_rfl) (by kernel_rfl) (by kernel_rfl) (by kernel_rfl)) ?_
  intro W base args ds gs before hval0 hW _ hsz0 _
  have hval : ∀ (j : Nat) t v, Try.f9.params[j]? = some t → args[j]? = some v → Value.okWide Try.prog W .any base t v := hval0
  obtain ⟨p, q, hA0, hV, hps, hfz, hnd⟩ := id hW
  have hA : DataW.TrodAll enc Try.prog W 0 (fun _ => true) true Try.f9.params.toList args.toList ds p := hA0
  have hsz : (DataW.weightsEach Try.prog (Try.f9.params.toList ++ Rows.fnExactCloseRelationSpec.plain.varTypes Try.prog) (ds ++ gs)).all (· ≤ reachBytes) = true := hsz0
  rw [Try.params9] at hA hval hsz
  obtain ⟨v0, vs0, d0, ds0, p0, q0, hargs, rfl, rfl, h0, r0⟩ := trodAll_cons hA
  obtain ⟨rfl, rfl, rfl⟩ := trodAll_nil r0
  obtain rfl : args = #[v0] := by cases args; simp_all
  obtain ⟨vR, a1_vR, c1_vR, rfl, ok_vR, hs_1_vR⟩ := arg_relation (hval 0 37 v0 rfl rfl) h0
  refine (walk vR a1_vR c1_vR ok_vR W hs_1_vR).mono fun e W' ⟨he, hg⟩ => ?_
  subst he
  exact ⟨_, rfl, law_post laidOut (by kernel_rfl) rfl Try.underlying4 rfl rfl hW hg⟩

theorem said : Rows.FnExactCloseRelationSaid :=
  OpenClaim.holds_of_wide 9 Try.f9 rfl rfl rfl rfl rfl rfl rfl ⟨rfl, rfl, rfl, rfl, rfl⟩ rfl rfl rfl rfl rfl (by kernel_rfl) Try.func9 (by kernel_rfl)
    (of_decide_eq_true (by kernel_rfl)) (by unfold Func.isWrapper; first | (rw [if_pos (by decide +kernel)]; kernel_rfl) | (rw [if_neg (by decide +kernel)]; exact ⟨rfl, rfl⟩))
    (fun os started H enc _ => lifted os started H enc)
#print axioms said
end Go.Proofs.Ytjjbnbhcfhbfdab.fnExactCloseRelation
