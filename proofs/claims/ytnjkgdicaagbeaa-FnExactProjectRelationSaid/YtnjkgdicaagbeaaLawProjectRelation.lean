/-
  The law FnExactProjectRelation: for every relation and list of numbers the program's ProjectRelation answers as the model's, and its answer owns its memory. No condition.
-/
import Derived.Test.YtnjkgdicaagbeaaProject
import Derived.Test.YtnjkgdicaagbeaaOwnAt
import Derived.Test.YtnjkgdicaagbeaaTIntA
import Derived.SizedLaws
namespace Go.Proofs.Ytnjkgdicaagbeaa.fnExactProjectRelation
open Go.ChangeShapes Go.WideShapes Go.ChangeAt Go.RowKit Go.WideMaps Go.WideElems
open Go.ChangeMaps (open_string)
open Go.Lib Go.Deep

set_option maxHeartbeats 3200000 in
set_option maxRecDepth 100000 in
theorem walk (vR : DRelation) (a1_vR : Option Addr) (c1_vR : Nat) (ok_vR : DRelation.ok vR) (vList : List (Int)) (a_vList : Option Addr) (c_vList : Nat) (ok_vList : (okL okI) vList) (w : World) (hs_1_vR : Sl 0 w.heap.size w 1 vR.fRows.length (fun k => ictI (vR.fRows.getD k default)) a1_vR) (hs_vList : Sl 0 w.heap.size w 1 vList.length (fun k => ictI (vList.getD k default)) a_vList) :
    Calls Try.prog 5 #[.agg #[.int .i64 vR.fN, .slice a1_vR vR.fRows.length c1_vR], .slice a_vList vList.length c_vList] w fun e w' => e = .returned (.bool true) ∧ Below w.heap.size w w' := by
  have HS_1_vR := Lib.hid hs_1_vR
  clear hs_1_vR
  have OK_vR := Lib.hid ok_vR
  clear ok_vR
  have HS_vList := Lib.hid hs_vList
  clear hs_vList
  have OK_vList := Lib.hid ok_vList
  clear ok_vList
  by_cases hl0 : (1048576 : Int) < ((vList.length : Nat) : Int)
  · skip
    go_enter Try.func5, Try.ntmps5
    go_wp2
    go_ret
    exact ⟨rfl, (by repeat (first | (with_reducible exact Below.refl _ _) | (refine Below.alloc ?_ (by simp <;> omega) _)))⟩
  · have hq_vList : (lsz (fun _ => 0)) vList ≤ 1048576 := by have := lsz_zero vList; omega
    clear hl0
    have hqn_vList : vList.length ≤ 1048576 := by have := lsz_zero vList; omega
    by_cases h0 : 1048576 < ((DRelation.sz vR : Nat) : Int)
    · skip
      have hz := fun (hi : Nat) (w' : World) (hhi : hi ≤ w'.heap.size) (hs_1_vR : Sl 0 hi w' 1 vR.fRows.length (fun k => ictI (vR.fRows.getD k default)) a1_vR) => laws_szRelation (c1 := c1_vR) vR 1048576 (by omega) (by omega) OK_vR.out w' hhi hs_1_vR
      rw [szR_gt (by omega)] at hz
      have HZ_vR := Lib.hid hz
      clear hz
      go_enter Try.func5, Try.ntmps5
      go_wp2_with fail
      refine (HZ_vR.out w.heap.size _ (Below.size (by repeat (first | (with_reducible exact Below.refl _ _) | (with_reducible apply Below.drew) | (with_reducible refine below_drewN ?_ _) | (refine Below.setCell ?_ (by simp <;> omega) _) | (refine Below.alloc ?_ (by simp <;> omega) _)) : Below w.heap.size w _)) ((HS_1_vR.out.later ((Below.refl w.heap.size w).trans ((by repeat (first | (with_reducible exact Below.refl _ _) | (with_reducible apply Below.drew) | (with_reducible refine below_drewN ?_ _) | (refine Below.setCell ?_ (by simp <;> omega) _) | (refine Below.alloc ?_ (by simp <;> omega) _)) : Below w.heap.size w _).mono (Below.refl w.heap.size w).size)) (Nat.le_refl _)).mono (Nat.le_refl _) (Below.refl w.heap.size w).size)).mono ?_
      rintro e w1 ⟨rfl, hb1⟩
      have hst1 : Below w.heap.size w w1 := Below.trans (by repeat (first | (with_reducible exact Below.refl _ _) | (with_reducible apply Below.drew) | (with_reducible refine below_drewN ?_ _) | (refine Below.setCell ?_ (by simp <;> omega) _) | (refine Below.alloc ?_ (by simp <;> omega) _)) : Below w.heap.size w _) (hb1.mono (Below.size (by repeat (first | (with_reducible exact Below.refl _ _) | (with_reducible apply Below.drew) | (with_reducible refine below_drewN ?_ _) | (refine Below.setCell ?_ (by simp <;> omega) _) | (refine Below.alloc ?_ (by simp <;> omega) _)) : Below w.heap.size w _)))
      have hr1 : w.heap.size + 1 ≤ w1.heap.size := Nat.le_trans (by first | exact Nat.le_refl _ | (simp; done) | (simp; omega) | (simp [World.setCell]; done) | (simp [World.setCell]; omega)) hb1.size
      have sz1_paR : w.heap.size < w1.heap.size := Nat.lt_of_lt_of_le (by first | omega | (simp; done) | (simp; omega) | (simp [World.setCell]; omega)) hb1.size
      have bx1_paR_0 : w1.cell? ⟨w.heap.size, 0, none⟩ = some (.int .i64 vR.fN) := (hb1.cell (p := ⟨w.heap.size, 0, none⟩) (by first | omega | (simp; done) | (simp; omega) | (simp [World.setCell]; omega))).trans (by go_simp)
      have bx1_paR_1 : w1.cell? ⟨w.heap.size, 1, none⟩ = some (.slice a1_vR vR.fRows.length c1_vR) := (hb1.cell (p := ⟨w.heap.size, 1, none⟩) (by first | omega | (simp; done) | (simp; omega) | (simp [World.setCell]; omega))).trans (by go_simp)
      have HB1 := Lib.hid ((Below.refl w.heap.size w).trans (hst1.mono (Below.refl w.heap.size w).size))
      clear hb1 hst1
      go_wp2
      go_ret
      exact ⟨rfl, HB1.out⟩
    · skip
      have hz := fun (hi : Nat) (w' : World) (hhi : hi ≤ w'.heap.size) (hs_1_vR : Sl 0 hi w' 1 vR.fRows.length (fun k => ictI (vR.fRows.getD k default)) a1_vR) => laws_szRelation (c1 := c1_vR) vR 1048576 (by omega) (by omega) OK_vR.out w' hhi hs_1_vR
      rw [szR_le (by omega)] at hz
      have HZ_vR := Lib.hid hz
      clear hz
      have hq_vR : DRelation.sz vR ≤ 1048576 := by omega
      have hq_R : DRelation.sz (projRel vR vList) ≤ 1048576 := projRel_sz vR vList
      go_enter Try.func5, Try.ntmps5
      go_wp2_with fail
      refine (HZ_vR.out w.heap.size _ (Below.size (by repeat (first | (with_reducible exact Below.refl _ _) | (with_reducible apply Below.drew) | (with_reducible refine below_drewN ?_ _) | (refine Below.setCell ?_ (by simp <;> omega) _) | (refine Below.alloc ?_ (by simp <;> omega) _)) : Below w.heap.size w _)) ((HS_1_vR.out.later ((Below.refl w.heap.size w).trans ((by repeat (first | (with_reducible exact Below.refl _ _) | (with_reducible apply Below.drew) | (with_reducible refine below_drewN ?_ _) | (refine Below.setCell ?_ (by simp <;> omega) _) | (refine Below.alloc ?_ (by simp <;> omega) _)) : Below w.heap.size w _).mono (Below.refl w.heap.size w).size)) (Nat.le_refl _)).mono (Nat.le_refl _) (Below.refl w.heap.size w).size)).mono ?_
      rintro e w1 ⟨rfl, hb1⟩
      have hst1 : Below w.heap.size w w1 := Below.trans (by repeat (first | (with_reducible exact Below.refl _ _) | (with_reducible apply Below.drew) | (with_reducible refine below_drewN ?_ _) | (refine Below.setCell ?_ (by simp <;> omega) _) | (refine Below.alloc ?_ (by simp <;> omega) _)) : Below w.heap.size w _) (hb1.mono (Below.size (by repeat (first | (with_reducible exact Below.refl _ _) | (with_reducible apply Below.drew) | (with_reducible refine below_drewN ?_ _) | (refine Below.setCell ?_ (by simp <;> omega) _) | (refine Below.alloc ?_ (by simp <;> omega) _)) : Below w.heap.size w _)))
      have hr1 : w.heap.size + 1 ≤ w1.heap.size := Nat.le_trans (by first | exact Nat.le_refl _ | (simp; done) | (simp; omega) | (simp [World.setCell]; done) | (simp [World.setCell]; omega)) hb1.size
      have sz1_paR : w.heap.size < w1.heap.size := Nat.lt_of_lt_of_le (by first | omega | (simp; done) | (simp; omega) | (simp [World.setCell]; omega)) hb1.size
      have bx1_paR_0 : w1.cell? ⟨w.heap.size, 0, none⟩ = some (.int .i64 vR.fN) := (hb1.cell (p := ⟨w.heap.size, 0, none⟩) (by first | omega | (simp; done) | (simp; omega) | (simp [World.setCell]; omega))).trans (by go_simp)
      have bx1_paR_1 : w1.cell? ⟨w.heap.size, 1, none⟩ = some (.slice a1_vR vR.fRows.length c1_vR) := (hb1.cell (p := ⟨w.heap.size, 1, none⟩) (by first | omega | (simp; done) | (simp; omega) | (simp [World.setCell]; omega))).trans (by go_simp)
      have HB1 := Lib.hid ((Below.refl w.heap.size w).trans (hst1.mono (Below.refl w.heap.size w).size))
      clear hb1 hst1
      go_wp2_with fail
      refine (laws_toRelation (c1 := c1_vR) vR hq_vR _ (Below.size (by repeat (first | (with_reducible exact Below.refl _ _) | (with_reducible apply Below.drew) | (with_reducible refine below_drewN ?_ _) | (refine Below.setCell ?_ (by simp <;> omega) _) | (refine Below.alloc ?_ (by simp <;> omega) _)) : Below w1.heap.size w1 _)) ((HS_1_vR.out.later (HB1.out.trans ((by repeat (first | (with_reducible exact Below.refl _ _) | (with_reducible apply Below.drew) | (with_reducible refine below_drewN ?_ _) | (refine Below.setCell ?_ (by simp <;> omega) _) | (refine Below.alloc ?_ (by simp <;> omega) _)) : Below w1.heap.size w1 _).mono HB1.out.size)) (Nat.le_refl _)).mono (Nat.le_refl _) HB1.out.size)).mono ?_
      rintro e w2 ⟨a1_vR_2, c1_vR_2, rfl, ho2, hb2⟩
      have hst2 : Below w1.heap.size w1 w2 := Below.trans (by repeat (first | (with_reducible exact Below.refl _ _) | (with_reducible apply Below.drew) | (with_reducible refine below_drewN ?_ _) | (refine Below.setCell ?_ (by simp <;> omega) _) | (refine Below.alloc ?_ (by simp <;> omega) _)) : Below w1.heap.size w1 _) (hb2.mono (Below.size (by repeat (first | (with_reducible exact Below.refl _ _) | (with_reducible apply Below.drew) | (with_reducible refine below_drewN ?_ _) | (refine Below.setCell ?_ (by simp <;> omega) _) | (refine Below.alloc ?_ (by simp <;> omega) _)) : Below w1.heap.size w1 _)))
      have hr2 : w1.heap.size ≤ w2.heap.size := Nat.le_trans (by first | exact Nat.le_refl _ | (simp; done) | (simp; omega) | (simp [World.setCell]; done) | (simp [World.setCell]; omega)) hb2.size
      have sz2_paR : w.heap.size < w2.heap.size := Nat.lt_of_lt_of_le sz1_paR hst2.size
      have bx2_paR_0 : w2.cell? ⟨w.heap.size, 0, none⟩ = some (.int .i64 vR.fN) := (hst2.cell (p := ⟨w.heap.size, 0, none⟩) sz1_paR).trans bx1_paR_0
      have bx2_paR_1 : w2.cell? ⟨w.heap.size, 1, none⟩ = some (.slice a1_vR vR.fRows.length c1_vR) := (hst2.cell (p := ⟨w.heap.size, 1, none⟩) sz1_paR).trans bx1_paR_1
      have HO2_1_vR_2 := Lib.hid (show Own w2 (fun y => w1.heap.size ≤ y ∧ y < w2.heap.size) (.sl 1 vR.fRows.length (fun k => ictI (vR.fRows.getD k default))) (.slice a1_vR_2 vR.fRows.length c1_vR_2) from Own.sub (F := fun y => _ ≤ y ∧ y < _) (OwnR.at ho2 1 (by decide)) (fun y hy => ⟨Nat.le_trans (by first | exact Nat.le_refl _ | (simp; done) | (simp; omega) | (simp [World.setCell]; done) | (simp [World.setCell]; omega)) hy.1, hy.2⟩))
      have HB2 := Lib.hid (HB1.out.trans (hst2.mono HB1.out.size))
      clear bx1_paR_0 bx1_paR_1 sz1_paR ho2 hb2 hst2 HB1
      go_wp2_with fail
      refine (laws_toIntS (cap := c_vList) vList hq_vList _ (Below.size (by repeat (first | (with_reducible exact Below.refl _ _) | (with_reducible apply Below.drew) | (with_reducible refine below_drewN ?_ _) | (refine Below.setCell ?_ (by simp <;> omega) _) | (refine Below.alloc ?_ (by simp <;> omega) _)) : Below w2.heap.size w2 _)) ((HS_vList.out.later (HB2.out.trans ((by repeat (first | (with_reducible exact Below.refl _ _) | (with_reducible apply Below.drew) | (with_reducible refine below_drewN ?_ _) | (refine Below.setCell ?_ (by simp <;> omega) _) | (refine Below.alloc ?_ (by simp <;> omega) _)) : Below w2.heap.size w2 _).mono HB2.out.size)) (Nat.le_refl _)).mono (Nat.le_refl _) HB2.out.size)).mono ?_
      rintro e w3 ⟨a_vList_3, c_vList_3, rfl, ho3, hb3⟩
      have hst3 : Below w2.heap.size w2 w3 := Below.trans (by repeat (first | (with_reducible exact Below.refl _ _) | (with_reducible apply Below.drew) | (with_reducible refine below_drewN ?_ _) | (refine Below.setCell ?_ (by simp <;> omega) _) | (refine Below.alloc ?_ (by simp <;> omega) _)) : Below w2.heap.size w2 _) (hb3.mono (Below.size (by repeat (first | (with_reducible exact Below.refl _ _) | (with_reducible apply Below.drew) | (with_reducible refine below_drewN ?_ _) | (refine Below.setCell ?_ (by simp <;> omega) _) | (refine Below.alloc ?_ (by simp <;> omega) _)) : Below w2.heap.size w2 _)))
      have hr3 : w2.heap.size ≤ w3.heap.size := Nat.le_trans (by first | exact Nat.le_refl _ | (simp; done) | (simp; omega) | (simp [World.setCell]; done) | (simp [World.setCell]; omega)) hb3.size
      have sz3_paR : w.heap.size < w3.heap.size := Nat.lt_of_lt_of_le sz2_paR hst3.size
      have bx3_paR_0 : w3.cell? ⟨w.heap.size, 0, none⟩ = some (.int .i64 vR.fN) := (hst3.cell (p := ⟨w.heap.size, 0, none⟩) sz2_paR).trans bx2_paR_0
      have bx3_paR_1 : w3.cell? ⟨w.heap.size, 1, none⟩ = some (.slice a1_vR vR.fRows.length c1_vR) := (hst3.cell (p := ⟨w.heap.size, 1, none⟩) sz2_paR).trans bx2_paR_1
      have HO3_1_vR_2 := Lib.hid (HO2_1_vR_2.out.kept (Kept.of_below_all hst3))
      have HO3_vList_3 := Lib.hid (show Own w3 (fun y => w2.heap.size ≤ y ∧ y < w3.heap.size) (.sl 1 vList.length (fun k => ictI (vList.getD k default))) (.slice a_vList_3 vList.length c_vList_3) from Own.sub (F := fun y => _ ≤ y ∧ y < _) ho3 (fun y hy => ⟨Nat.le_trans (by first | exact Nat.le_refl _ | (simp; done) | (simp; omega) | (simp [World.setCell]; done) | (simp [World.setCell]; omega)) hy.1, hy.2⟩))
      have HB3 := Lib.hid (HB2.out.trans (hst3.mono HB2.out.size))
      clear bx2_paR_0 bx2_paR_1 sz2_paR HO2_1_vR_2 ho3 hb3 hst3 HB2
      go_wp2_with fail
      refine (spec_ProjectRelation (c0_0 := c1_vR_2) (c1_0 := c_vList_3) vR OK_vR.out hq_vR vList OK_vList.out hq_vList _ (Below.size (by repeat (first | (with_reducible exact Below.refl _ _) | (with_reducible apply Below.drew) | (with_reducible refine below_drewN ?_ _) | (refine Below.setCell ?_ (by simp <;> omega) _) | (refine Below.alloc ?_ (by simp <;> omega) _)) : Below w3.heap.size w3 _)) ((Sl.of (HO3_1_vR_2.out.lies (lo := 0) (hi := w3.heap.size) (fun y hy => ⟨Nat.zero_le _, by have := hy.2; omega⟩))).later (by repeat (first | (with_reducible exact Below.refl _ _) | (with_reducible apply Below.drew) | (with_reducible refine below_drewN ?_ _) | (refine Below.setCell ?_ (by simp <;> omega) _) | (refine Below.alloc ?_ (by simp <;> omega) _)) : Below w3.heap.size w3 _) (Nat.le_refl _)) ((Sl.of (HO3_vList_3.out.lies (lo := 0) (hi := w3.heap.size) (fun y hy => ⟨Nat.zero_le _, by have := hy.2; omega⟩))).later (by repeat (first | (with_reducible exact Below.refl _ _) | (with_reducible apply Below.drew) | (with_reducible refine below_drewN ?_ _) | (refine Below.setCell ?_ (by simp <;> omega) _) | (refine Below.alloc ?_ (by simp <;> omega) _)) : Below w3.heap.size w3 _) (Nat.le_refl _))).mono ?_
      rintro e w4 ⟨a1_R_4, c1_R_4, rfl, ho4, hb4⟩
      have hst4 : Below w3.heap.size w3 w4 := Below.trans (by repeat (first | (with_reducible exact Below.refl _ _) | (with_reducible apply Below.drew) | (with_reducible refine below_drewN ?_ _) | (refine Below.setCell ?_ (by simp <;> omega) _) | (refine Below.alloc ?_ (by simp <;> omega) _)) : Below w3.heap.size w3 _) (hb4.mono (Below.size (by repeat (first | (with_reducible exact Below.refl _ _) | (with_reducible apply Below.drew) | (with_reducible refine below_drewN ?_ _) | (refine Below.setCell ?_ (by simp <;> omega) _) | (refine Below.alloc ?_ (by simp <;> omega) _)) : Below w3.heap.size w3 _)))
      have hr4 : w3.heap.size ≤ w4.heap.size := Nat.le_trans (by first | exact Nat.le_refl _ | (simp; done) | (simp; omega) | (simp [World.setCell]; done) | (simp [World.setCell]; omega)) hb4.size
      have sz4_paR : w.heap.size < w4.heap.size := Nat.lt_of_lt_of_le sz3_paR hst4.size
      have bx4_paR_0 : w4.cell? ⟨w.heap.size, 0, none⟩ = some (.int .i64 vR.fN) := (hst4.cell (p := ⟨w.heap.size, 0, none⟩) sz3_paR).trans bx3_paR_0
      have bx4_paR_1 : w4.cell? ⟨w.heap.size, 1, none⟩ = some (.slice a1_vR vR.fRows.length c1_vR) := (hst4.cell (p := ⟨w.heap.size, 1, none⟩) sz3_paR).trans bx3_paR_1
      have HO4_1_vR_2 := Lib.hid (HO3_1_vR_2.out.kept (Kept.of_below_all hst4))
      have HO4_vList_3 := Lib.hid (HO3_vList_3.out.kept (Kept.of_below_all hst4))
      have HO4_1_R_4 := Lib.hid (show Own w4 (fun y => w3.heap.size ≤ y ∧ y < w4.heap.size) (.sl 1 (projRel vR vList).fRows.length (fun k => ictI ((projRel vR vList).fRows.getD k default))) (.slice a1_R_4 (projRel vR vList).fRows.length c1_R_4) from Own.sub (F := fun y => _ ≤ y ∧ y < _) ho4 (fun y hy => ⟨Nat.le_trans (by first | exact Nat.le_refl _ | (simp; done) | (simp; omega) | (simp [World.setCell]; done) | (simp [World.setCell]; omega)) hy.1, hy.2⟩))
      have HB4 := Lib.hid (HB3.out.trans (hst4.mono HB3.out.size))
      clear bx3_paR_0 bx3_paR_1 sz3_paR HO3_1_vR_2 HO3_vList_3 ho4 hb4 hst4 HB3
      go_wp2_with fail
      refine (laws_toRelation (c1 := c1_vR) vR hq_vR _ (Below.size (by repeat (first | (with_reducible exact Below.refl _ _) | (with_reducible apply Below.drew) | (with_reducible refine below_drewN ?_ _) | (refine Below.setCell ?_ (by simp <;> omega) _) | (refine Below.alloc ?_ (by simp <;> omega) _)) : Below w4.heap.size w4 _)) ((HS_1_vR.out.later (HB4.out.trans ((by repeat (first | (with_reducible exact Below.refl _ _) | (with_reducible apply Below.drew) | (with_reducible refine below_drewN ?_ _) | (refine Below.setCell ?_ (by simp <;> omega) _) | (refine Below.alloc ?_ (by simp <;> omega) _)) : Below w4.heap.size w4 _).mono HB4.out.size)) (Nat.le_refl _)).mono (Nat.le_refl _) HB4.out.size)).mono ?_
      rintro e w5 ⟨a1_vR_5, c1_vR_5, rfl, ho5, hb5⟩
      have hst5 : Below w4.heap.size w4 w5 := Below.trans (by repeat (first | (with_reducible exact Below.refl _ _) | (with_reducible apply Below.drew) | (with_reducible refine below_drewN ?_ _) | (refine Below.setCell ?_ (by simp <;> omega) _) | (refine Below.alloc ?_ (by simp <;> omega) _)) : Below w4.heap.size w4 _) (hb5.mono (Below.size (by repeat (first | (with_reducible exact Below.refl _ _) | (with_reducible apply Below.drew) | (with_reducible refine below_drewN ?_ _) | (refine Below.setCell ?_ (by simp <;> omega) _) | (refine Below.alloc ?_ (by simp <;> omega) _)) : Below w4.heap.size w4 _)))
      have hr5 : w4.heap.size + 1 ≤ w5.heap.size := Nat.le_trans (by first | exact Nat.le_refl _ | (simp; done) | (simp; omega) | (simp [World.setCell]; done) | (simp [World.setCell]; omega)) hb5.size
      have sz5_paR : w.heap.size < w5.heap.size := Nat.lt_of_lt_of_le sz4_paR hst5.size
      have bx5_paR_0 : w5.cell? ⟨w.heap.size, 0, none⟩ = some (.int .i64 vR.fN) := (hst5.cell (p := ⟨w.heap.size, 0, none⟩) sz4_paR).trans bx4_paR_0
      have bx5_paR_1 : w5.cell? ⟨w.heap.size, 1, none⟩ = some (.slice a1_vR vR.fRows.length c1_vR) := (hst5.cell (p := ⟨w.heap.size, 1, none⟩) sz4_paR).trans bx4_paR_1
      have sz5_w0 : w4.heap.size < w5.heap.size := Nat.lt_of_lt_of_le (by first | omega | (simp; done) | (simp; omega) | (simp [World.setCell]; omega)) hb5.size
      have bx5_w0_0 : w5.cell? ⟨w4.heap.size, 0, none⟩ = some (.int .i64 (projRel vR vList).fN) := (hb5.cell (p := ⟨w4.heap.size, 0, none⟩) (by first | omega | (simp; done) | (simp; omega) | (simp [World.setCell]; omega))).trans (by go_simp)
      have bx5_w0_1 : w5.cell? ⟨w4.heap.size, 1, none⟩ = some (.slice a1_R_4 (projRel vR vList).fRows.length c1_R_4) := (hb5.cell (p := ⟨w4.heap.size, 1, none⟩) (by first | omega | (simp; done) | (simp; omega) | (simp [World.setCell]; omega))).trans (by go_simp)
      have HO5_1_vR_2 := Lib.hid (HO4_1_vR_2.out.kept (Kept.of_below_all hst5))
      have HO5_vList_3 := Lib.hid (HO4_vList_3.out.kept (Kept.of_below_all hst5))
      have HO5_1_R_4 := Lib.hid (HO4_1_R_4.out.kept (Kept.of_below_all hst5))
      have HO5_1_vR_5 := Lib.hid (show Own w5 (fun y => w4.heap.size + 1 ≤ y ∧ y < w5.heap.size) (.sl 1 vR.fRows.length (fun k => ictI (vR.fRows.getD k default))) (.slice a1_vR_5 vR.fRows.length c1_vR_5) from Own.sub (F := fun y => _ ≤ y ∧ y < _) (OwnR.at ho5 1 (by decide)) (fun y hy => ⟨Nat.le_trans (by first | exact Nat.le_refl _ | (simp; done) | (simp; omega) | (simp [World.setCell]; done) | (simp [World.setCell]; omega)) hy.1, hy.2⟩))
      have HB5 := Lib.hid (HB4.out.trans (hst5.mono HB4.out.size))
      clear bx4_paR_0 bx4_paR_1 sz4_paR HO4_1_vR_2 HO4_vList_3 HO4_1_R_4 ho5 hb5 hst5 HB4
      go_wp2_with fail
      refine (laws_toIntS (cap := c_vList) vList hq_vList _ (Below.size (by repeat (first | (with_reducible exact Below.refl _ _) | (with_reducible apply Below.drew) | (with_reducible refine below_drewN ?_ _) | (refine Below.setCell ?_ (by simp <;> omega) _) | (refine Below.alloc ?_ (by simp <;> omega) _)) : Below w5.heap.size w5 _)) ((HS_vList.out.later (HB5.out.trans ((by repeat (first | (with_reducible exact Below.refl _ _) | (with_reducible apply Below.drew) | (with_reducible refine below_drewN ?_ _) | (refine Below.setCell ?_ (by simp <;> omega) _) | (refine Below.alloc ?_ (by simp <;> omega) _)) : Below w5.heap.size w5 _).mono HB5.out.size)) (Nat.le_refl _)).mono (Nat.le_refl _) HB5.out.size)).mono ?_
      rintro e w6 ⟨a_vList_6, c_vList_6, rfl, ho6, hb6⟩
      have hst6 : Below w5.heap.size w5 w6 := Below.trans (by repeat (first | (with_reducible exact Below.refl _ _) | (with_reducible apply Below.drew) | (with_reducible refine below_drewN ?_ _) | (refine Below.setCell ?_ (by simp <;> omega) _) | (refine Below.alloc ?_ (by simp <;> omega) _)) : Below w5.heap.size w5 _) (hb6.mono (Below.size (by repeat (first | (with_reducible exact Below.refl _ _) | (with_reducible apply Below.drew) | (with_reducible refine below_drewN ?_ _) | (refine Below.setCell ?_ (by simp <;> omega) _) | (refine Below.alloc ?_ (by simp <;> omega) _)) : Below w5.heap.size w5 _)))
      have hr6 : w5.heap.size + 1 ≤ w6.heap.size := Nat.le_trans (by first | exact Nat.le_refl _ | (simp; done) | (simp; omega) | (simp [World.setCell]; done) | (simp [World.setCell]; omega)) hb6.size
      have sz6_paR : w.heap.size < w6.heap.size := Nat.lt_of_lt_of_le sz5_paR hst6.size
      have bx6_paR_0 : w6.cell? ⟨w.heap.size, 0, none⟩ = some (.int .i64 vR.fN) := (hst6.cell (p := ⟨w.heap.size, 0, none⟩) sz5_paR).trans bx5_paR_0
      have bx6_paR_1 : w6.cell? ⟨w.heap.size, 1, none⟩ = some (.slice a1_vR vR.fRows.length c1_vR) := (hst6.cell (p := ⟨w.heap.size, 1, none⟩) sz5_paR).trans bx5_paR_1
      have sz6_w0 : w4.heap.size < w6.heap.size := Nat.lt_of_lt_of_le sz5_w0 hst6.size
      have bx6_w0_0 : w6.cell? ⟨w4.heap.size, 0, none⟩ = some (.int .i64 (projRel vR vList).fN) := (hst6.cell (p := ⟨w4.heap.size, 0, none⟩) sz5_w0).trans bx5_w0_0
      have bx6_w0_1 : w6.cell? ⟨w4.heap.size, 1, none⟩ = some (.slice a1_R_4 (projRel vR vList).fRows.length c1_R_4) := (hst6.cell (p := ⟨w4.heap.size, 1, none⟩) sz5_w0).trans bx5_w0_1
      have sz6_x0 : w5.heap.size < w6.heap.size := Nat.lt_of_lt_of_le (by first | omega | (simp; done) | (simp; omega) | (simp [World.setCell]; omega)) hb6.size
      have bx6_x0_0 : w6.cell? ⟨w5.heap.size, 0, none⟩ = some (.int .i64 vR.fN) := (hb6.cell (p := ⟨w5.heap.size, 0, none⟩) (by first | omega | (simp; done) | (simp; omega) | (simp [World.setCell]; omega))).trans (by go_simp)
      have bx6_x0_1 : w6.cell? ⟨w5.heap.size, 1, none⟩ = some (.slice a1_vR_5 vR.fRows.length c1_vR_5) := (hb6.cell (p := ⟨w5.heap.size, 1, none⟩) (by first | omega | (simp; done) | (simp; omega) | (simp [World.setCell]; omega))).trans (by go_simp)
      have HO6_1_vR_2 := Lib.hid (HO5_1_vR_2.out.kept (Kept.of_below_all hst6))
      have HO6_vList_3 := Lib.hid (HO5_vList_3.out.kept (Kept.of_below_all hst6))
      have HO6_1_R_4 := Lib.hid (HO5_1_R_4.out.kept (Kept.of_below_all hst6))
      have HO6_1_vR_5 := Lib.hid (HO5_1_vR_5.out.kept (Kept.of_below_all hst6))
      have HO6_vList_6 := Lib.hid (show Own w6 (fun y => w5.heap.size + 1 ≤ y ∧ y < w6.heap.size) (.sl 1 vList.length (fun k => ictI (vList.getD k default))) (.slice a_vList_6 vList.length c_vList_6) from Own.sub (F := fun y => _ ≤ y ∧ y < _) ho6 (fun y hy => ⟨Nat.le_trans (by first | exact Nat.le_refl _ | (simp; done) | (simp; omega) | (simp [World.setCell]; done) | (simp [World.setCell]; omega)) hy.1, hy.2⟩))
      have HB6 := Lib.hid (HB5.out.trans (hst6.mono HB5.out.size))
      clear bx5_paR_0 bx5_paR_1 sz5_paR bx5_w0_0 bx5_w0_1 sz5_w0 HO5_1_vR_2 HO5_vList_3 HO5_1_R_4 HO5_1_vR_5 ho6 hb6 hst6 HB5
      go_wp2_with fail
      refine (impl_ProjectRelation (c0_0 := c1_vR_5) (c1_0 := c_vList_6) vR OK_vR.out hq_vR vList OK_vList.out hq_vList _ (Below.size (by repeat (first | (with_reducible exact Below.refl _ _) | (with_reducible apply Below.drew) | (with_reducible refine below_drewN ?_ _) | (refine Below.setCell ?_ (by simp <;> omega) _) | (refine Below.alloc ?_ (by simp <;> omega) _)) : Below w6.heap.size w6 _)) ((Sl.of (HO6_1_vR_5.out.lies (lo := 0) (hi := w6.heap.size) (fun y hy => ⟨Nat.zero_le _, by have := hy.2; omega⟩))).later (by repeat (first | (with_reducible exact Below.refl _ _) | (with_reducible apply Below.drew) | (with_reducible refine below_drewN ?_ _) | (refine Below.setCell ?_ (by simp <;> omega) _) | (refine Below.alloc ?_ (by simp <;> omega) _)) : Below w6.heap.size w6 _) (Nat.le_refl _)) ((Sl.of (HO6_vList_6.out.lies (lo := 0) (hi := w6.heap.size) (fun y hy => ⟨Nat.zero_le _, by have := hy.2; omega⟩))).later (by repeat (first | (with_reducible exact Below.refl _ _) | (with_reducible apply Below.drew) | (with_reducible refine below_drewN ?_ _) | (refine Below.setCell ?_ (by simp <;> omega) _) | (refine Below.alloc ?_ (by simp <;> omega) _)) : Below w6.heap.size w6 _) (Nat.le_refl _))).mono ?_
      rintro e w7 ⟨a1_R_7, c1_R_7, rfl, ho7, hb7⟩
      have hst7 : Below w6.heap.size w6 w7 := Below.trans (by repeat (first | (with_reducible exact Below.refl _ _) | (with_reducible apply Below.drew) | (with_reducible refine below_drewN ?_ _) | (refine Below.setCell ?_ (by simp <;> omega) _) | (refine Below.alloc ?_ (by simp <;> omega) _)) : Below w6.heap.size w6 _) (hb7.mono (Below.size (by repeat (first | (with_reducible exact Below.refl _ _) | (with_reducible apply Below.drew) | (with_reducible refine below_drewN ?_ _) | (refine Below.setCell ?_ (by simp <;> omega) _) | (refine Below.alloc ?_ (by simp <;> omega) _)) : Below w6.heap.size w6 _)))
      have hr7 : w6.heap.size ≤ w7.heap.size := Nat.le_trans (by first | exact Nat.le_refl _ | (simp; done) | (simp; omega) | (simp [World.setCell]; done) | (simp [World.setCell]; omega)) hb7.size
      have sz7_paR : w.heap.size < w7.heap.size := Nat.lt_of_lt_of_le sz6_paR hst7.size
      have bx7_paR_0 : w7.cell? ⟨w.heap.size, 0, none⟩ = some (.int .i64 vR.fN) := (hst7.cell (p := ⟨w.heap.size, 0, none⟩) sz6_paR).trans bx6_paR_0
      have bx7_paR_1 : w7.cell? ⟨w.heap.size, 1, none⟩ = some (.slice a1_vR vR.fRows.length c1_vR) := (hst7.cell (p := ⟨w.heap.size, 1, none⟩) sz6_paR).trans bx6_paR_1
      have sz7_w0 : w4.heap.size < w7.heap.size := Nat.lt_of_lt_of_le sz6_w0 hst7.size
      have bx7_w0_0 : w7.cell? ⟨w4.heap.size, 0, none⟩ = some (.int .i64 (projRel vR vList).fN) := (hst7.cell (p := ⟨w4.heap.size, 0, none⟩) sz6_w0).trans bx6_w0_0
      have bx7_w0_1 : w7.cell? ⟨w4.heap.size, 1, none⟩ = some (.slice a1_R_4 (projRel vR vList).fRows.length c1_R_4) := (hst7.cell (p := ⟨w4.heap.size, 1, none⟩) sz6_w0).trans bx6_w0_1
      have sz7_x0 : w5.heap.size < w7.heap.size := Nat.lt_of_lt_of_le sz6_x0 hst7.size
      have bx7_x0_0 : w7.cell? ⟨w5.heap.size, 0, none⟩ = some (.int .i64 vR.fN) := (hst7.cell (p := ⟨w5.heap.size, 0, none⟩) sz6_x0).trans bx6_x0_0
      have bx7_x0_1 : w7.cell? ⟨w5.heap.size, 1, none⟩ = some (.slice a1_vR_5 vR.fRows.length c1_vR_5) := (hst7.cell (p := ⟨w5.heap.size, 1, none⟩) sz6_x0).trans bx6_x0_1
      have HO7_1_vR_2 := Lib.hid (HO6_1_vR_2.out.kept (Kept.of_below_all hst7))
      have HO7_vList_3 := Lib.hid (HO6_vList_3.out.kept (Kept.of_below_all hst7))
      have HO7_1_R_4 := Lib.hid (HO6_1_R_4.out.kept (Kept.of_below_all hst7))
      have HO7_1_vR_5 := Lib.hid (HO6_1_vR_5.out.kept (Kept.of_below_all hst7))
      have HO7_vList_6 := Lib.hid (HO6_vList_6.out.kept (Kept.of_below_all hst7))
      have HO7_1_R_7 := Lib.hid (show Own w7 (fun y => w6.heap.size ≤ y ∧ y < w7.heap.size) (.sl 1 (projRel vR vList).fRows.length (fun k => ictI ((projRel vR vList).fRows.getD k default))) (.slice a1_R_7 (projRel vR vList).fRows.length c1_R_7) from Own.sub (F := fun y => _ ≤ y ∧ y < _) ho7 (fun y hy => ⟨Nat.le_trans (by first | exact Nat.le_refl _ | (simp; done) | (simp; omega) | (simp [World.setCell]; done) | (simp [World.setCell]; omega)) hy.1, hy.2⟩))
      have HB7 := Lib.hid (HB6.out.trans (hst7.mono HB6.out.size))
      clear bx6_paR_0 bx6_paR_1 sz6_paR bx6_w0_0 bx6_w0_1 sz6_w0 bx6_x0_0 bx6_x0_1 sz6_x0 HO6_1_vR_2 HO6_vList_3 HO6_1_R_4 HO6_1_vR_5 HO6_vList_6 ho7 hb7 hst7 HB6
      go_wp2_with fail
      refine (laws_eqRelation (c1 := c1_R_7) (c1q := c1_R_4) (projRel vR vList) hq_R _ (Below.size (by repeat (first | (with_reducible exact Below.refl _ _) | (with_reducible apply Below.drew) | (with_reducible refine below_drewN ?_ _) | (refine Below.setCell ?_ (by simp <;> omega) _) | (refine Below.alloc ?_ (by simp <;> omega) _)) : Below w7.heap.size w7 _)) (Below.size (by repeat (first | (with_reducible exact Below.refl _ _) | (with_reducible apply Below.drew) | (with_reducible refine below_drewN ?_ _) | (refine Below.setCell ?_ (by simp <;> omega) _) | (refine Below.alloc ?_ (by simp <;> omega) _)) : Below w7.heap.size w7 _)) ((Sl.of (HO7_1_R_7.out.lies (lo := 0) (hi := w7.heap.size) (fun y hy => ⟨Nat.zero_le _, by have := hy.2; omega⟩))).later (by repeat (first | (with_reducible exact Below.refl _ _) | (with_reducible apply Below.drew) | (with_reducible refine below_drewN ?_ _) | (refine Below.setCell ?_ (by simp <;> omega) _) | (refine Below.alloc ?_ (by simp <;> omega) _)) : Below w7.heap.size w7 _) (Nat.le_refl _)) ((Sl.of (HO7_1_R_4.out.lies (lo := 0) (hi := w7.heap.size) (fun y hy => ⟨Nat.zero_le _, by have := hy.2; omega⟩))).later (by repeat (first | (with_reducible exact Below.refl _ _) | (with_reducible apply Below.drew) | (with_reducible refine below_drewN ?_ _) | (refine Below.setCell ?_ (by simp <;> omega) _) | (refine Below.alloc ?_ (by simp <;> omega) _)) : Below w7.heap.size w7 _) (Nat.le_refl _))).mono ?_
      rintro e w8 ⟨rfl, hb8⟩
      have hst8 : Below w7.heap.size w7 w8 := Below.trans (by repeat (first | (with_reducible exact Below.refl _ _) | (with_reducible apply Below.drew) | (with_reducible refine below_drewN ?_ _) | (refine Below.setCell ?_ (by simp <;> omega) _) | (refine Below.alloc ?_ (by simp <;> omega) _)) : Below w7.heap.size w7 _) (hb8.mono (Below.size (by repeat (first | (with_reducible exact Below.refl _ _) | (with_reducible apply Below.drew) | (with_reducible refine below_drewN ?_ _) | (refine Below.setCell ?_ (by simp <;> omega) _) | (refine Below.alloc ?_ (by simp <;> omega) _)) : Below w7.heap.size w7 _)))
      have hr8 : w7.heap.size + 1 ≤ w8.heap.size := Nat.le_trans (by first | exact Nat.le_refl _ | (simp; done) | (simp; omega) | (simp [World.setCell]; done) | (simp [World.setCell]; omega)) hb8.size
      have sz8_paR : w.heap.size < w8.heap.size := Nat.lt_of_lt_of_le sz7_paR hst8.size
      have bx8_paR_0 : w8.cell? ⟨w.heap.size, 0, none⟩ = some (.int .i64 vR.fN) := (hst8.cell (p := ⟨w.heap.size, 0, none⟩) sz7_paR).trans bx7_paR_0
      have bx8_paR_1 : w8.cell? ⟨w.heap.size, 1, none⟩ = some (.slice a1_vR vR.fRows.length c1_vR) := (hst8.cell (p := ⟨w.heap.size, 1, none⟩) sz7_paR).trans bx7_paR_1
      have sz8_w0 : w4.heap.size < w8.heap.size := Nat.lt_of_lt_of_le sz7_w0 hst8.size
      have bx8_w0_0 : w8.cell? ⟨w4.heap.size, 0, none⟩ = some (.int .i64 (projRel vR vList).fN) := (hst8.cell (p := ⟨w4.heap.size, 0, none⟩) sz7_w0).trans bx7_w0_0
      have bx8_w0_1 : w8.cell? ⟨w4.heap.size, 1, none⟩ = some (.slice a1_R_4 (projRel vR vList).fRows.length c1_R_4) := (hst8.cell (p := ⟨w4.heap.size, 1, none⟩) sz7_w0).trans bx7_w0_1
      have sz8_x0 : w5.heap.size < w8.heap.size := Nat.lt_of_lt_of_le sz7_x0 hst8.size
      have bx8_x0_0 : w8.cell? ⟨w5.heap.size, 0, none⟩ = some (.int .i64 vR.fN) := (hst8.cell (p := ⟨w5.heap.size, 0, none⟩) sz7_x0).trans bx7_x0_0
      have bx8_x0_1 : w8.cell? ⟨w5.heap.size, 1, none⟩ = some (.slice a1_vR_5 vR.fRows.length c1_vR_5) := (hst8.cell (p := ⟨w5.heap.size, 1, none⟩) sz7_x0).trans bx7_x0_1
      have sz8_g0 : w7.heap.size < w8.heap.size := Nat.lt_of_lt_of_le (by first | omega | (simp; done) | (simp; omega) | (simp [World.setCell]; omega)) hb8.size
      have bx8_g0_0 : w8.cell? ⟨w7.heap.size, 0, none⟩ = some (.int .i64 (projRel vR vList).fN) := (hb8.cell (p := ⟨w7.heap.size, 0, none⟩) (by first | omega | (simp; done) | (simp; omega) | (simp [World.setCell]; omega))).trans (by go_simp)
      have bx8_g0_1 : w8.cell? ⟨w7.heap.size, 1, none⟩ = some (.slice a1_R_7 (projRel vR vList).fRows.length c1_R_7) := (hb8.cell (p := ⟨w7.heap.size, 1, none⟩) (by first | omega | (simp; done) | (simp; omega) | (simp [World.setCell]; omega))).trans (by go_simp)
      have HO8_1_vR_2 := Lib.hid (HO7_1_vR_2.out.kept (Kept.of_below_all hst8))
      have HO8_vList_3 := Lib.hid (HO7_vList_3.out.kept (Kept.of_below_all hst8))
      have HO8_1_R_4 := Lib.hid (HO7_1_R_4.out.kept (Kept.of_below_all hst8))
      have HO8_1_vR_5 := Lib.hid (HO7_1_vR_5.out.kept (Kept.of_below_all hst8))
      have HO8_vList_6 := Lib.hid (HO7_vList_6.out.kept (Kept.of_below_all hst8))
      have HO8_1_R_7 := Lib.hid (HO7_1_R_7.out.kept (Kept.of_below_all hst8))
      have HB8 := Lib.hid (HB7.out.trans (hst8.mono HB7.out.size))
      clear bx7_paR_0 bx7_paR_1 sz7_paR bx7_w0_0 bx7_w0_1 sz7_w0 bx7_x0_0 bx7_x0_1 sz7_x0 HO7_1_vR_2 HO7_vList_3 HO7_1_R_4 HO7_1_vR_5 HO7_vList_6 HO7_1_R_7 hb8 hst8 HB7
      go_wp2_with fail
      go_region_with ((first | (go_at_call 8; refine (laws_toRelation (c1 := c1_vR) vR hq_vR _ (Below.size (by repeat (first | (with_reducible exact Below.refl _ _) | (with_reducible apply Below.drew) | (with_reducible refine below_drewN ?_ _) | (refine Below.setCell ?_ (by simp <;> omega) _) | (refine Below.alloc ?_ (by simp <;> omega) _)) : Below w8.heap.size w8 _)) ((HS_1_vR.out.later (HB8.out.trans ((by repeat (first | (with_reducible exact Below.refl _ _) | (with_reducible apply Below.drew) | (with_reducible refine below_drewN ?_ _) | (refine Below.setCell ?_ (by simp <;> omega) _) | (refine Below.alloc ?_ (by simp <;> omega) _)) : Below w8.heap.size w8 _).mono HB8.out.size)) (Nat.le_refl _)).mono (Nat.le_refl _) HB8.out.size)).mono ?_; rintro e w9 ⟨a1_vR_9, c1_vR_9, rfl, ho9, hb9⟩; have hst9 : Below w8.heap.size w8 w9 := Below.trans (by repeat (first | (with_reducible exact Below.refl _ _) | (with_reducible apply Below.drew) | (with_reducible refine below_drewN ?_ _) | (refine Below.setCell ?_ (by simp <;> omega) _) | (refine Below.alloc ?_ (by simp <;> omega) _)) : Below w8.heap.size w8 _) (hb9.mono (Below.size (by repeat (first | (with_reducible exact Below.refl _ _) | (with_reducible apply Below.drew) | (with_reducible refine below_drewN ?_ _) | (refine Below.setCell ?_ (by simp <;> omega) _) | (refine Below.alloc ?_ (by simp <;> omega) _)) : Below w8.heap.size w8 _))); have hr9 : w8.heap.size ≤ w9.heap.size := Nat.le_trans (by first | exact Nat.le_refl _ | (simp; done) | (simp; omega) | (simp [World.setCell]; done) | (simp [World.setCell]; omega)) hb9.size; have sz9_paR : w.heap.size < w9.heap.size := Nat.lt_of_lt_of_le sz8_paR hst9.size; have bx9_paR_0 : w9.cell? ⟨w.heap.size, 0, none⟩ = some (.int .i64 vR.fN) := (hst9.cell (p := ⟨w.heap.size, 0, none⟩) sz8_paR).trans bx8_paR_0; have bx9_paR_1 : w9.cell? ⟨w.heap.size, 1, none⟩ = some (.slice a1_vR vR.fRows.length c1_vR) := (hst9.cell (p := ⟨w.heap.size, 1, none⟩) sz8_paR).trans bx8_paR_1; have sz9_w0 : w4.heap.size < w9.heap.size := Nat.lt_of_lt_of_le sz8_w0 hst9.size; have bx9_w0_0 : w9.cell? ⟨w4.heap.size, 0, none⟩ = some (.int .i64 (projRel vR vList).fN) := (hst9.cell (p := ⟨w4.heap.size, 0, none⟩) sz8_w0).trans bx8_w0_0; have bx9_w0_1 : w9.cell? ⟨w4.heap.size, 1, none⟩ = some (.slice a1_R_4 (projRel vR vList).fRows.length c1_R_4) := (hst9.cell (p := ⟨w4.heap.size, 1, none⟩) sz8_w0).trans bx8_w0_1; have sz9_x0 : w5.heap.size < w9.heap.size := Nat.lt_of_lt_of_le sz8_x0 hst9.size; have bx9_x0_0 : w9.cell? ⟨w5.heap.size, 0, none⟩ = some (.int .i64 vR.fN) := (hst9.cell (p := ⟨w5.heap.size, 0, none⟩) sz8_x0).trans bx8_x0_0; have bx9_x0_1 : w9.cell? ⟨w5.heap.size, 1, none⟩ = some (.slice a1_vR_5 vR.fRows.length c1_vR_5) := (hst9.cell (p := ⟨w5.heap.size, 1, none⟩) sz8_x0).trans bx8_x0_1; have sz9_g0 : w7.heap.size < w9.heap.size := Nat.lt_of_lt_of_le sz8_g0 hst9.size; have bx9_g0_0 : w9.cell? ⟨w7.heap.size, 0, none⟩ = some (.int .i64 (projRel vR vList).fN) := (hst9.cell (p := ⟨w7.heap.size, 0, none⟩) sz8_g0).trans bx8_g0_0; have bx9_g0_1 : w9.cell? ⟨w7.heap.size, 1, none⟩ = some (.slice a1_R_7 (projRel vR vList).fRows.length c1_R_7) := (hst9.cell (p := ⟨w7.heap.size, 1, none⟩) sz8_g0).trans bx8_g0_1; have HO9_1_vR_2 := Lib.hid (HO8_1_vR_2.out.kept (Kept.of_below_all hst9)); have HO9_vList_3 := Lib.hid (HO8_vList_3.out.kept (Kept.of_below_all hst9)); have HO9_1_R_4 := Lib.hid (HO8_1_R_4.out.kept (Kept.of_below_all hst9)); have HO9_1_vR_5 := Lib.hid (HO8_1_vR_5.out.kept (Kept.of_below_all hst9)); have HO9_vList_6 := Lib.hid (HO8_vList_6.out.kept (Kept.of_below_all hst9)); have HO9_1_R_7 := Lib.hid (HO8_1_R_7.out.kept (Kept.of_below_all hst9)); have HO9_1_vR_9 := Lib.hid (show Own w9 (fun y => w8.heap.size ≤ y ∧ y < w9.heap.size) (.sl 1 vR.fRows.length (fun k => ictI (vR.fRows.getD k default))) (.slice a1_vR_9 vR.fRows.length c1_vR_9) from Own.sub (F := fun y => _ ≤ y ∧ y < _) (OwnR.at ho9 1 (by decide)) (fun y hy => ⟨Nat.le_trans (by first | exact Nat.le_refl _ | (simp; done) | (simp; omega) | (simp [World.setCell]; done) | (simp [World.setCell]; omega)) hy.1, hy.2⟩)); have HB9 := Lib.hid (HB8.out.trans (hst9.mono HB8.out.size)); clear bx8_paR_0 bx8_paR_1 sz8_paR bx8_w0_0 bx8_w0_1 sz8_w0 bx8_x0_0 bx8_x0_1 sz8_x0 bx8_g0_0 bx8_g0_1 sz8_g0 HO8_1_vR_2 HO8_vList_3 HO8_1_R_4 HO8_1_vR_5 HO8_vList_6 HO8_1_R_7 ho9 hb9 hst9 HB8) | (go_at_call 10; refine (laws_eqRelation (c1 := c1_vR_5) (c1q := c1_vR_9) vR hq_vR _ (Below.size (by repeat (first | (with_reducible exact Below.refl _ _) | (with_reducible apply Below.drew) | (with_reducible refine below_drewN ?_ _) | (refine Below.setCell ?_ (by simp <;> omega) _) | (refine Below.alloc ?_ (by simp <;> omega) _)) : Below w9.heap.size w9 _)) (Below.size (by repeat (first | (with_reducible exact Below.refl _ _) | (with_reducible apply Below.drew) | (with_reducible refine below_drewN ?_ _) | (refine Below.setCell ?_ (by simp <;> omega) _) | (refine Below.alloc ?_ (by simp <;> omega) _)) : Below w9.heap.size w9 _)) ((Sl.of (HO9_1_vR_5.out.lies (lo := 0) (hi := w9.heap.size) (fun y hy => ⟨Nat.zero_le _, by have := hy.2; omega⟩))).later (by repeat (first | (with_reducible exact Below.refl _ _) | (with_reducible apply Below.drew) | (with_reducible refine below_drewN ?_ _) | (refine Below.setCell ?_ (by simp <;> omega) _) | (refine Below.alloc ?_ (by simp <;> omega) _)) : Below w9.heap.size w9 _) (Nat.le_refl _)) ((Sl.of (HO9_1_vR_9.out.lies (lo := 0) (hi := w9.heap.size) (fun y hy => ⟨Nat.zero_le _, by have := hy.2; omega⟩))).later (by repeat (first | (with_reducible exact Below.refl _ _) | (with_reducible apply Below.drew) | (with_reducible refine below_drewN ?_ _) | (refine Below.setCell ?_ (by simp <;> omega) _) | (refine Below.alloc ?_ (by simp <;> omega) _)) : Below w9.heap.size w9 _) (Nat.le_refl _))).mono ?_; rintro e w10 ⟨rfl, hb10⟩; have hst10 : Below w9.heap.size w9 w10 := Below.trans (by repeat (first | (with_reducible exact Below.refl _ _) | (with_reducible apply Below.drew) | (with_reducible refine below_drewN ?_ _) | (refine Below.setCell ?_ (by simp <;> omega) _) | (refine Below.alloc ?_ (by simp <;> omega) _)) : Below w9.heap.size w9 _) (hb10.mono (Below.size (by repeat (first | (with_reducible exact Below.refl _ _) | (with_reducible apply Below.drew) | (with_reducible refine below_drewN ?_ _) | (refine Below.setCell ?_ (by simp <;> omega) _) | (refine Below.alloc ?_ (by simp <;> omega) _)) : Below w9.heap.size w9 _))); have hr10 : w9.heap.size ≤ w10.heap.size := Nat.le_trans (by first | exact Nat.le_refl _ | (simp; done) | (simp; omega) | (simp [World.setCell]; done) | (simp [World.setCell]; omega)) hb10.size; have sz10_paR : w.heap.size < w10.heap.size := Nat.lt_of_lt_of_le sz9_paR hst10.size; have bx10_paR_0 : w10.cell? ⟨w.heap.size, 0, none⟩ = some (.int .i64 vR.fN) := (hst10.cell (p := ⟨w.heap.size, 0, none⟩) sz9_paR).trans bx9_paR_0; have bx10_paR_1 : w10.cell? ⟨w.heap.size, 1, none⟩ = some (.slice a1_vR vR.fRows.length c1_vR) := (hst10.cell (p := ⟨w.heap.size, 1, none⟩) sz9_paR).trans bx9_paR_1; have sz10_w0 : w4.heap.size < w10.heap.size := Nat.lt_of_lt_of_le sz9_w0 hst10.size; have bx10_w0_0 : w10.cell? ⟨w4.heap.size, 0, none⟩ = some (.int .i64 (projRel vR vList).fN) := (hst10.cell (p := ⟨w4.heap.size, 0, none⟩) sz9_w0).trans bx9_w0_0; have bx10_w0_1 : w10.cell? ⟨w4.heap.size, 1, none⟩ = some (.slice a1_R_4 (projRel vR vList).fRows.length c1_R_4) := (hst10.cell (p := ⟨w4.heap.size, 1, none⟩) sz9_w0).trans bx9_w0_1; have sz10_x0 : w5.heap.size < w10.heap.size := Nat.lt_of_lt_of_le sz9_x0 hst10.size; have bx10_x0_0 : w10.cell? ⟨w5.heap.size, 0, none⟩ = some (.int .i64 vR.fN) := (hst10.cell (p := ⟨w5.heap.size, 0, none⟩) sz9_x0).trans bx9_x0_0; have bx10_x0_1 : w10.cell? ⟨w5.heap.size, 1, none⟩ = some (.slice a1_vR_5 vR.fRows.length c1_vR_5) := (hst10.cell (p := ⟨w5.heap.size, 1, none⟩) sz9_x0).trans bx9_x0_1; have sz10_g0 : w7.heap.size < w10.heap.size := Nat.lt_of_lt_of_le sz9_g0 hst10.size; have bx10_g0_0 : w10.cell? ⟨w7.heap.size, 0, none⟩ = some (.int .i64 (projRel vR vList).fN) := (hst10.cell (p := ⟨w7.heap.size, 0, none⟩) sz9_g0).trans bx9_g0_0; have bx10_g0_1 : w10.cell? ⟨w7.heap.size, 1, none⟩ = some (.slice a1_R_7 (projRel vR vList).fRows.length c1_R_7) := (hst10.cell (p := ⟨w7.heap.size, 1, none⟩) sz9_g0).trans bx9_g0_1; have HO10_1_vR_2 := Lib.hid (HO9_1_vR_2.out.kept (Kept.of_below_all hst10)); have HO10_vList_3 := Lib.hid (HO9_vList_3.out.kept (Kept.of_below_all hst10)); have HO10_1_R_4 := Lib.hid (HO9_1_R_4.out.kept (Kept.of_below_all hst10)); have HO10_1_vR_5 := Lib.hid (HO9_1_vR_5.out.kept (Kept.of_below_all hst10)); have HO10_vList_6 := Lib.hid (HO9_vList_6.out.kept (Kept.of_below_all hst10)); have HO10_1_R_7 := Lib.hid (HO9_1_R_7.out.kept (Kept.of_below_all hst10)); have HO10_1_vR_9 := Lib.hid (HO9_1_vR_9.out.kept (Kept.of_below_all hst10)); have HB10 := Lib.hid (HB9.out.trans (hst10.mono HB9.out.size)); clear bx9_paR_0 bx9_paR_1 sz9_paR bx9_w0_0 bx9_w0_1 sz9_w0 bx9_x0_0 bx9_x0_1 sz9_x0 bx9_g0_0 bx9_g0_1 sz9_g0 HO9_1_vR_2 HO9_vList_3 HO9_1_R_4 HO9_1_vR_5 HO9_vList_6 HO9_1_R_7 HO9_1_vR_9 hb10 hst10 HB9)))
      all_goals
        go_wp2_with fail
        refine (laws_toIntS (cap := c_vList) vList hq_vList _ (Below.size (by repeat (first | (with_reducible exact Below.refl _ _) | (with_reducible apply Below.drew) | (with_reducible refine below_drewN ?_ _) | (refine Below.setCell ?_ (by simp <;> omega) _) | (refine Below.alloc ?_ (by simp <;> omega) _)) : Below w10.heap.size w10 _)) ((HS_vList.out.later (HB10.out.trans ((by repeat (first | (with_reducible exact Below.refl _ _) | (with_reducible apply Below.drew) | (with_reducible refine below_drewN ?_ _) | (refine Below.setCell ?_ (by simp <;> omega) _) | (refine Below.alloc ?_ (by simp <;> omega) _)) : Below w10.heap.size w10 _).mono HB10.out.size)) (Nat.le_refl _)).mono (Nat.le_refl _) HB10.out.size)).mono ?_
        rintro e w11 ⟨a_vList_11, c_vList_11, rfl, ho11, hb11⟩
        have hst11 : Below w10.heap.size w10 w11 := Below.trans (by repeat (first | (with_reducible exact Below.refl _ _) | (with_reducible apply Below.drew) | (with_reducible refine below_drewN ?_ _) | (refine Below.setCell ?_ (by simp <;> omega) _) | (refine Below.alloc ?_ (by simp <;> omega) _)) : Below w10.heap.size w10 _) (hb11.mono (Below.size (by repeat (first | (with_reducible exact Below.refl _ _) | (with_reducible apply Below.drew) | (with_reducible refine below_drewN ?_ _) | (refine Below.setCell ?_ (by simp <;> omega) _) | (refine Below.alloc ?_ (by simp <;> omega) _)) : Below w10.heap.size w10 _)))
        have hr11 : w10.heap.size ≤ w11.heap.size := Nat.le_trans (by first | exact Nat.le_refl _ | (simp; done) | (simp; omega) | (simp [World.setCell]; done) | (simp [World.setCell]; omega)) hb11.size
        have sz11_paR : w.heap.size < w11.heap.size := Nat.lt_of_lt_of_le sz10_paR hst11.size
        have bx11_paR_0 : w11.cell? ⟨w.heap.size, 0, none⟩ = some (.int .i64 vR.fN) := (hst11.cell (p := ⟨w.heap.size, 0, none⟩) sz10_paR).trans bx10_paR_0
        have bx11_paR_1 : w11.cell? ⟨w.heap.size, 1, none⟩ = some (.slice a1_vR vR.fRows.length c1_vR) := (hst11.cell (p := ⟨w.heap.size, 1, none⟩) sz10_paR).trans bx10_paR_1
        have sz11_w0 : w4.heap.size < w11.heap.size := Nat.lt_of_lt_of_le sz10_w0 hst11.size
        have bx11_w0_0 : w11.cell? ⟨w4.heap.size, 0, none⟩ = some (.int .i64 (projRel vR vList).fN) := (hst11.cell (p := ⟨w4.heap.size, 0, none⟩) sz10_w0).trans bx10_w0_0
        have bx11_w0_1 : w11.cell? ⟨w4.heap.size, 1, none⟩ = some (.slice a1_R_4 (projRel vR vList).fRows.length c1_R_4) := (hst11.cell (p := ⟨w4.heap.size, 1, none⟩) sz10_w0).trans bx10_w0_1
        have sz11_x0 : w5.heap.size < w11.heap.size := Nat.lt_of_lt_of_le sz10_x0 hst11.size
        have bx11_x0_0 : w11.cell? ⟨w5.heap.size, 0, none⟩ = some (.int .i64 vR.fN) := (hst11.cell (p := ⟨w5.heap.size, 0, none⟩) sz10_x0).trans bx10_x0_0
        have bx11_x0_1 : w11.cell? ⟨w5.heap.size, 1, none⟩ = some (.slice a1_vR_5 vR.fRows.length c1_vR_5) := (hst11.cell (p := ⟨w5.heap.size, 1, none⟩) sz10_x0).trans bx10_x0_1
        have sz11_g0 : w7.heap.size < w11.heap.size := Nat.lt_of_lt_of_le sz10_g0 hst11.size
        have bx11_g0_0 : w11.cell? ⟨w7.heap.size, 0, none⟩ = some (.int .i64 (projRel vR vList).fN) := (hst11.cell (p := ⟨w7.heap.size, 0, none⟩) sz10_g0).trans bx10_g0_0
        have bx11_g0_1 : w11.cell? ⟨w7.heap.size, 1, none⟩ = some (.slice a1_R_7 (projRel vR vList).fRows.length c1_R_7) := (hst11.cell (p := ⟨w7.heap.size, 1, none⟩) sz10_g0).trans bx10_g0_1
        have HO11_1_vR_2 := Lib.hid (HO10_1_vR_2.out.kept (Kept.of_below_all hst11))
        have HO11_vList_3 := Lib.hid (HO10_vList_3.out.kept (Kept.of_below_all hst11))
        have HO11_1_R_4 := Lib.hid (HO10_1_R_4.out.kept (Kept.of_below_all hst11))
        have HO11_1_vR_5 := Lib.hid (HO10_1_vR_5.out.kept (Kept.of_below_all hst11))
        have HO11_vList_6 := Lib.hid (HO10_vList_6.out.kept (Kept.of_below_all hst11))
        have HO11_1_R_7 := Lib.hid (HO10_1_R_7.out.kept (Kept.of_below_all hst11))
        have HO11_1_vR_9 := Lib.hid (HO10_1_vR_9.out.kept (Kept.of_below_all hst11))
        have HO11_vList_11 := Lib.hid (show Own w11 (fun y => w10.heap.size ≤ y ∧ y < w11.heap.size) (.sl 1 vList.length (fun k => ictI (vList.getD k default))) (.slice a_vList_11 vList.length c_vList_11) from Own.sub (F := fun y => _ ≤ y ∧ y < _) ho11 (fun y hy => ⟨Nat.le_trans (by first | exact Nat.le_refl _ | (simp; done) | (simp; omega) | (simp [World.setCell]; done) | (simp [World.setCell]; omega)) hy.1, hy.2⟩))
        have HB11 := Lib.hid (HB10.out.trans (hst11.mono HB10.out.size))
        clear bx10_paR_0 bx10_paR_1 sz10_paR bx10_w0_0 bx10_w0_1 sz10_w0 bx10_x0_0 bx10_x0_1 sz10_x0 bx10_g0_0 bx10_g0_1 sz10_g0 HO10_1_vR_2 HO10_vList_3 HO10_1_R_4 HO10_1_vR_5 HO10_vList_6 HO10_1_R_7 HO10_1_vR_9 ho11 hb11 hst11 HB10
        go_wp2_with fail
        refine (laws_eqIntS (cap := c_vList_6) (cap2 := c_vList_11) vList hq_vList _ (Below.size (by repeat (first | (with_reducible exact Below.refl _ _) | (with_reducible apply Below.drew) | (with_reducible refine below_drewN ?_ _) | (refine Below.setCell ?_ (by simp <;> omega) _) | (refine Below.alloc ?_ (by simp <;> omega) _)) : Below w11.heap.size w11 _)) (Below.size (by repeat (first | (with_reducible exact Below.refl _ _) | (with_reducible apply Below.drew) | (with_reducible refine below_drewN ?_ _) | (refine Below.setCell ?_ (by simp <;> omega) _) | (refine Below.alloc ?_ (by simp <;> omega) _)) : Below w11.heap.size w11 _)) ((Sl.of (HO11_vList_6.out.lies (lo := 0) (hi := w11.heap.size) (fun y hy => ⟨Nat.zero_le _, by have := hy.2; omega⟩))).later (by repeat (first | (with_reducible exact Below.refl _ _) | (with_reducible apply Below.drew) | (with_reducible refine below_drewN ?_ _) | (refine Below.setCell ?_ (by simp <;> omega) _) | (refine Below.alloc ?_ (by simp <;> omega) _)) : Below w11.heap.size w11 _) (Nat.le_refl _)) ((Sl.of (HO11_vList_11.out.lies (lo := 0) (hi := w11.heap.size) (fun y hy => ⟨Nat.zero_le _, by have := hy.2; omega⟩))).later (by repeat (first | (with_reducible exact Below.refl _ _) | (with_reducible apply Below.drew) | (with_reducible refine below_drewN ?_ _) | (refine Below.setCell ?_ (by simp <;> omega) _) | (refine Below.alloc ?_ (by simp <;> omega) _)) : Below w11.heap.size w11 _) (Nat.le_refl _))).mono ?_
        rintro e w12 ⟨rfl, hb12⟩
        have hst12 : Below w11.heap.size w11 w12 := Below.trans (by repeat (first | (with_reducible exact Below.refl _ _) | (with_reducible apply Below.drew) | (with_reducible refine below_drewN ?_ _) | (refine Below.setCell ?_ (by simp <;> omega) _) | (refine Below.alloc ?_ (by simp <;> omega) _)) : Below w11.heap.size w11 _) (hb12.mono (Below.size (by repeat (first | (with_reducible exact Below.refl _ _) | (with_reducible apply Below.drew) | (with_reducible refine below_drewN ?_ _) | (refine Below.setCell ?_ (by simp <;> omega) _) | (refine Below.alloc ?_ (by simp <;> omega) _)) : Below w11.heap.size w11 _)))
        have hr12 : w11.heap.size ≤ w12.heap.size := Nat.le_trans (by first | exact Nat.le_refl _ | (simp; done) | (simp; omega) | (simp [World.setCell]; done) | (simp [World.setCell]; omega)) hb12.size
        have sz12_paR : w.heap.size < w12.heap.size := Nat.lt_of_lt_of_le sz11_paR hst12.size
        have bx12_paR_0 : w12.cell? ⟨w.heap.size, 0, none⟩ = some (.int .i64 vR.fN) := (hst12.cell (p := ⟨w.heap.size, 0, none⟩) sz11_paR).trans bx11_paR_0
        have bx12_paR_1 : w12.cell? ⟨w.heap.size, 1, none⟩ = some (.slice a1_vR vR.fRows.length c1_vR) := (hst12.cell (p := ⟨w.heap.size, 1, none⟩) sz11_paR).trans bx11_paR_1
        have sz12_w0 : w4.heap.size < w12.heap.size := Nat.lt_of_lt_of_le sz11_w0 hst12.size
        have bx12_w0_0 : w12.cell? ⟨w4.heap.size, 0, none⟩ = some (.int .i64 (projRel vR vList).fN) := (hst12.cell (p := ⟨w4.heap.size, 0, none⟩) sz11_w0).trans bx11_w0_0
        have bx12_w0_1 : w12.cell? ⟨w4.heap.size, 1, none⟩ = some (.slice a1_R_4 (projRel vR vList).fRows.length c1_R_4) := (hst12.cell (p := ⟨w4.heap.size, 1, none⟩) sz11_w0).trans bx11_w0_1
        have sz12_x0 : w5.heap.size < w12.heap.size := Nat.lt_of_lt_of_le sz11_x0 hst12.size
        have bx12_x0_0 : w12.cell? ⟨w5.heap.size, 0, none⟩ = some (.int .i64 vR.fN) := (hst12.cell (p := ⟨w5.heap.size, 0, none⟩) sz11_x0).trans bx11_x0_0
        have bx12_x0_1 : w12.cell? ⟨w5.heap.size, 1, none⟩ = some (.slice a1_vR_5 vR.fRows.length c1_vR_5) := (hst12.cell (p := ⟨w5.heap.size, 1, none⟩) sz11_x0).trans bx11_x0_1
        have sz12_g0 : w7.heap.size < w12.heap.size := Nat.lt_of_lt_of_le sz11_g0 hst12.size
        have bx12_g0_0 : w12.cell? ⟨w7.heap.size, 0, none⟩ = some (.int .i64 (projRel vR vList).fN) := (hst12.cell (p := ⟨w7.heap.size, 0, none⟩) sz11_g0).trans bx11_g0_0
        have bx12_g0_1 : w12.cell? ⟨w7.heap.size, 1, none⟩ = some (.slice a1_R_7 (projRel vR vList).fRows.length c1_R_7) := (hst12.cell (p := ⟨w7.heap.size, 1, none⟩) sz11_g0).trans bx11_g0_1
        have HO12_1_vR_2 := Lib.hid (HO11_1_vR_2.out.kept (Kept.of_below_all hst12))
        have HO12_vList_3 := Lib.hid (HO11_vList_3.out.kept (Kept.of_below_all hst12))
        have HO12_1_R_4 := Lib.hid (HO11_1_R_4.out.kept (Kept.of_below_all hst12))
        have HO12_1_vR_5 := Lib.hid (HO11_1_vR_5.out.kept (Kept.of_below_all hst12))
        have HO12_vList_6 := Lib.hid (HO11_vList_6.out.kept (Kept.of_below_all hst12))
        have HO12_1_R_7 := Lib.hid (HO11_1_R_7.out.kept (Kept.of_below_all hst12))
        have HO12_1_vR_9 := Lib.hid (HO11_1_vR_9.out.kept (Kept.of_below_all hst12))
        have HO12_vList_11 := Lib.hid (HO11_vList_11.out.kept (Kept.of_below_all hst12))
        have HB12 := Lib.hid (HB11.out.trans (hst12.mono HB11.out.size))
        clear bx11_paR_0 bx11_paR_1 sz11_paR bx11_w0_0 bx11_w0_1 sz11_w0 bx11_x0_0 bx11_x0_1 sz11_x0 bx11_g0_0 bx11_g0_1 sz11_g0 HO11_1_vR_2 HO11_vList_3 HO11_1_R_4 HO11_1_vR_5 HO11_vList_6 HO11_1_R_7 HO11_1_vR_9 HO11_vList_11 hb12 hst12 HB11
        go_wp2_with fail
        refine (laws_markRelation (c1 := c1_vR_5) vR (by have h1 := rel_len hq_vR; have h2 := projRel_len vR vList; have h3 := lsz_zero vList; omega) 1 (by have h1 := rel_len hq_vR; have h2 := projRel_len vR vList; have h3 := lsz_zero vList; omega) _ (fun y hy => Nat.lt_of_lt_of_le (show y < w12.heap.size by have := hy.2; omega) (Below.size (by repeat (first | (with_reducible exact Below.refl _ _) | (with_reducible apply Below.drew) | (with_reducible refine below_drewN ?_ _) | (refine Below.setCell ?_ (by simp <;> omega) _) | (refine Below.alloc ?_ (by simp <;> omega) _)) : Below w12.heap.size w12 _))) (HO12_1_vR_5.out.kept (Kept.of_below (by repeat (first | (with_reducible exact Below.refl _ _) | (with_reducible apply Below.drew) | (with_reducible refine below_drewN ?_ _) | (refine Below.setCell ?_ (by simp <;> omega) _) | (refine Below.alloc ?_ (by simp <;> omega) _)) : Below w12.heap.size w12 _) (fun y hy => by have := hy.2; omega)))).mono ?_
        rintro e w13 ⟨rfl, ho13, hw13⟩
        have hst13 : WritesF (fun y => w4.heap.size + 1 ≤ y ∧ y < w5.heap.size) w12 w13 := hw13.of_below (by repeat (first | (with_reducible exact Below.refl _ _) | (with_reducible apply Below.drew) | (with_reducible refine below_drewN ?_ _) | (refine Below.setCell ?_ (by simp <;> omega) _) | (refine Below.alloc ?_ (by simp <;> omega) _)) : Below w12.heap.size w12 _)
        have hr13 : w12.heap.size ≤ w13.heap.size := Nat.le_trans (by first | exact Nat.le_refl _ | (simp; done) | (simp; omega) | (simp [World.setCell]; done) | (simp [World.setCell]; omega)) hw13.size
        have sz13_paR : w.heap.size < w13.heap.size := Nat.lt_of_lt_of_le sz12_paR hst13.size
        have bx13_paR_0 : w13.cell? ⟨w.heap.size, 0, none⟩ = some (.int .i64 vR.fN) := (World.cell?_of_block (a := ⟨w.heap.size, 0, none⟩) (hst13.block (w.heap.size) sz12_paR (fun hf => by have h1 := hf.1; have h2 := hf.2; omega))).trans bx12_paR_0
        have bx13_paR_1 : w13.cell? ⟨w.heap.size, 1, none⟩ = some (.slice a1_vR vR.fRows.length c1_vR) := (World.cell?_of_block (a := ⟨w.heap.size, 1, none⟩) (hst13.block (w.heap.size) sz12_paR (fun hf => by have h1 := hf.1; have h2 := hf.2; omega))).trans bx12_paR_1
        have sz13_w0 : w4.heap.size < w13.heap.size := Nat.lt_of_lt_of_le sz12_w0 hst13.size
        have bx13_w0_0 : w13.cell? ⟨w4.heap.size, 0, none⟩ = some (.int .i64 (projRel vR vList).fN) := (World.cell?_of_block (a := ⟨w4.heap.size, 0, none⟩) (hst13.block (w4.heap.size) sz12_w0 (fun hf => by have h1 := hf.1; have h2 := hf.2; omega))).trans bx12_w0_0
        have bx13_w0_1 : w13.cell? ⟨w4.heap.size, 1, none⟩ = some (.slice a1_R_4 (projRel vR vList).fRows.length c1_R_4) := (World.cell?_of_block (a := ⟨w4.heap.size, 1, none⟩) (hst13.block (w4.heap.size) sz12_w0 (fun hf => by have h1 := hf.1; have h2 := hf.2; omega))).trans bx12_w0_1
        have sz13_x0 : w5.heap.size < w13.heap.size := Nat.lt_of_lt_of_le sz12_x0 hst13.size
        have bx13_x0_0 : w13.cell? ⟨w5.heap.size, 0, none⟩ = some (.int .i64 vR.fN) := (World.cell?_of_block (a := ⟨w5.heap.size, 0, none⟩) (hst13.block (w5.heap.size) sz12_x0 (fun hf => by have h1 := hf.1; have h2 := hf.2; omega))).trans bx12_x0_0
        have bx13_x0_1 : w13.cell? ⟨w5.heap.size, 1, none⟩ = some (.slice a1_vR_5 vR.fRows.length c1_vR_5) := (World.cell?_of_block (a := ⟨w5.heap.size, 1, none⟩) (hst13.block (w5.heap.size) sz12_x0 (fun hf => by have h1 := hf.1; have h2 := hf.2; omega))).trans bx12_x0_1
        have sz13_g0 : w7.heap.size < w13.heap.size := Nat.lt_of_lt_of_le sz12_g0 hst13.size
        have bx13_g0_0 : w13.cell? ⟨w7.heap.size, 0, none⟩ = some (.int .i64 (projRel vR vList).fN) := (World.cell?_of_block (a := ⟨w7.heap.size, 0, none⟩) (hst13.block (w7.heap.size) sz12_g0 (fun hf => by have h1 := hf.1; have h2 := hf.2; omega))).trans bx12_g0_0
        have bx13_g0_1 : w13.cell? ⟨w7.heap.size, 1, none⟩ = some (.slice a1_R_7 (projRel vR vList).fRows.length c1_R_7) := (World.cell?_of_block (a := ⟨w7.heap.size, 1, none⟩) (hst13.block (w7.heap.size) sz12_g0 (fun hf => by have h1 := hf.1; have h2 := hf.2; omega))).trans bx12_g0_1
        have HO13_1_vR_2 := Lib.hid (HO12_1_vR_2.out.kept (hst13.kept (fun y hy hf => by have h1 := hy.1; have h2 := hy.2; have h3 := hf.1; have h4 := hf.2; omega)))
        have HO13_vList_3 := Lib.hid (HO12_vList_3.out.kept (hst13.kept (fun y hy hf => by have h1 := hy.1; have h2 := hy.2; have h3 := hf.1; have h4 := hf.2; omega)))
        have HO13_1_R_4 := Lib.hid (HO12_1_R_4.out.kept (hst13.kept (fun y hy hf => by have h1 := hy.1; have h2 := hy.2; have h3 := hf.1; have h4 := hf.2; omega)))
        have HO13_1_vR_5 := Lib.hid ho13
        have HO13_vList_6 := Lib.hid (HO12_vList_6.out.kept (hst13.kept (fun y hy hf => by have h1 := hy.1; have h2 := hy.2; have h3 := hf.1; have h4 := hf.2; omega)))
        have HO13_1_R_7 := Lib.hid (HO12_1_R_7.out.kept (hst13.kept (fun y hy hf => by have h1 := hy.1; have h2 := hy.2; have h3 := hf.1; have h4 := hf.2; omega)))
        have HO13_1_vR_9 := Lib.hid (HO12_1_vR_9.out.kept (hst13.kept (fun y hy hf => by have h1 := hy.1; have h2 := hy.2; have h3 := hf.1; have h4 := hf.2; omega)))
        have HO13_vList_11 := Lib.hid (HO12_vList_11.out.kept (hst13.kept (fun y hy hf => by have h1 := hy.1; have h2 := hy.2; have h3 := hf.1; have h4 := hf.2; omega)))
        have HB13 := Lib.hid (HB12.out.trans (hst13.below (fun y hy => by have := hy.1; omega) HB12.out.size))
        clear bx12_paR_0 bx12_paR_1 sz12_paR bx12_w0_0 bx12_w0_1 sz12_w0 bx12_x0_0 bx12_x0_1 sz12_x0 bx12_g0_0 bx12_g0_1 sz12_g0 HO12_1_vR_2 HO12_vList_3 HO12_1_R_4 ho13 HO12_1_vR_5 HO12_vList_6 HO12_1_R_7 HO12_1_vR_9 HO12_vList_11 hw13 hst13 HB12
        go_wp2_with fail
        refine (laws_markIntS (cap := c_vList_6) vList (by have h1 := rel_len hq_vR; have h2 := projRel_len vR vList; have h3 := lsz_zero vList; omega) (1 + vR.fRows.length) (by have h1 := rel_len hq_vR; have h2 := projRel_len vR vList; have h3 := lsz_zero vList; omega) _ (HO13_vList_6.out.kept (Kept.of_below (by repeat (first | (with_reducible exact Below.refl _ _) | (with_reducible apply Below.drew) | (with_reducible refine below_drewN ?_ _) | (refine Below.setCell ?_ (by simp <;> omega) _) | (refine Below.alloc ?_ (by simp <;> omega) _)) : Below w13.heap.size w13 _) (fun y hy => by have := hy.2; omega)))).mono ?_
        rintro e w14 ⟨rfl, ho14, hw14⟩
        have hst14 : WritesF (fun y => w5.heap.size + 1 ≤ y ∧ y < w6.heap.size) w13 w14 := hw14.of_below (by repeat (first | (with_reducible exact Below.refl _ _) | (with_reducible apply Below.drew) | (with_reducible refine below_drewN ?_ _) | (refine Below.setCell ?_ (by simp <;> omega) _) | (refine Below.alloc ?_ (by simp <;> omega) _)) : Below w13.heap.size w13 _)
        have hr14 : w13.heap.size ≤ w14.heap.size := Nat.le_trans (by first | exact Nat.le_refl _ | (simp; done) | (simp; omega) | (simp [World.setCell]; done) | (simp [World.setCell]; omega)) hw14.size
        have sz14_paR : w.heap.size < w14.heap.size := Nat.lt_of_lt_of_le sz13_paR hst14.size
        have bx14_paR_0 : w14.cell? ⟨w.heap.size, 0, none⟩ = some (.int .i64 vR.fN) := (World.cell?_of_block (a := ⟨w.heap.size, 0, none⟩) (hst14.block (w.heap.size) sz13_paR (fun hf => by have h1 := hf.1; have h2 := hf.2; omega))).trans bx13_paR_0
        have bx14_paR_1 : w14.cell? ⟨w.heap.size, 1, none⟩ = some (.slice a1_vR vR.fRows.length c1_vR) := (World.cell?_of_block (a := ⟨w.heap.size, 1, none⟩) (hst14.block (w.heap.size) sz13_paR (fun hf => by have h1 := hf.1; have h2 := hf.2; omega))).trans bx13_paR_1
        have sz14_w0 : w4.heap.size < w14.heap.size := Nat.lt_of_lt_of_le sz13_w0 hst14.size
        have bx14_w0_0 : w14.cell? ⟨w4.heap.size, 0, none⟩ = some (.int .i64 (projRel vR vList).fN) := (World.cell?_of_block (a := ⟨w4.heap.size, 0, none⟩) (hst14.block (w4.heap.size) sz13_w0 (fun hf => by have h1 := hf.1; have h2 := hf.2; omega))).trans bx13_w0_0
        have bx14_w0_1 : w14.cell? ⟨w4.heap.size, 1, none⟩ = some (.slice a1_R_4 (projRel vR vList).fRows.length c1_R_4) := (World.cell?_of_block (a := ⟨w4.heap.size, 1, none⟩) (hst14.block (w4.heap.size) sz13_w0 (fun hf => by have h1 := hf.1; have h2 := hf.2; omega))).trans bx13_w0_1
        have sz14_x0 : w5.heap.size < w14.heap.size := Nat.lt_of_lt_of_le sz13_x0 hst14.size
        have bx14_x0_0 : w14.cell? ⟨w5.heap.size, 0, none⟩ = some (.int .i64 vR.fN) := (World.cell?_of_block (a := ⟨w5.heap.size, 0, none⟩) (hst14.block (w5.heap.size) sz13_x0 (fun hf => by have h1 := hf.1; have h2 := hf.2; omega))).trans bx13_x0_0
        have bx14_x0_1 : w14.cell? ⟨w5.heap.size, 1, none⟩ = some (.slice a1_vR_5 vR.fRows.length c1_vR_5) := (World.cell?_of_block (a := ⟨w5.heap.size, 1, none⟩) (hst14.block (w5.heap.size) sz13_x0 (fun hf => by have h1 := hf.1; have h2 := hf.2; omega))).trans bx13_x0_1
        have sz14_g0 : w7.heap.size < w14.heap.size := Nat.lt_of_lt_of_le sz13_g0 hst14.size
        have bx14_g0_0 : w14.cell? ⟨w7.heap.size, 0, none⟩ = some (.int .i64 (projRel vR vList).fN) := (World.cell?_of_block (a := ⟨w7.heap.size, 0, none⟩) (hst14.block (w7.heap.size) sz13_g0 (fun hf => by have h1 := hf.1; have h2 := hf.2; omega))).trans bx13_g0_0
        have bx14_g0_1 : w14.cell? ⟨w7.heap.size, 1, none⟩ = some (.slice a1_R_7 (projRel vR vList).fRows.length c1_R_7) := (World.cell?_of_block (a := ⟨w7.heap.size, 1, none⟩) (hst14.block (w7.heap.size) sz13_g0 (fun hf => by have h1 := hf.1; have h2 := hf.2; omega))).trans bx13_g0_1
        have HO14_1_vR_2 := Lib.hid (HO13_1_vR_2.out.kept (hst14.kept (fun y hy hf => by have h1 := hy.1; have h2 := hy.2; have h3 := hf.1; have h4 := hf.2; omega)))
        have HO14_vList_3 := Lib.hid (HO13_vList_3.out.kept (hst14.kept (fun y hy hf => by have h1 := hy.1; have h2 := hy.2; have h3 := hf.1; have h4 := hf.2; omega)))
        have HO14_1_R_4 := Lib.hid (HO13_1_R_4.out.kept (hst14.kept (fun y hy hf => by have h1 := hy.1; have h2 := hy.2; have h3 := hf.1; have h4 := hf.2; omega)))
        have HO14_1_vR_5 := Lib.hid (HO13_1_vR_5.out.kept (hst14.kept (fun y hy hf => by have h1 := hy.1; have h2 := hy.2; have h3 := hf.1; have h4 := hf.2; omega)))
        have HO14_vList_6 := Lib.hid ho14
        have HO14_1_R_7 := Lib.hid (HO13_1_R_7.out.kept (hst14.kept (fun y hy hf => by have h1 := hy.1; have h2 := hy.2; have h3 := hf.1; have h4 := hf.2; omega)))
        have HO14_1_vR_9 := Lib.hid (HO13_1_vR_9.out.kept (hst14.kept (fun y hy hf => by have h1 := hy.1; have h2 := hy.2; have h3 := hf.1; have h4 := hf.2; omega)))
        have HO14_vList_11 := Lib.hid (HO13_vList_11.out.kept (hst14.kept (fun y hy hf => by have h1 := hy.1; have h2 := hy.2; have h3 := hf.1; have h4 := hf.2; omega)))
        have HB14 := Lib.hid (HB13.out.trans (hst14.below (fun y hy => by have := hy.1; omega) HB13.out.size))
        clear bx13_paR_0 bx13_paR_1 sz13_paR bx13_w0_0 bx13_w0_1 sz13_w0 bx13_x0_0 bx13_x0_1 sz13_x0 bx13_g0_0 bx13_g0_1 sz13_g0 HO13_1_vR_2 HO13_vList_3 HO13_1_R_4 HO13_1_vR_5 ho14 HO13_vList_6 HO13_1_R_7 HO13_1_vR_9 HO13_vList_11 hw14 hst14 HB13
        go_wp2_with fail
        refine (laws_eqRelation (c1 := c1_R_7) (c1q := c1_R_4) (projRel vR vList) hq_R _ (Below.size (by repeat (first | (with_reducible exact Below.refl _ _) | (with_reducible apply Below.drew) | (with_reducible refine below_drewN ?_ _) | (refine Below.setCell ?_ (by simp <;> omega) _) | (refine Below.alloc ?_ (by simp <;> omega) _)) : Below w14.heap.size w14 _)) (Below.size (by repeat (first | (with_reducible exact Below.refl _ _) | (with_reducible apply Below.drew) | (with_reducible refine below_drewN ?_ _) | (refine Below.setCell ?_ (by simp <;> omega) _) | (refine Below.alloc ?_ (by simp <;> omega) _)) : Below w14.heap.size w14 _)) ((Sl.of (HO14_1_R_7.out.lies (lo := 0) (hi := w14.heap.size) (fun y hy => ⟨Nat.zero_le _, by have := hy.2; omega⟩))).later (by repeat (first | (with_reducible exact Below.refl _ _) | (with_reducible apply Below.drew) | (with_reducible refine below_drewN ?_ _) | (refine Below.setCell ?_ (by simp <;> omega) _) | (refine Below.alloc ?_ (by simp <;> omega) _)) : Below w14.heap.size w14 _) (Nat.le_refl _)) ((Sl.of (HO14_1_R_4.out.lies (lo := 0) (hi := w14.heap.size) (fun y hy => ⟨Nat.zero_le _, by have := hy.2; omega⟩))).later (by repeat (first | (with_reducible exact Below.refl _ _) | (with_reducible apply Below.drew) | (with_reducible refine below_drewN ?_ _) | (refine Below.setCell ?_ (by simp <;> omega) _) | (refine Below.alloc ?_ (by simp <;> omega) _)) : Below w14.heap.size w14 _) (Nat.le_refl _))).mono ?_
        rintro e w15 ⟨rfl, hb15⟩
        have hst15 : Below w14.heap.size w14 w15 := Below.trans (by repeat (first | (with_reducible exact Below.refl _ _) | (with_reducible apply Below.drew) | (with_reducible refine below_drewN ?_ _) | (refine Below.setCell ?_ (by simp <;> omega) _) | (refine Below.alloc ?_ (by simp <;> omega) _)) : Below w14.heap.size w14 _) (hb15.mono (Below.size (by repeat (first | (with_reducible exact Below.refl _ _) | (with_reducible apply Below.drew) | (with_reducible refine below_drewN ?_ _) | (refine Below.setCell ?_ (by simp <;> omega) _) | (refine Below.alloc ?_ (by simp <;> omega) _)) : Below w14.heap.size w14 _)))
        have hr15 : w14.heap.size ≤ w15.heap.size := Nat.le_trans (by first | exact Nat.le_refl _ | (simp; done) | (simp; omega) | (simp [World.setCell]; done) | (simp [World.setCell]; omega)) hb15.size
        have sz15_paR : w.heap.size < w15.heap.size := Nat.lt_of_lt_of_le sz14_paR hst15.size
        have bx15_paR_0 : w15.cell? ⟨w.heap.size, 0, none⟩ = some (.int .i64 vR.fN) := (hst15.cell (p := ⟨w.heap.size, 0, none⟩) sz14_paR).trans bx14_paR_0
        have bx15_paR_1 : w15.cell? ⟨w.heap.size, 1, none⟩ = some (.slice a1_vR vR.fRows.length c1_vR) := (hst15.cell (p := ⟨w.heap.size, 1, none⟩) sz14_paR).trans bx14_paR_1
        have sz15_w0 : w4.heap.size < w15.heap.size := Nat.lt_of_lt_of_le sz14_w0 hst15.size
        have bx15_w0_0 : w15.cell? ⟨w4.heap.size, 0, none⟩ = some (.int .i64 (projRel vR vList).fN) := (hst15.cell (p := ⟨w4.heap.size, 0, none⟩) sz14_w0).trans bx14_w0_0
        have bx15_w0_1 : w15.cell? ⟨w4.heap.size, 1, none⟩ = some (.slice a1_R_4 (projRel vR vList).fRows.length c1_R_4) := (hst15.cell (p := ⟨w4.heap.size, 1, none⟩) sz14_w0).trans bx14_w0_1
        have sz15_x0 : w5.heap.size < w15.heap.size := Nat.lt_of_lt_of_le sz14_x0 hst15.size
        have bx15_x0_0 : w15.cell? ⟨w5.heap.size, 0, none⟩ = some (.int .i64 vR.fN) := (hst15.cell (p := ⟨w5.heap.size, 0, none⟩) sz14_x0).trans bx14_x0_0
        have bx15_x0_1 : w15.cell? ⟨w5.heap.size, 1, none⟩ = some (.slice a1_vR_5 vR.fRows.length c1_vR_5) := (hst15.cell (p := ⟨w5.heap.size, 1, none⟩) sz14_x0).trans bx14_x0_1
        have sz15_g0 : w7.heap.size < w15.heap.size := Nat.lt_of_lt_of_le sz14_g0 hst15.size
        have bx15_g0_0 : w15.cell? ⟨w7.heap.size, 0, none⟩ = some (.int .i64 (projRel vR vList).fN) := (hst15.cell (p := ⟨w7.heap.size, 0, none⟩) sz14_g0).trans bx14_g0_0
        have bx15_g0_1 : w15.cell? ⟨w7.heap.size, 1, none⟩ = some (.slice a1_R_7 (projRel vR vList).fRows.length c1_R_7) := (hst15.cell (p := ⟨w7.heap.size, 1, none⟩) sz14_g0).trans bx14_g0_1
        have HO15_1_vR_2 := Lib.hid (HO14_1_vR_2.out.kept (Kept.of_below_all hst15))
        have HO15_vList_3 := Lib.hid (HO14_vList_3.out.kept (Kept.of_below_all hst15))
        have HO15_1_R_4 := Lib.hid (HO14_1_R_4.out.kept (Kept.of_below_all hst15))
        have HO15_1_vR_5 := Lib.hid (HO14_1_vR_5.out.kept (Kept.of_below_all hst15))
        have HO15_vList_6 := Lib.hid (HO14_vList_6.out.kept (Kept.of_below_all hst15))
        have HO15_1_R_7 := Lib.hid (HO14_1_R_7.out.kept (Kept.of_below_all hst15))
        have HO15_1_vR_9 := Lib.hid (HO14_1_vR_9.out.kept (Kept.of_below_all hst15))
        have HO15_vList_11 := Lib.hid (HO14_vList_11.out.kept (Kept.of_below_all hst15))
        have HB15 := Lib.hid (HB14.out.trans (hst15.mono HB14.out.size))
        clear bx14_paR_0 bx14_paR_1 sz14_paR bx14_w0_0 bx14_w0_1 sz14_w0 bx14_x0_0 bx14_x0_1 sz14_x0 bx14_g0_0 bx14_g0_1 sz14_g0 HO14_1_vR_2 HO14_vList_3 HO14_1_R_4 HO14_1_vR_5 HO14_vList_6 HO14_1_R_7 HO14_1_vR_9 HO14_vList_11 hb15 hst15 HB14
        go_wp2_with fail
        refine (laws_markRelation (c1 := c1_R_7) (projRel vR vList) (by have h1 := rel_len hq_vR; have h2 := projRel_len vR vList; have h3 := lsz_zero vList; omega) 1 (by have h1 := rel_len hq_vR; have h2 := projRel_len vR vList; have h3 := lsz_zero vList; omega) _ (fun y hy => Nat.lt_of_lt_of_le (show y < w15.heap.size by have := hy.2; omega) (Below.size (by repeat (first | (with_reducible exact Below.refl _ _) | (with_reducible apply Below.drew) | (with_reducible refine below_drewN ?_ _) | (refine Below.setCell ?_ (by simp <;> omega) _) | (refine Below.alloc ?_ (by simp <;> omega) _)) : Below w15.heap.size w15 _))) (HO15_1_R_7.out.kept (Kept.of_below (by repeat (first | (with_reducible exact Below.refl _ _) | (with_reducible apply Below.drew) | (with_reducible refine below_drewN ?_ _) | (refine Below.setCell ?_ (by simp <;> omega) _) | (refine Below.alloc ?_ (by simp <;> omega) _)) : Below w15.heap.size w15 _) (fun y hy => by have := hy.2; omega)))).mono ?_
        rintro e w16 ⟨rfl, ho16, hw16⟩
        have hst16 : WritesF (fun y => w6.heap.size ≤ y ∧ y < w7.heap.size) w15 w16 := hw16.of_below (by repeat (first | (with_reducible exact Below.refl _ _) | (with_reducible apply Below.drew) | (with_reducible refine below_drewN ?_ _) | (refine Below.setCell ?_ (by simp <;> omega) _) | (refine Below.alloc ?_ (by simp <;> omega) _)) : Below w15.heap.size w15 _)
        have hr16 : w15.heap.size ≤ w16.heap.size := Nat.le_trans (by first | exact Nat.le_refl _ | (simp; done) | (simp; omega) | (simp [World.setCell]; done) | (simp [World.setCell]; omega)) hw16.size
        have sz16_paR : w.heap.size < w16.heap.size := Nat.lt_of_lt_of_le sz15_paR hst16.size
        have bx16_paR_0 : w16.cell? ⟨w.heap.size, 0, none⟩ = some (.int .i64 vR.fN) := (World.cell?_of_block (a := ⟨w.heap.size, 0, none⟩) (hst16.block (w.heap.size) sz15_paR (fun hf => by have h1 := hf.1; have h2 := hf.2; omega))).trans bx15_paR_0
        have bx16_paR_1 : w16.cell? ⟨w.heap.size, 1, none⟩ = some (.slice a1_vR vR.fRows.length c1_vR) := (World.cell?_of_block (a := ⟨w.heap.size, 1, none⟩) (hst16.block (w.heap.size) sz15_paR (fun hf => by have h1 := hf.1; have h2 := hf.2; omega))).trans bx15_paR_1
        have sz16_w0 : w4.heap.size < w16.heap.size := Nat.lt_of_lt_of_le sz15_w0 hst16.size
        have bx16_w0_0 : w16.cell? ⟨w4.heap.size, 0, none⟩ = some (.int .i64 (projRel vR vList).fN) := (World.cell?_of_block (a := ⟨w4.heap.size, 0, none⟩) (hst16.block (w4.heap.size) sz15_w0 (fun hf => by have h1 := hf.1; have h2 := hf.2; omega))).trans bx15_w0_0
        have bx16_w0_1 : w16.cell? ⟨w4.heap.size, 1, none⟩ = some (.slice a1_R_4 (projRel vR vList).fRows.length c1_R_4) := (World.cell?_of_block (a := ⟨w4.heap.size, 1, none⟩) (hst16.block (w4.heap.size) sz15_w0 (fun hf => by have h1 := hf.1; have h2 := hf.2; omega))).trans bx15_w0_1
        have sz16_x0 : w5.heap.size < w16.heap.size := Nat.lt_of_lt_of_le sz15_x0 hst16.size
        have bx16_x0_0 : w16.cell? ⟨w5.heap.size, 0, none⟩ = some (.int .i64 vR.fN) := (World.cell?_of_block (a := ⟨w5.heap.size, 0, none⟩) (hst16.block (w5.heap.size) sz15_x0 (fun hf => by have h1 := hf.1; have h2 := hf.2; omega))).trans bx15_x0_0
        have bx16_x0_1 : w16.cell? ⟨w5.heap.size, 1, none⟩ = some (.slice a1_vR_5 vR.fRows.length c1_vR_5) := (World.cell?_of_block (a := ⟨w5.heap.size, 1, none⟩) (hst16.block (w5.heap.size) sz15_x0 (fun hf => by have h1 := hf.1; have h2 := hf.2; omega))).trans bx15_x0_1
        have sz16_g0 : w7.heap.size < w16.heap.size := Nat.lt_of_lt_of_le sz15_g0 hst16.size
        have bx16_g0_0 : w16.cell? ⟨w7.heap.size, 0, none⟩ = some (.int .i64 (projRel vR vList).fN) := (World.cell?_of_block (a := ⟨w7.heap.size, 0, none⟩) (hst16.block (w7.heap.size) sz15_g0 (fun hf => by have h1 := hf.1; have h2 := hf.2; omega))).trans bx15_g0_0
        have bx16_g0_1 : w16.cell? ⟨w7.heap.size, 1, none⟩ = some (.slice a1_R_7 (projRel vR vList).fRows.length c1_R_7) := (World.cell?_of_block (a := ⟨w7.heap.size, 1, none⟩) (hst16.block (w7.heap.size) sz15_g0 (fun hf => by have h1 := hf.1; have h2 := hf.2; omega))).trans bx15_g0_1
        have HO16_1_vR_2 := Lib.hid (HO15_1_vR_2.out.kept (hst16.kept (fun y hy hf => by have h1 := hy.1; have h2 := hy.2; have h3 := hf.1; have h4 := hf.2; omega)))
        have HO16_vList_3 := Lib.hid (HO15_vList_3.out.kept (hst16.kept (fun y hy hf => by have h1 := hy.1; have h2 := hy.2; have h3 := hf.1; have h4 := hf.2; omega)))
        have HO16_1_R_4 := Lib.hid (HO15_1_R_4.out.kept (hst16.kept (fun y hy hf => by have h1 := hy.1; have h2 := hy.2; have h3 := hf.1; have h4 := hf.2; omega)))
        have HO16_1_vR_5 := Lib.hid (HO15_1_vR_5.out.kept (hst16.kept (fun y hy hf => by have h1 := hy.1; have h2 := hy.2; have h3 := hf.1; have h4 := hf.2; omega)))
        have HO16_vList_6 := Lib.hid (HO15_vList_6.out.kept (hst16.kept (fun y hy hf => by have h1 := hy.1; have h2 := hy.2; have h3 := hf.1; have h4 := hf.2; omega)))
        have HO16_1_R_7 := Lib.hid ho16
        have HO16_1_vR_9 := Lib.hid (HO15_1_vR_9.out.kept (hst16.kept (fun y hy hf => by have h1 := hy.1; have h2 := hy.2; have h3 := hf.1; have h4 := hf.2; omega)))
        have HO16_vList_11 := Lib.hid (HO15_vList_11.out.kept (hst16.kept (fun y hy hf => by have h1 := hy.1; have h2 := hy.2; have h3 := hf.1; have h4 := hf.2; omega)))
        have HB16 := Lib.hid (HB15.out.trans (hst16.below (fun y hy => by have := hy.1; omega) HB15.out.size))
        clear bx15_paR_0 bx15_paR_1 sz15_paR bx15_w0_0 bx15_w0_1 sz15_w0 bx15_x0_0 bx15_x0_1 sz15_x0 bx15_g0_0 bx15_g0_1 sz15_g0 HO15_1_vR_2 HO15_vList_3 HO15_1_R_4 HO15_1_vR_5 HO15_vList_6 ho16 HO15_1_R_7 HO15_1_vR_9 HO15_vList_11 hw16 hst16 HB15
        go_wp2_with fail
        refine (laws_heldRelation (c1 := c1_R_7) (projRel vR vList) (by have h1 := rel_len hq_vR; have h2 := projRel_len vR vList; have h3 := lsz_zero vList; omega) 1 (by have h1 := rel_len hq_vR; have h2 := projRel_len vR vList; have h3 := lsz_zero vList; omega) _ (fun y hy => Nat.lt_of_lt_of_le (show y < w16.heap.size by have := hy.2; omega) (Below.size (by repeat (first | (with_reducible exact Below.refl _ _) | (with_reducible apply Below.drew) | (with_reducible refine below_drewN ?_ _) | (refine Below.setCell ?_ (by simp <;> omega) _) | (refine Below.alloc ?_ (by simp <;> omega) _)) : Below w16.heap.size w16 _))) (HO16_1_R_7.out.kept (Kept.of_below (by repeat (first | (with_reducible exact Below.refl _ _) | (with_reducible apply Below.drew) | (with_reducible refine below_drewN ?_ _) | (refine Below.setCell ?_ (by simp <;> omega) _) | (refine Below.alloc ?_ (by simp <;> omega) _)) : Below w16.heap.size w16 _) (fun y hy => by have := hy.2; omega)))).mono ?_
        rintro e w17 ⟨rfl, hb17⟩
        have hst17 : Below w16.heap.size w16 w17 := Below.trans (by repeat (first | (with_reducible exact Below.refl _ _) | (with_reducible apply Below.drew) | (with_reducible refine below_drewN ?_ _) | (refine Below.setCell ?_ (by simp <;> omega) _) | (refine Below.alloc ?_ (by simp <;> omega) _)) : Below w16.heap.size w16 _) (hb17.mono (Below.size (by repeat (first | (with_reducible exact Below.refl _ _) | (with_reducible apply Below.drew) | (with_reducible refine below_drewN ?_ _) | (refine Below.setCell ?_ (by simp <;> omega) _) | (refine Below.alloc ?_ (by simp <;> omega) _)) : Below w16.heap.size w16 _)))
        have hr17 : w16.heap.size ≤ w17.heap.size := Nat.le_trans (by first | exact Nat.le_refl _ | (simp; done) | (simp; omega) | (simp [World.setCell]; done) | (simp [World.setCell]; omega)) hb17.size
        have sz17_paR : w.heap.size < w17.heap.size := Nat.lt_of_lt_of_le sz16_paR hst17.size
        have bx17_paR_0 : w17.cell? ⟨w.heap.size, 0, none⟩ = some (.int .i64 vR.fN) := (hst17.cell (p := ⟨w.heap.size, 0, none⟩) sz16_paR).trans bx16_paR_0
        have bx17_paR_1 : w17.cell? ⟨w.heap.size, 1, none⟩ = some (.slice a1_vR vR.fRows.length c1_vR) := (hst17.cell (p := ⟨w.heap.size, 1, none⟩) sz16_paR).trans bx16_paR_1
        have sz17_w0 : w4.heap.size < w17.heap.size := Nat.lt_of_lt_of_le sz16_w0 hst17.size
        have bx17_w0_0 : w17.cell? ⟨w4.heap.size, 0, none⟩ = some (.int .i64 (projRel vR vList).fN) := (hst17.cell (p := ⟨w4.heap.size, 0, none⟩) sz16_w0).trans bx16_w0_0
        have bx17_w0_1 : w17.cell? ⟨w4.heap.size, 1, none⟩ = some (.slice a1_R_4 (projRel vR vList).fRows.length c1_R_4) := (hst17.cell (p := ⟨w4.heap.size, 1, none⟩) sz16_w0).trans bx16_w0_1
        have sz17_x0 : w5.heap.size < w17.heap.size := Nat.lt_of_lt_of_le sz16_x0 hst17.size
        have bx17_x0_0 : w17.cell? ⟨w5.heap.size, 0, none⟩ = some (.int .i64 vR.fN) := (hst17.cell (p := ⟨w5.heap.size, 0, none⟩) sz16_x0).trans bx16_x0_0
        have bx17_x0_1 : w17.cell? ⟨w5.heap.size, 1, none⟩ = some (.slice a1_vR_5 vR.fRows.length c1_vR_5) := (hst17.cell (p := ⟨w5.heap.size, 1, none⟩) sz16_x0).trans bx16_x0_1
        have sz17_g0 : w7.heap.size < w17.heap.size := Nat.lt_of_lt_of_le sz16_g0 hst17.size
        have bx17_g0_0 : w17.cell? ⟨w7.heap.size, 0, none⟩ = some (.int .i64 (projRel vR vList).fN) := (hst17.cell (p := ⟨w7.heap.size, 0, none⟩) sz16_g0).trans bx16_g0_0
        have bx17_g0_1 : w17.cell? ⟨w7.heap.size, 1, none⟩ = some (.slice a1_R_7 (projRel vR vList).fRows.length c1_R_7) := (hst17.cell (p := ⟨w7.heap.size, 1, none⟩) sz16_g0).trans bx16_g0_1
        have HO17_1_vR_2 := Lib.hid (HO16_1_vR_2.out.kept (Kept.of_below_all hst17))
        have HO17_vList_3 := Lib.hid (HO16_vList_3.out.kept (Kept.of_below_all hst17))
        have HO17_1_R_4 := Lib.hid (HO16_1_R_4.out.kept (Kept.of_below_all hst17))
        have HO17_1_vR_5 := Lib.hid (HO16_1_vR_5.out.kept (Kept.of_below_all hst17))
        have HO17_vList_6 := Lib.hid (HO16_vList_6.out.kept (Kept.of_below_all hst17))
        have HO17_1_R_7 := Lib.hid (HO16_1_R_7.out.kept (Kept.of_below_all hst17))
        have HO17_1_vR_9 := Lib.hid (HO16_1_vR_9.out.kept (Kept.of_below_all hst17))
        have HO17_vList_11 := Lib.hid (HO16_vList_11.out.kept (Kept.of_below_all hst17))
        have HB17 := Lib.hid (HB16.out.trans (hst17.mono HB16.out.size))
        clear bx16_paR_0 bx16_paR_1 sz16_paR bx16_w0_0 bx16_w0_1 sz16_w0 bx16_x0_0 bx16_x0_1 sz16_x0 bx16_g0_0 bx16_g0_1 sz16_g0 HO16_1_vR_2 HO16_vList_3 HO16_1_R_4 HO16_1_vR_5 HO16_vList_6 HO16_1_R_7 HO16_1_vR_9 HO16_vList_11 hb17 hst17 HB16
        go_wp2_with fail
        refine (laws_toRelation (c1 := c1_vR) vR hq_vR _ (Below.size (by repeat (first | (with_reducible exact Below.refl _ _) | (with_reducible apply Below.drew) | (with_reducible refine below_drewN ?_ _) | (refine Below.setCell ?_ (by simp <;> omega) _) | (refine Below.alloc ?_ (by simp <;> omega) _)) : Below w17.heap.size w17 _)) ((HS_1_vR.out.later (HB17.out.trans ((by repeat (first | (with_reducible exact Below.refl _ _) | (with_reducible apply Below.drew) | (with_reducible refine below_drewN ?_ _) | (refine Below.setCell ?_ (by simp <;> omega) _) | (refine Below.alloc ?_ (by simp <;> omega) _)) : Below w17.heap.size w17 _).mono HB17.out.size)) (Nat.le_refl _)).mono (Nat.le_refl _) HB17.out.size)).mono ?_
        rintro e w18 ⟨a1_vR_18, c1_vR_18, rfl, ho18, hb18⟩
        have hst18 : Below w17.heap.size w17 w18 := Below.trans (by repeat (first | (with_reducible exact Below.refl _ _) | (with_reducible apply Below.drew) | (with_reducible refine below_drewN ?_ _) | (refine Below.setCell ?_ (by simp <;> omega) _) | (refine Below.alloc ?_ (by simp <;> omega) _)) : Below w17.heap.size w17 _) (hb18.mono (Below.size (by repeat (first | (with_reducible exact Below.refl _ _) | (with_reducible apply Below.drew) | (with_reducible refine below_drewN ?_ _) | (refine Below.setCell ?_ (by simp <;> omega) _) | (refine Below.alloc ?_ (by simp <;> omega) _)) : Below w17.heap.size w17 _)))
        have hr18 : w17.heap.size ≤ w18.heap.size := Nat.le_trans (by first | exact Nat.le_refl _ | (simp; done) | (simp; omega) | (simp [World.setCell]; done) | (simp [World.setCell]; omega)) hb18.size
        have sz18_paR : w.heap.size < w18.heap.size := Nat.lt_of_lt_of_le sz17_paR hst18.size
        have bx18_paR_0 : w18.cell? ⟨w.heap.size, 0, none⟩ = some (.int .i64 vR.fN) := (hst18.cell (p := ⟨w.heap.size, 0, none⟩) sz17_paR).trans bx17_paR_0
        have bx18_paR_1 : w18.cell? ⟨w.heap.size, 1, none⟩ = some (.slice a1_vR vR.fRows.length c1_vR) := (hst18.cell (p := ⟨w.heap.size, 1, none⟩) sz17_paR).trans bx17_paR_1
        have sz18_w0 : w4.heap.size < w18.heap.size := Nat.lt_of_lt_of_le sz17_w0 hst18.size
        have bx18_w0_0 : w18.cell? ⟨w4.heap.size, 0, none⟩ = some (.int .i64 (projRel vR vList).fN) := (hst18.cell (p := ⟨w4.heap.size, 0, none⟩) sz17_w0).trans bx17_w0_0
        have bx18_w0_1 : w18.cell? ⟨w4.heap.size, 1, none⟩ = some (.slice a1_R_4 (projRel vR vList).fRows.length c1_R_4) := (hst18.cell (p := ⟨w4.heap.size, 1, none⟩) sz17_w0).trans bx17_w0_1
        have sz18_x0 : w5.heap.size < w18.heap.size := Nat.lt_of_lt_of_le sz17_x0 hst18.size
        have bx18_x0_0 : w18.cell? ⟨w5.heap.size, 0, none⟩ = some (.int .i64 vR.fN) := (hst18.cell (p := ⟨w5.heap.size, 0, none⟩) sz17_x0).trans bx17_x0_0
        have bx18_x0_1 : w18.cell? ⟨w5.heap.size, 1, none⟩ = some (.slice a1_vR_5 vR.fRows.length c1_vR_5) := (hst18.cell (p := ⟨w5.heap.size, 1, none⟩) sz17_x0).trans bx17_x0_1
        have sz18_g0 : w7.heap.size < w18.heap.size := Nat.lt_of_lt_of_le sz17_g0 hst18.size
        have bx18_g0_0 : w18.cell? ⟨w7.heap.size, 0, none⟩ = some (.int .i64 (projRel vR vList).fN) := (hst18.cell (p := ⟨w7.heap.size, 0, none⟩) sz17_g0).trans bx17_g0_0
        have bx18_g0_1 : w18.cell? ⟨w7.heap.size, 1, none⟩ = some (.slice a1_R_7 (projRel vR vList).fRows.length c1_R_7) := (hst18.cell (p := ⟨w7.heap.size, 1, none⟩) sz17_g0).trans bx17_g0_1
        have HO18_1_vR_2 := Lib.hid (HO17_1_vR_2.out.kept (Kept.of_below_all hst18))
        have HO18_vList_3 := Lib.hid (HO17_vList_3.out.kept (Kept.of_below_all hst18))
        have HO18_1_R_4 := Lib.hid (HO17_1_R_4.out.kept (Kept.of_below_all hst18))
        have HO18_1_vR_5 := Lib.hid (HO17_1_vR_5.out.kept (Kept.of_below_all hst18))
        have HO18_vList_6 := Lib.hid (HO17_vList_6.out.kept (Kept.of_below_all hst18))
        have HO18_1_R_7 := Lib.hid (HO17_1_R_7.out.kept (Kept.of_below_all hst18))
        have HO18_1_vR_9 := Lib.hid (HO17_1_vR_9.out.kept (Kept.of_below_all hst18))
        have HO18_vList_11 := Lib.hid (HO17_vList_11.out.kept (Kept.of_below_all hst18))
        have HO18_1_vR_18 := Lib.hid (show Own w18 (fun y => w17.heap.size ≤ y ∧ y < w18.heap.size) (.sl 1 vR.fRows.length (fun k => ictI (vR.fRows.getD k default))) (.slice a1_vR_18 vR.fRows.length c1_vR_18) from Own.sub (F := fun y => _ ≤ y ∧ y < _) (OwnR.at ho18 1 (by decide)) (fun y hy => ⟨Nat.le_trans (by first | exact Nat.le_refl _ | (simp; done) | (simp; omega) | (simp [World.setCell]; done) | (simp [World.setCell]; omega)) hy.1, hy.2⟩))
        have HB18 := Lib.hid (HB17.out.trans (hst18.mono HB17.out.size))
        clear bx17_paR_0 bx17_paR_1 sz17_paR bx17_w0_0 bx17_w0_1 sz17_w0 bx17_x0_0 bx17_x0_1 sz17_x0 bx17_g0_0 bx17_g0_1 sz17_g0 HO17_1_vR_2 HO17_vList_3 HO17_1_R_4 HO17_1_vR_5 HO17_vList_6 HO17_1_R_7 HO17_1_vR_9 HO17_vList_11 ho18 hb18 hst18 HB17
        go_wp2_with fail
        refine (laws_toIntS (cap := c_vList) vList hq_vList _ (Below.size (by repeat (first | (with_reducible exact Below.refl _ _) | (with_reducible apply Below.drew) | (with_reducible refine below_drewN ?_ _) | (refine Below.setCell ?_ (by simp <;> omega) _) | (refine Below.alloc ?_ (by simp <;> omega) _)) : Below w18.heap.size w18 _)) ((HS_vList.out.later (HB18.out.trans ((by repeat (first | (with_reducible exact Below.refl _ _) | (with_reducible apply Below.drew) | (with_reducible refine below_drewN ?_ _) | (refine Below.setCell ?_ (by simp <;> omega) _) | (refine Below.alloc ?_ (by simp <;> omega) _)) : Below w18.heap.size w18 _).mono HB18.out.size)) (Nat.le_refl _)).mono (Nat.le_refl _) HB18.out.size)).mono ?_
        rintro e w19 ⟨a_vList_19, c_vList_19, rfl, ho19, hb19⟩
        have hst19 : Below w18.heap.size w18 w19 := Below.trans (by repeat (first | (with_reducible exact Below.refl _ _) | (with_reducible apply Below.drew) | (with_reducible refine below_drewN ?_ _) | (refine Below.setCell ?_ (by simp <;> omega) _) | (refine Below.alloc ?_ (by simp <;> omega) _)) : Below w18.heap.size w18 _) (hb19.mono (Below.size (by repeat (first | (with_reducible exact Below.refl _ _) | (with_reducible apply Below.drew) | (with_reducible refine below_drewN ?_ _) | (refine Below.setCell ?_ (by simp <;> omega) _) | (refine Below.alloc ?_ (by simp <;> omega) _)) : Below w18.heap.size w18 _)))
        have hr19 : w18.heap.size ≤ w19.heap.size := Nat.le_trans (by first | exact Nat.le_refl _ | (simp; done) | (simp; omega) | (simp [World.setCell]; done) | (simp [World.setCell]; omega)) hb19.size
        have sz19_paR : w.heap.size < w19.heap.size := Nat.lt_of_lt_of_le sz18_paR hst19.size
        have bx19_paR_0 : w19.cell? ⟨w.heap.size, 0, none⟩ = some (.int .i64 vR.fN) := (hst19.cell (p := ⟨w.heap.size, 0, none⟩) sz18_paR).trans bx18_paR_0
        have bx19_paR_1 : w19.cell? ⟨w.heap.size, 1, none⟩ = some (.slice a1_vR vR.fRows.length c1_vR) := (hst19.cell (p := ⟨w.heap.size, 1, none⟩) sz18_paR).trans bx18_paR_1
        have sz19_w0 : w4.heap.size < w19.heap.size := Nat.lt_of_lt_of_le sz18_w0 hst19.size
        have bx19_w0_0 : w19.cell? ⟨w4.heap.size, 0, none⟩ = some (.int .i64 (projRel vR vList).fN) := (hst19.cell (p := ⟨w4.heap.size, 0, none⟩) sz18_w0).trans bx18_w0_0
        have bx19_w0_1 : w19.cell? ⟨w4.heap.size, 1, none⟩ = some (.slice a1_R_4 (projRel vR vList).fRows.length c1_R_4) := (hst19.cell (p := ⟨w4.heap.size, 1, none⟩) sz18_w0).trans bx18_w0_1
        have sz19_x0 : w5.heap.size < w19.heap.size := Nat.lt_of_lt_of_le sz18_x0 hst19.size
        have bx19_x0_0 : w19.cell? ⟨w5.heap.size, 0, none⟩ = some (.int .i64 vR.fN) := (hst19.cell (p := ⟨w5.heap.size, 0, none⟩) sz18_x0).trans bx18_x0_0
        have bx19_x0_1 : w19.cell? ⟨w5.heap.size, 1, none⟩ = some (.slice a1_vR_5 vR.fRows.length c1_vR_5) := (hst19.cell (p := ⟨w5.heap.size, 1, none⟩) sz18_x0).trans bx18_x0_1
        have sz19_g0 : w7.heap.size < w19.heap.size := Nat.lt_of_lt_of_le sz18_g0 hst19.size
        have bx19_g0_0 : w19.cell? ⟨w7.heap.size, 0, none⟩ = some (.int .i64 (projRel vR vList).fN) := (hst19.cell (p := ⟨w7.heap.size, 0, none⟩) sz18_g0).trans bx18_g0_0
        have bx19_g0_1 : w19.cell? ⟨w7.heap.size, 1, none⟩ = some (.slice a1_R_7 (projRel vR vList).fRows.length c1_R_7) := (hst19.cell (p := ⟨w7.heap.size, 1, none⟩) sz18_g0).trans bx18_g0_1
        have HO19_1_vR_2 := Lib.hid (HO18_1_vR_2.out.kept (Kept.of_below_all hst19))
        have HO19_vList_3 := Lib.hid (HO18_vList_3.out.kept (Kept.of_below_all hst19))
        have HO19_1_R_4 := Lib.hid (HO18_1_R_4.out.kept (Kept.of_below_all hst19))
        have HO19_1_vR_5 := Lib.hid (HO18_1_vR_5.out.kept (Kept.of_below_all hst19))
        have HO19_vList_6 := Lib.hid (HO18_vList_6.out.kept (Kept.of_below_all hst19))
        have HO19_1_R_7 := Lib.hid (HO18_1_R_7.out.kept (Kept.of_below_all hst19))
        have HO19_1_vR_9 := Lib.hid (HO18_1_vR_9.out.kept (Kept.of_below_all hst19))
        have HO19_vList_11 := Lib.hid (HO18_vList_11.out.kept (Kept.of_below_all hst19))
        have HO19_1_vR_18 := Lib.hid (HO18_1_vR_18.out.kept (Kept.of_below_all hst19))
        have HO19_vList_19 := Lib.hid (show Own w19 (fun y => w18.heap.size ≤ y ∧ y < w19.heap.size) (.sl 1 vList.length (fun k => ictI (vList.getD k default))) (.slice a_vList_19 vList.length c_vList_19) from Own.sub (F := fun y => _ ≤ y ∧ y < _) ho19 (fun y hy => ⟨Nat.le_trans (by first | exact Nat.le_refl _ | (simp; done) | (simp; omega) | (simp [World.setCell]; done) | (simp [World.setCell]; omega)) hy.1, hy.2⟩))
        have HB19 := Lib.hid (HB18.out.trans (hst19.mono HB18.out.size))
        clear bx18_paR_0 bx18_paR_1 sz18_paR bx18_w0_0 bx18_w0_1 sz18_w0 bx18_x0_0 bx18_x0_1 sz18_x0 bx18_g0_0 bx18_g0_1 sz18_g0 HO18_1_vR_2 HO18_vList_3 HO18_1_R_4 HO18_1_vR_5 HO18_vList_6 HO18_1_R_7 HO18_1_vR_9 HO18_vList_11 HO18_1_vR_18 ho19 hb19 hst19 HB18
        go_wp2_with fail
        refine (impl_ProjectRelation (c0_0 := c1_vR_18) (c1_0 := c_vList_19) vR OK_vR.out hq_vR vList OK_vList.out hq_vList _ (Below.size (by repeat (first | (with_reducible exact Below.refl _ _) | (with_reducible apply Below.drew) | (with_reducible refine below_drewN ?_ _) | (refine Below.setCell ?_ (by simp <;> omega) _) | (refine Below.alloc ?_ (by simp <;> omega) _)) : Below w19.heap.size w19 _)) ((Sl.of (HO19_1_vR_18.out.lies (lo := 0) (hi := w19.heap.size) (fun y hy => ⟨Nat.zero_le _, by have := hy.2; omega⟩))).later (by repeat (first | (with_reducible exact Below.refl _ _) | (with_reducible apply Below.drew) | (with_reducible refine below_drewN ?_ _) | (refine Below.setCell ?_ (by simp <;> omega) _) | (refine Below.alloc ?_ (by simp <;> omega) _)) : Below w19.heap.size w19 _) (Nat.le_refl _)) ((Sl.of (HO19_vList_19.out.lies (lo := 0) (hi := w19.heap.size) (fun y hy => ⟨Nat.zero_le _, by have := hy.2; omega⟩))).later (by repeat (first | (with_reducible exact Below.refl _ _) | (with_reducible apply Below.drew) | (with_reducible refine below_drewN ?_ _) | (refine Below.setCell ?_ (by simp <;> omega) _) | (refine Below.alloc ?_ (by simp <;> omega) _)) : Below w19.heap.size w19 _) (Nat.le_refl _))).mono ?_
        rintro e w20 ⟨a1_R_20, c1_R_20, rfl, ho20, hb20⟩
        have hst20 : Below w19.heap.size w19 w20 := Below.trans (by repeat (first | (with_reducible exact Below.refl _ _) | (with_reducible apply Below.drew) | (with_reducible refine below_drewN ?_ _) | (refine Below.setCell ?_ (by simp <;> omega) _) | (refine Below.alloc ?_ (by simp <;> omega) _)) : Below w19.heap.size w19 _) (hb20.mono (Below.size (by repeat (first | (with_reducible exact Below.refl _ _) | (with_reducible apply Below.drew) | (with_reducible refine below_drewN ?_ _) | (refine Below.setCell ?_ (by simp <;> omega) _) | (refine Below.alloc ?_ (by simp <;> omega) _)) : Below w19.heap.size w19 _)))
        have hr20 : w19.heap.size ≤ w20.heap.size := Nat.le_trans (by first | exact Nat.le_refl _ | (simp; done) | (simp; omega) | (simp [World.setCell]; done) | (simp [World.setCell]; omega)) hb20.size
        have sz20_paR : w.heap.size < w20.heap.size := Nat.lt_of_lt_of_le sz19_paR hst20.size
        have bx20_paR_0 : w20.cell? ⟨w.heap.size, 0, none⟩ = some (.int .i64 vR.fN) := (hst20.cell (p := ⟨w.heap.size, 0, none⟩) sz19_paR).trans bx19_paR_0
        have bx20_paR_1 : w20.cell? ⟨w.heap.size, 1, none⟩ = some (.slice a1_vR vR.fRows.length c1_vR) := (hst20.cell (p := ⟨w.heap.size, 1, none⟩) sz19_paR).trans bx19_paR_1
        have sz20_w0 : w4.heap.size < w20.heap.size := Nat.lt_of_lt_of_le sz19_w0 hst20.size
        have bx20_w0_0 : w20.cell? ⟨w4.heap.size, 0, none⟩ = some (.int .i64 (projRel vR vList).fN) := (hst20.cell (p := ⟨w4.heap.size, 0, none⟩) sz19_w0).trans bx19_w0_0
        have bx20_w0_1 : w20.cell? ⟨w4.heap.size, 1, none⟩ = some (.slice a1_R_4 (projRel vR vList).fRows.length c1_R_4) := (hst20.cell (p := ⟨w4.heap.size, 1, none⟩) sz19_w0).trans bx19_w0_1
        have sz20_x0 : w5.heap.size < w20.heap.size := Nat.lt_of_lt_of_le sz19_x0 hst20.size
        have bx20_x0_0 : w20.cell? ⟨w5.heap.size, 0, none⟩ = some (.int .i64 vR.fN) := (hst20.cell (p := ⟨w5.heap.size, 0, none⟩) sz19_x0).trans bx19_x0_0
        have bx20_x0_1 : w20.cell? ⟨w5.heap.size, 1, none⟩ = some (.slice a1_vR_5 vR.fRows.length c1_vR_5) := (hst20.cell (p := ⟨w5.heap.size, 1, none⟩) sz19_x0).trans bx19_x0_1
        have sz20_g0 : w7.heap.size < w20.heap.size := Nat.lt_of_lt_of_le sz19_g0 hst20.size
        have bx20_g0_0 : w20.cell? ⟨w7.heap.size, 0, none⟩ = some (.int .i64 (projRel vR vList).fN) := (hst20.cell (p := ⟨w7.heap.size, 0, none⟩) sz19_g0).trans bx19_g0_0
        have bx20_g0_1 : w20.cell? ⟨w7.heap.size, 1, none⟩ = some (.slice a1_R_7 (projRel vR vList).fRows.length c1_R_7) := (hst20.cell (p := ⟨w7.heap.size, 1, none⟩) sz19_g0).trans bx19_g0_1
        have HO20_1_vR_2 := Lib.hid (HO19_1_vR_2.out.kept (Kept.of_below_all hst20))
        have HO20_vList_3 := Lib.hid (HO19_vList_3.out.kept (Kept.of_below_all hst20))
        have HO20_1_R_4 := Lib.hid (HO19_1_R_4.out.kept (Kept.of_below_all hst20))
        have HO20_1_vR_5 := Lib.hid (HO19_1_vR_5.out.kept (Kept.of_below_all hst20))
        have HO20_vList_6 := Lib.hid (HO19_vList_6.out.kept (Kept.of_below_all hst20))
        have HO20_1_R_7 := Lib.hid (HO19_1_R_7.out.kept (Kept.of_below_all hst20))
        have HO20_1_vR_9 := Lib.hid (HO19_1_vR_9.out.kept (Kept.of_below_all hst20))
        have HO20_vList_11 := Lib.hid (HO19_vList_11.out.kept (Kept.of_below_all hst20))
        have HO20_1_vR_18 := Lib.hid (HO19_1_vR_18.out.kept (Kept.of_below_all hst20))
        have HO20_vList_19 := Lib.hid (HO19_vList_19.out.kept (Kept.of_below_all hst20))
        have HO20_1_R_20 := Lib.hid (show Own w20 (fun y => w19.heap.size ≤ y ∧ y < w20.heap.size) (.sl 1 (projRel vR vList).fRows.length (fun k => ictI ((projRel vR vList).fRows.getD k default))) (.slice a1_R_20 (projRel vR vList).fRows.length c1_R_20) from Own.sub (F := fun y => _ ≤ y ∧ y < _) ho20 (fun y hy => ⟨Nat.le_trans (by first | exact Nat.le_refl _ | (simp; done) | (simp; omega) | (simp [World.setCell]; done) | (simp [World.setCell]; omega)) hy.1, hy.2⟩))
        have HB20 := Lib.hid (HB19.out.trans (hst20.mono HB19.out.size))
        clear bx19_paR_0 bx19_paR_1 sz19_paR bx19_w0_0 bx19_w0_1 sz19_w0 bx19_x0_0 bx19_x0_1 sz19_x0 bx19_g0_0 bx19_g0_1 sz19_g0 HO19_1_vR_2 HO19_vList_3 HO19_1_R_4 HO19_1_vR_5 HO19_vList_6 HO19_1_R_7 HO19_1_vR_9 HO19_vList_11 HO19_1_vR_18 HO19_vList_19 ho20 hb20 hst20 HB19
        go_wp2_with fail
        refine (laws_eqRelation (c1 := c1_R_20) (c1q := c1_R_4) (projRel vR vList) hq_R _ (Below.size (by repeat (first | (with_reducible exact Below.refl _ _) | (with_reducible apply Below.drew) | (with_reducible refine below_drewN ?_ _) | (refine Below.setCell ?_ (by simp <;> omega) _) | (refine Below.alloc ?_ (by simp <;> omega) _)) : Below w20.heap.size w20 _)) (Below.size (by repeat (first | (with_reducible exact Below.refl _ _) | (with_reducible apply Below.drew) | (with_reducible refine below_drewN ?_ _) | (refine Below.setCell ?_ (by simp <;> omega) _) | (refine Below.alloc ?_ (by simp <;> omega) _)) : Below w20.heap.size w20 _)) ((Sl.of (HO20_1_R_20.out.lies (lo := 0) (hi := w20.heap.size) (fun y hy => ⟨Nat.zero_le _, by have := hy.2; omega⟩))).later (by repeat (first | (with_reducible exact Below.refl _ _) | (with_reducible apply Below.drew) | (with_reducible refine below_drewN ?_ _) | (refine Below.setCell ?_ (by simp <;> omega) _) | (refine Below.alloc ?_ (by simp <;> omega) _)) : Below w20.heap.size w20 _) (Nat.le_refl _)) ((Sl.of (HO20_1_R_4.out.lies (lo := 0) (hi := w20.heap.size) (fun y hy => ⟨Nat.zero_le _, by have := hy.2; omega⟩))).later (by repeat (first | (with_reducible exact Below.refl _ _) | (with_reducible apply Below.drew) | (with_reducible refine below_drewN ?_ _) | (refine Below.setCell ?_ (by simp <;> omega) _) | (refine Below.alloc ?_ (by simp <;> omega) _)) : Below w20.heap.size w20 _) (Nat.le_refl _))).mono ?_
        rintro e w21 ⟨rfl, hb21⟩
        have hst21 : Below w20.heap.size w20 w21 := Below.trans (by repeat (first | (with_reducible exact Below.refl _ _) | (with_reducible apply Below.drew) | (with_reducible refine below_drewN ?_ _) | (refine Below.setCell ?_ (by simp <;> omega) _) | (refine Below.alloc ?_ (by simp <;> omega) _)) : Below w20.heap.size w20 _) (hb21.mono (Below.size (by repeat (first | (with_reducible exact Below.refl _ _) | (with_reducible apply Below.drew) | (with_reducible refine below_drewN ?_ _) | (refine Below.setCell ?_ (by simp <;> omega) _) | (refine Below.alloc ?_ (by simp <;> omega) _)) : Below w20.heap.size w20 _)))
        have hr21 : w20.heap.size + 1 ≤ w21.heap.size := Nat.le_trans (by first | exact Nat.le_refl _ | (simp; done) | (simp; omega) | (simp [World.setCell]; done) | (simp [World.setCell]; omega)) hb21.size
        have sz21_paR : w.heap.size < w21.heap.size := Nat.lt_of_lt_of_le sz20_paR hst21.size
        have bx21_paR_0 : w21.cell? ⟨w.heap.size, 0, none⟩ = some (.int .i64 vR.fN) := (hst21.cell (p := ⟨w.heap.size, 0, none⟩) sz20_paR).trans bx20_paR_0
        have bx21_paR_1 : w21.cell? ⟨w.heap.size, 1, none⟩ = some (.slice a1_vR vR.fRows.length c1_vR) := (hst21.cell (p := ⟨w.heap.size, 1, none⟩) sz20_paR).trans bx20_paR_1
        have sz21_w0 : w4.heap.size < w21.heap.size := Nat.lt_of_lt_of_le sz20_w0 hst21.size
        have bx21_w0_0 : w21.cell? ⟨w4.heap.size, 0, none⟩ = some (.int .i64 (projRel vR vList).fN) := (hst21.cell (p := ⟨w4.heap.size, 0, none⟩) sz20_w0).trans bx20_w0_0
        have bx21_w0_1 : w21.cell? ⟨w4.heap.size, 1, none⟩ = some (.slice a1_R_4 (projRel vR vList).fRows.length c1_R_4) := (hst21.cell (p := ⟨w4.heap.size, 1, none⟩) sz20_w0).trans bx20_w0_1
        have sz21_x0 : w5.heap.size < w21.heap.size := Nat.lt_of_lt_of_le sz20_x0 hst21.size
        have bx21_x0_0 : w21.cell? ⟨w5.heap.size, 0, none⟩ = some (.int .i64 vR.fN) := (hst21.cell (p := ⟨w5.heap.size, 0, none⟩) sz20_x0).trans bx20_x0_0
        have bx21_x0_1 : w21.cell? ⟨w5.heap.size, 1, none⟩ = some (.slice a1_vR_5 vR.fRows.length c1_vR_5) := (hst21.cell (p := ⟨w5.heap.size, 1, none⟩) sz20_x0).trans bx20_x0_1
        have sz21_g0 : w7.heap.size < w21.heap.size := Nat.lt_of_lt_of_le sz20_g0 hst21.size
        have bx21_g0_0 : w21.cell? ⟨w7.heap.size, 0, none⟩ = some (.int .i64 (projRel vR vList).fN) := (hst21.cell (p := ⟨w7.heap.size, 0, none⟩) sz20_g0).trans bx20_g0_0
        have bx21_g0_1 : w21.cell? ⟨w7.heap.size, 1, none⟩ = some (.slice a1_R_7 (projRel vR vList).fRows.length c1_R_7) := (hst21.cell (p := ⟨w7.heap.size, 1, none⟩) sz20_g0).trans bx20_g0_1
        have sz21_h0 : w20.heap.size < w21.heap.size := Nat.lt_of_lt_of_le (by first | omega | (simp; done) | (simp; omega) | (simp [World.setCell]; omega)) hb21.size
        have bx21_h0_0 : w21.cell? ⟨w20.heap.size, 0, none⟩ = some (.int .i64 (projRel vR vList).fN) := (hb21.cell (p := ⟨w20.heap.size, 0, none⟩) (by first | omega | (simp; done) | (simp; omega) | (simp [World.setCell]; omega))).trans (by go_simp)
        have bx21_h0_1 : w21.cell? ⟨w20.heap.size, 1, none⟩ = some (.slice a1_R_20 (projRel vR vList).fRows.length c1_R_20) := (hb21.cell (p := ⟨w20.heap.size, 1, none⟩) (by first | omega | (simp; done) | (simp; omega) | (simp [World.setCell]; omega))).trans (by go_simp)
        have HO21_1_vR_2 := Lib.hid (HO20_1_vR_2.out.kept (Kept.of_below_all hst21))
        have HO21_vList_3 := Lib.hid (HO20_vList_3.out.kept (Kept.of_below_all hst21))
        have HO21_1_R_4 := Lib.hid (HO20_1_R_4.out.kept (Kept.of_below_all hst21))
        have HO21_1_vR_5 := Lib.hid (HO20_1_vR_5.out.kept (Kept.of_below_all hst21))
        have HO21_vList_6 := Lib.hid (HO20_vList_6.out.kept (Kept.of_below_all hst21))
        have HO21_1_R_7 := Lib.hid (HO20_1_R_7.out.kept (Kept.of_below_all hst21))
        have HO21_1_vR_9 := Lib.hid (HO20_1_vR_9.out.kept (Kept.of_below_all hst21))
        have HO21_vList_11 := Lib.hid (HO20_vList_11.out.kept (Kept.of_below_all hst21))
        have HO21_1_vR_18 := Lib.hid (HO20_1_vR_18.out.kept (Kept.of_below_all hst21))
        have HO21_vList_19 := Lib.hid (HO20_vList_19.out.kept (Kept.of_below_all hst21))
        have HO21_1_R_20 := Lib.hid (HO20_1_R_20.out.kept (Kept.of_below_all hst21))
        have HB21 := Lib.hid (HB20.out.trans (hst21.mono HB20.out.size))
        clear bx20_paR_0 bx20_paR_1 sz20_paR bx20_w0_0 bx20_w0_1 sz20_w0 bx20_x0_0 bx20_x0_1 sz20_x0 bx20_g0_0 bx20_g0_1 sz20_g0 HO20_1_vR_2 HO20_vList_3 HO20_1_R_4 HO20_1_vR_5 HO20_vList_6 HO20_1_R_7 HO20_1_vR_9 HO20_vList_11 HO20_1_vR_18 HO20_vList_19 HO20_1_R_20 hb21 hst21 HB20
        go_wp2_with fail
        refine (laws_heldRelation (c1 := c1_R_7) (projRel vR vList) (by have h1 := rel_len hq_vR; have h2 := projRel_len vR vList; have h3 := lsz_zero vList; omega) 1 (by have h1 := rel_len hq_vR; have h2 := projRel_len vR vList; have h3 := lsz_zero vList; omega) _ (fun y hy => Nat.lt_of_lt_of_le (show y < w21.heap.size by have := hy.2; omega) (Below.size (by repeat (first | (with_reducible exact Below.refl _ _) | (with_reducible apply Below.drew) | (with_reducible refine below_drewN ?_ _) | (refine Below.setCell ?_ (by simp <;> omega) _) | (refine Below.alloc ?_ (by simp <;> omega) _)) : Below w21.heap.size w21 _))) (HO21_1_R_7.out.kept (Kept.of_below (by repeat (first | (with_reducible exact Below.refl _ _) | (with_reducible apply Below.drew) | (with_reducible refine below_drewN ?_ _) | (refine Below.setCell ?_ (by simp <;> omega) _) | (refine Below.alloc ?_ (by simp <;> omega) _)) : Below w21.heap.size w21 _) (fun y hy => by have := hy.2; omega)))).mono ?_
        rintro e w22 ⟨rfl, hb22⟩
        have hst22 : Below w21.heap.size w21 w22 := Below.trans (by repeat (first | (with_reducible exact Below.refl _ _) | (with_reducible apply Below.drew) | (with_reducible refine below_drewN ?_ _) | (refine Below.setCell ?_ (by simp <;> omega) _) | (refine Below.alloc ?_ (by simp <;> omega) _)) : Below w21.heap.size w21 _) (hb22.mono (Below.size (by repeat (first | (with_reducible exact Below.refl _ _) | (with_reducible apply Below.drew) | (with_reducible refine below_drewN ?_ _) | (refine Below.setCell ?_ (by simp <;> omega) _) | (refine Below.alloc ?_ (by simp <;> omega) _)) : Below w21.heap.size w21 _)))
        have hr22 : w21.heap.size ≤ w22.heap.size := Nat.le_trans (by first | exact Nat.le_refl _ | (simp; done) | (simp; omega) | (simp [World.setCell]; done) | (simp [World.setCell]; omega)) hb22.size
        have sz22_paR : w.heap.size < w22.heap.size := Nat.lt_of_lt_of_le sz21_paR hst22.size
        have bx22_paR_0 : w22.cell? ⟨w.heap.size, 0, none⟩ = some (.int .i64 vR.fN) := (hst22.cell (p := ⟨w.heap.size, 0, none⟩) sz21_paR).trans bx21_paR_0
        have bx22_paR_1 : w22.cell? ⟨w.heap.size, 1, none⟩ = some (.slice a1_vR vR.fRows.length c1_vR) := (hst22.cell (p := ⟨w.heap.size, 1, none⟩) sz21_paR).trans bx21_paR_1
        have sz22_w0 : w4.heap.size < w22.heap.size := Nat.lt_of_lt_of_le sz21_w0 hst22.size
        have bx22_w0_0 : w22.cell? ⟨w4.heap.size, 0, none⟩ = some (.int .i64 (projRel vR vList).fN) := (hst22.cell (p := ⟨w4.heap.size, 0, none⟩) sz21_w0).trans bx21_w0_0
        have bx22_w0_1 : w22.cell? ⟨w4.heap.size, 1, none⟩ = some (.slice a1_R_4 (projRel vR vList).fRows.length c1_R_4) := (hst22.cell (p := ⟨w4.heap.size, 1, none⟩) sz21_w0).trans bx21_w0_1
        have sz22_x0 : w5.heap.size < w22.heap.size := Nat.lt_of_lt_of_le sz21_x0 hst22.size
        have bx22_x0_0 : w22.cell? ⟨w5.heap.size, 0, none⟩ = some (.int .i64 vR.fN) := (hst22.cell (p := ⟨w5.heap.size, 0, none⟩) sz21_x0).trans bx21_x0_0
        have bx22_x0_1 : w22.cell? ⟨w5.heap.size, 1, none⟩ = some (.slice a1_vR_5 vR.fRows.length c1_vR_5) := (hst22.cell (p := ⟨w5.heap.size, 1, none⟩) sz21_x0).trans bx21_x0_1
        have sz22_g0 : w7.heap.size < w22.heap.size := Nat.lt_of_lt_of_le sz21_g0 hst22.size
        have bx22_g0_0 : w22.cell? ⟨w7.heap.size, 0, none⟩ = some (.int .i64 (projRel vR vList).fN) := (hst22.cell (p := ⟨w7.heap.size, 0, none⟩) sz21_g0).trans bx21_g0_0
        have bx22_g0_1 : w22.cell? ⟨w7.heap.size, 1, none⟩ = some (.slice a1_R_7 (projRel vR vList).fRows.length c1_R_7) := (hst22.cell (p := ⟨w7.heap.size, 1, none⟩) sz21_g0).trans bx21_g0_1
        have sz22_h0 : w20.heap.size < w22.heap.size := Nat.lt_of_lt_of_le sz21_h0 hst22.size
        have bx22_h0_0 : w22.cell? ⟨w20.heap.size, 0, none⟩ = some (.int .i64 (projRel vR vList).fN) := (hst22.cell (p := ⟨w20.heap.size, 0, none⟩) sz21_h0).trans bx21_h0_0
        have bx22_h0_1 : w22.cell? ⟨w20.heap.size, 1, none⟩ = some (.slice a1_R_20 (projRel vR vList).fRows.length c1_R_20) := (hst22.cell (p := ⟨w20.heap.size, 1, none⟩) sz21_h0).trans bx21_h0_1
        have HO22_1_vR_2 := Lib.hid (HO21_1_vR_2.out.kept (Kept.of_below_all hst22))
        have HO22_vList_3 := Lib.hid (HO21_vList_3.out.kept (Kept.of_below_all hst22))
        have HO22_1_R_4 := Lib.hid (HO21_1_R_4.out.kept (Kept.of_below_all hst22))
        have HO22_1_vR_5 := Lib.hid (HO21_1_vR_5.out.kept (Kept.of_below_all hst22))
        have HO22_vList_6 := Lib.hid (HO21_vList_6.out.kept (Kept.of_below_all hst22))
        have HO22_1_R_7 := Lib.hid (HO21_1_R_7.out.kept (Kept.of_below_all hst22))
        have HO22_1_vR_9 := Lib.hid (HO21_1_vR_9.out.kept (Kept.of_below_all hst22))
        have HO22_vList_11 := Lib.hid (HO21_vList_11.out.kept (Kept.of_below_all hst22))
        have HO22_1_vR_18 := Lib.hid (HO21_1_vR_18.out.kept (Kept.of_below_all hst22))
        have HO22_vList_19 := Lib.hid (HO21_vList_19.out.kept (Kept.of_below_all hst22))
        have HO22_1_R_20 := Lib.hid (HO21_1_R_20.out.kept (Kept.of_below_all hst22))
        have HB22 := Lib.hid (HB21.out.trans (hst22.mono HB21.out.size))
        clear bx21_paR_0 bx21_paR_1 sz21_paR bx21_w0_0 bx21_w0_1 sz21_w0 bx21_x0_0 bx21_x0_1 sz21_x0 bx21_g0_0 bx21_g0_1 sz21_g0 bx21_h0_0 bx21_h0_1 sz21_h0 HO21_1_vR_2 HO21_vList_3 HO21_1_R_4 HO21_1_vR_5 HO21_vList_6 HO21_1_R_7 HO21_1_vR_9 HO21_vList_11 HO21_1_vR_18 HO21_vList_19 HO21_1_R_20 hb22 hst22 HB21
        go_wp2
        go_ret
        exact ⟨rfl, HB22.out⟩

set_option maxRecDepth 100000 in
theorem lifted (os : Os) (started : os.Started) (H : Type) (enc : TypeId × Value → H) :
    ReturnsInHanded {} Try.checked os 5 .any (Rows.fnExactProjectRelationSpec.pre6 enc Try.prog Try.f5 Rows.fnExactProjectRelationRow.domain false) (Rows.fnExactProjectRelationSpec.post enc Try.prog Try.f5 false true false false) := by
  refine returnsInHanded_of_change_sized (C := Try.checked) own started (by kernel_rfl) Try.func5
    (ChangeSpec.witness6 (enc := enc) (C := Try.checked) false ⟨#[], #[.agg #[.int .i64 0, .slice none 0 0], .slice none 0 0], []⟩ 8 (by kernel_rfl) (by kernel_rfl) (by kernel_rfl) (by kernel_rfl)) ?_
  intro W base args ds gs before hval0 hW _ hsz0 _
  have hval : ∀ (j : Nat) t v, Try.f5.params[j]? = some t → args[j]? = some v → Value.okWide Try.prog W .any base t v := hval0
  obtain ⟨p, q, hA0, hV, hps, hfz, hnd⟩ := id hW
  have hA : DataW.TrodAll enc Try.prog W 0 (fun _ => true) true Try.f5.params.toList args.toList ds p := hA0
  have hsz : (DataW.weightsEach Try.prog (Try.f5.params.toList ++ Rows.fnExactProjectRelationSpec.plain.varTypes Try.prog) (ds ++ gs)).all (· ≤ reachBytes) = true := hsz0
  rw [Try.params5] at hA hval hsz
  obtain ⟨v0, vs0, d0, ds0, p0, q0, hargs, rfl, rfl, h0, r0⟩ := trodAll_cons hA
  obtain ⟨v1, vs1, d1, ds1, p1, q1, rfl, rfl, rfl, h1, r1⟩ := trodAll_cons r0
  obtain ⟨rfl, rfl, rfl⟩ := trodAll_nil r1
  obtain rfl : args = #[v0, v1] := by cases args; simp_all
  obtain ⟨vR, a1_vR, c1_vR, rfl, ok_vR, hs_1_vR⟩ := arg_relation (hval 0 24 v0 rfl rfl) h0
  obtain ⟨ax1, lx1, cx1, hx1⟩ := okWide_slice Try.underlying22 (hval 1 22 v1 rfl rfl)
  obtain ⟨vList, a_vList, c_vList, rfl, ok_vList, hs_vList⟩ := arg_intS hx1 h1
  refine (walk vR a1_vR c1_vR ok_vR vList a_vList c_vList ok_vList W hs_1_vR hs_vList).mono fun e W' ⟨he, hg⟩ => ?_
  subst he
  exact ⟨_, rfl, law_post laidOut (by kernel_rfl) rfl Try.underlying4 rfl rfl hW hg⟩

theorem said : Rows.FnExactProjectRelationSaid :=
  OpenClaim.holds_of_wide 5 Try.f5 rfl rfl rfl rfl rfl rfl rfl ⟨rfl, rfl, rfl, rfl, rfl⟩ rfl rfl rfl rfl rfl (by kernel_rfl) Try.func5 (by kernel_rfl)
    (of_decide_eq_true (by kernel_rfl)) (by unfold Func.isWrapper; first | (rw [if_pos (by decide +kernel)]; kernel_rfl) | (rw [if_neg (by decide +kernel)]; exact ⟨rfl, rfl⟩))
    (fun os started H enc _ => lifted os started H enc)
#print axioms said
end Go.Proofs.Ytnjkgdicaagbeaa.fnExactProjectRelation
