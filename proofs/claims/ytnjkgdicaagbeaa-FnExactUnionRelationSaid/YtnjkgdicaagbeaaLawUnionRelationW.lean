/-
  The law FnExactUnionRelation: for every two relations the program's UnionRelation answers as the model's, and its answer owns its memory. No condition.
-/
import Derived.Test.YtnjkgdicaagbeaaUnion
import Derived.Test.YtnjkgdicaagbeaaOwnAt
import Derived.Test.YtnjkgdicaagbeaaFree
import Derived.Deep.CutRange
import Derived.SizedLaws
namespace Go.Proofs.Ytnjkgdicaagbeaa.fnExactUnionRelation
open Go.ChangeShapes Go.WideShapes Go.ChangeAt Go.RowKit Go.WideMaps Go.WideElems
open Go.ChangeMaps (open_string)
open Go.Lib Go.Deep

set_option maxHeartbeats 3200000 in
set_option maxRecDepth 100000 in
theorem walk (vA : DRelation) (a1_vA : Option Addr) (c1_vA : Nat) (ok_vA : DRelation.ok vA) (vB : DRelation) (a1_vB : Option Addr) (c1_vB : Nat) (ok_vB : DRelation.ok vB) (w : World) (hs_1_vA : Sl 0 w.heap.size w 1 vA.fRows.length (fun k => ictI (vA.fRows.getD k default)) a1_vA) (hs_1_vB : Sl 0 w.heap.size w 1 vB.fRows.length (fun k => ictI (vB.fRows.getD k default)) a1_vB) :
    Calls Try.prog 3 #[.agg #[.int .i64 vA.fN, .slice a1_vA vA.fRows.length c1_vA], .agg #[.int .i64 vB.fN, .slice a1_vB vB.fRows.length c1_vB]] w fun e w' => e = .returned (.bool true) ∧ Below w.heap.size w w' := by
  have HS_1_vA := Lib.hid hs_1_vA
  clear hs_1_vA
  have OK_vA := Lib.hid ok_vA
  clear ok_vA
  have HS_1_vB := Lib.hid hs_1_vB
  clear hs_1_vB
  have OK_vB := Lib.hid ok_vB
  clear ok_vB
  by_cases h0 : 1048576 < ((DRelation.sz vA : Nat) : Int)
  · skip
    have hz := fun (hi : Nat) (w' : World) (hhi : hi ≤ w'.heap.size) (hs_1_vA : Sl 0 hi w' 1 vA.fRows.length (fun k => ictI (vA.fRows.getD k default)) a1_vA) => laws_szRelation (c1 := c1_vA) vA 1048576 (by omega) (by omega) OK_vA.out w' hhi hs_1_vA
    rw [szR_gt (by omega)] at hz
    have HZ_vA := Lib.hid hz
    clear hz
    go_enter Try.func3, Try.ntmps3
    go_wp2_with fail
    refine (HZ_vA.out w.heap.size _ (Below.size (by repeat (first | (with_reducible exact Below.refl _ _) | (with_reducible apply Below.drew) | (with_reducible refine below_drewN ?_ _) | (refine Below.setCell ?_ (by simp <;> omega) _) | (refine Below.alloc ?_ (by simp <;> omega) _)) : Below w.heap.size w _)) ((HS_1_vA.out.later ((Below.refl w.heap.size w).trans ((by repeat (first | (with_reducible exact Below.refl _ _) | (with_reducible apply Below.drew) | (with_reducible refine below_drewN ?_ _) | (refine Below.setCell ?_ (by simp <;> omega) _) | (refine Below.alloc ?_ (by simp <;> omega) _)) : Below w.heap.size w _).mono (Below.refl w.heap.size w).size)) (Nat.le_refl _)).mono (Nat.le_refl _) (Below.refl w.heap.size w).size)).mono ?_
    rintro e w1 ⟨rfl, hb1⟩
    have hst1 : Below w.heap.size w w1 := Below.trans (by repeat (first | (with_reducible exact Below.refl _ _) | (with_reducible apply Below.drew) | (with_reducible refine below_drewN ?_ _) | (refine Below.setCell ?_ (by simp <;> omega) _) | (refine Below.alloc ?_ (by simp <;> omega) _)) : Below w.heap.size w _) (hb1.mono (Below.size (by repeat (first | (with_reducible exact Below.refl _ _) | (with_reducible apply Below.drew) | (with_reducible refine below_drewN ?_ _) | (refine Below.setCell ?_ (by simp <;> omega) _) | (refine Below.alloc ?_ (by simp <;> omega) _)) : Below w.heap.size w _)))
    have hr1 : w.heap.size + 2 ≤ w1.heap.size := Nat.le_trans (by first | exact Nat.le_refl _ | (simp; done) | (simp; omega) | (simp [World.setCell]; done) | (simp [World.setCell]; omega)) hb1.size
    have sz1_paA : w.heap.size < w1.heap.size := Nat.lt_of_lt_of_le (by first | omega | (simp; done) | (simp; omega) | (simp [World.setCell]; omega)) hb1.size
    have bx1_paA_0 : w1.cell? ⟨w.heap.size, 0, none⟩ = some (.int .i64 vA.fN) := (hb1.cell (p := ⟨w.heap.size, 0, none⟩) (by first | omega | (simp; done) | (simp; omega) | (simp [World.setCell]; omega))).trans (by go_simp)
    have bx1_paA_1 : w1.cell? ⟨w.heap.size, 1, none⟩ = some (.slice a1_vA vA.fRows.length c1_vA) := (hb1.cell (p := ⟨w.heap.size, 1, none⟩) (by first | omega | (simp; done) | (simp; omega) | (simp [World.setCell]; omega))).trans (by go_simp)
    have sz1_paB : w.heap.size + 1 < w1.heap.size := Nat.lt_of_lt_of_le (by first | omega | (simp; done) | (simp; omega) | (simp [World.setCell]; omega)) hb1.size
    have bx1_paB_0 : w1.cell? ⟨w.heap.size + 1, 0, none⟩ = some (.int .i64 vB.fN) := (hb1.cell (p := ⟨w.heap.size + 1, 0, none⟩) (by first | omega | (simp; done) | (simp; omega) | (simp [World.setCell]; omega))).trans (by go_simp)
    have bx1_paB_1 : w1.cell? ⟨w.heap.size + 1, 1, none⟩ = some (.slice a1_vB vB.fRows.length c1_vB) := (hb1.cell (p := ⟨w.heap.size + 1, 1, none⟩) (by first | omega | (simp; done) | (simp; omega) | (simp [World.setCell]; omega))).trans (by go_simp)
    have HB1 := Lib.hid ((Below.refl w.heap.size w).trans (hst1.mono (Below.refl w.heap.size w).size))
    clear hb1 hst1
    go_wp2
    go_ret
    exact ⟨rfl, HB1.out⟩
  · skip
    by_cases h1 : (1048576 - (DRelation.sz vA : Nat)) < ((DRelation.sz vB : Nat) : Int)
    · skip
      have hz := fun (hi : Nat) (w' : World) (hhi : hi ≤ w'.heap.size) (hs_1_vA : Sl 0 hi w' 1 vA.fRows.length (fun k => ictI (vA.fRows.getD k default)) a1_vA) => laws_szRelation (c1 := c1_vA) vA 1048576 (by omega) (by omega) OK_vA.out w' hhi hs_1_vA
      rw [szR_le (by omega)] at hz
      have HZ_vA := Lib.hid hz
      clear hz
      have hz := fun (hi : Nat) (w' : World) (hhi : hi ≤ w'.heap.size) (hs_1_vB : Sl 0 hi w' 1 vB.fRows.length (fun k => ictI (vB.fRows.getD k default)) a1_vB) => laws_szRelation (c1 := c1_vB) vB (1048576 - (DRelation.sz vA : Nat)) (by omega) (by omega) OK_vB.out w' hhi hs_1_vB
      rw [szR_gt (by omega)] at hz
      have HZ_vB := Lib.hid hz
      clear hz
      go_enter Try.func3, Try.ntmps3
      go_wp2_with fail
      refine (HZ_vA.out w.heap.size _ (Below.size (by repeat (first | (with_reducible exact Below.refl _ _) | (with_reducible apply Below.drew) | (with_reducible refine below_drewN ?_ _) | (refine Below.setCell ?_ (by simp <;> omega) _) | (refine Below.alloc ?_ (by simp <;> omega) _)) : Below w.heap.size w _)) ((HS_1_vA.out.later ((Below.refl w.heap.size w).trans ((by repeat (first | (with_reducible exact Below.refl _ _) | (with_reducible apply Below.drew) | (with_reducible refine below_drewN ?_ _) | (refine Below.setCell ?_ (by simp <;> omega) _) | (refine Below.alloc ?_ (by simp <;> omega) _)) : Below w.heap.size w _).mono (Below.refl w.heap.size w).size)) (Nat.le_refl _)).mono (Nat.le_refl _) (Below.refl w.heap.size w).size)).mono ?_
      rintro e w1 ⟨rfl, hb1⟩
      have hst1 : Below w.heap.size w w1 := Below.trans (by repeat (first | (with_reducible exact Below.refl _ _) | (with_reducible apply Below.drew) | (with_reducible refine below_drewN ?_ _) | (refine Below.setCell ?_ (by simp <;> omega) _) | (refine Below.alloc ?_ (by simp <;> omega) _)) : Below w.heap.size w _) (hb1.mono (Below.size (by repeat (first | (with_reducible exact Below.refl _ _) | (with_reducible apply Below.drew) | (with_reducible refine below_drewN ?_ _) | (refine Below.setCell ?_ (by simp <;> omega) _) | (refine Below.alloc ?_ (by simp <;> omega) _)) : Below w.heap.size w _)))
      have hr1 : w.heap.size + 2 ≤ w1.heap.size := Nat.le_trans (by first | exact Nat.le_refl _ | (simp; done) | (simp; omega) | (simp [World.setCell]; done) | (simp [World.setCell]; omega)) hb1.size
      have sz1_paA : w.heap.size < w1.heap.size := Nat.lt_of_lt_of_le (by first | omega | (simp; done) | (simp; omega) | (simp [World.setCell]; omega)) hb1.size
      have bx1_paA_0 : w1.cell? ⟨w.heap.size, 0, none⟩ = some (.int .i64 vA.fN) := (hb1.cell (p := ⟨w.heap.size, 0, none⟩) (by first | omega | (simp; done) | (simp; omega) | (simp [World.setCell]; omega))).trans (by go_simp)
      have bx1_paA_1 : w1.cell? ⟨w.heap.size, 1, none⟩ = some (.slice a1_vA vA.fRows.length c1_vA) := (hb1.cell (p := ⟨w.heap.size, 1, none⟩) (by first | omega | (simp; done) | (simp; omega) | (simp [World.setCell]; omega))).trans (by go_simp)
      have sz1_paB : w.heap.size + 1 < w1.heap.size := Nat.lt_of_lt_of_le (by first | omega | (simp; done) | (simp; omega) | (simp [World.setCell]; omega)) hb1.size
      have bx1_paB_0 : w1.cell? ⟨w.heap.size + 1, 0, none⟩ = some (.int .i64 vB.fN) := (hb1.cell (p := ⟨w.heap.size + 1, 0, none⟩) (by first | omega | (simp; done) | (simp; omega) | (simp [World.setCell]; omega))).trans (by go_simp)
      have bx1_paB_1 : w1.cell? ⟨w.heap.size + 1, 1, none⟩ = some (.slice a1_vB vB.fRows.length c1_vB) := (hb1.cell (p := ⟨w.heap.size + 1, 1, none⟩) (by first | omega | (simp; done) | (simp; omega) | (simp [World.setCell]; omega))).trans (by go_simp)
      have HB1 := Lib.hid ((Below.refl w.heap.size w).trans (hst1.mono (Below.refl w.heap.size w).size))
      clear hb1 hst1
      go_wp2_with fail
      refine (HZ_vB.out w1.heap.size _ (Below.size (by repeat (first | (with_reducible exact Below.refl _ _) | (with_reducible apply Below.drew) | (with_reducible refine below_drewN ?_ _) | (refine Below.setCell ?_ (by simp <;> omega) _) | (refine Below.alloc ?_ (by simp <;> omega) _)) : Below w1.heap.size w1 _)) ((HS_1_vB.out.later (HB1.out.trans ((by repeat (first | (with_reducible exact Below.refl _ _) | (with_reducible apply Below.drew) | (with_reducible refine below_drewN ?_ _) | (refine Below.setCell ?_ (by simp <;> omega) _) | (refine Below.alloc ?_ (by simp <;> omega) _)) : Below w1.heap.size w1 _).mono HB1.out.size)) (Nat.le_refl _)).mono (Nat.le_refl _) HB1.out.size)).mono ?_
      rintro e w2 ⟨rfl, hb2⟩
      have hst2 : Below w1.heap.size w1 w2 := Below.trans (by repeat (first | (with_reducible exact Below.refl _ _) | (with_reducible apply Below.drew) | (with_reducible refine below_drewN ?_ _) | (refine Below.setCell ?_ (by simp <;> omega) _) | (refine Below.alloc ?_ (by simp <;> omega) _)) : Below w1.heap.size w1 _) (hb2.mono (Below.size (by repeat (first | (with_reducible exact Below.refl _ _) | (with_reducible apply Below.drew) | (with_reducible refine below_drewN ?_ _) | (refine Below.setCell ?_ (by simp <;> omega) _) | (refine Below.alloc ?_ (by simp <;> omega) _)) : Below w1.heap.size w1 _)))
      have hr2 : w1.heap.size ≤ w2.heap.size := Nat.le_trans (by first | exact Nat.le_refl _ | (simp; done) | (simp; omega) | (simp [World.setCell]; done) | (simp [World.setCell]; omega)) hb2.size
      have sz2_paA : w.heap.size < w2.heap.size := Nat.lt_of_lt_of_le sz1_paA hst2.size
      have bx2_paA_0 : w2.cell? ⟨w.heap.size, 0, none⟩ = some (.int .i64 vA.fN) := (hst2.cell (p := ⟨w.heap.size, 0, none⟩) sz1_paA).trans bx1_paA_0
      have bx2_paA_1 : w2.cell? ⟨w.heap.size, 1, none⟩ = some (.slice a1_vA vA.fRows.length c1_vA) := (hst2.cell (p := ⟨w.heap.size, 1, none⟩) sz1_paA).trans bx1_paA_1
      have sz2_paB : w.heap.size + 1 < w2.heap.size := Nat.lt_of_lt_of_le sz1_paB hst2.size
      have bx2_paB_0 : w2.cell? ⟨w.heap.size + 1, 0, none⟩ = some (.int .i64 vB.fN) := (hst2.cell (p := ⟨w.heap.size + 1, 0, none⟩) sz1_paB).trans bx1_paB_0
      have bx2_paB_1 : w2.cell? ⟨w.heap.size + 1, 1, none⟩ = some (.slice a1_vB vB.fRows.length c1_vB) := (hst2.cell (p := ⟨w.heap.size + 1, 1, none⟩) sz1_paB).trans bx1_paB_1
      have HB2 := Lib.hid (HB1.out.trans (hst2.mono HB1.out.size))
      clear bx1_paA_0 bx1_paA_1 sz1_paA bx1_paB_0 bx1_paB_1 sz1_paB hb2 hst2 HB1
      go_wp2
      go_ret
      exact ⟨rfl, HB2.out⟩
    · skip
      have hz := fun (hi : Nat) (w' : World) (hhi : hi ≤ w'.heap.size) (hs_1_vA : Sl 0 hi w' 1 vA.fRows.length (fun k => ictI (vA.fRows.getD k default)) a1_vA) => laws_szRelation (c1 := c1_vA) vA 1048576 (by omega) (by omega) OK_vA.out w' hhi hs_1_vA
      rw [szR_le (by omega)] at hz
      have HZ_vA := Lib.hid hz
      clear hz
      have hz := fun (hi : Nat) (w' : World) (hhi : hi ≤ w'.heap.size) (hs_1_vB : Sl 0 hi w' 1 vB.fRows.length (fun k => ictI (vB.fRows.getD k default)) a1_vB) => laws_szRelation (c1 := c1_vB) vB (1048576 - (DRelation.sz vA : Nat)) (by omega) (by omega) OK_vB.out w' hhi hs_1_vB
      rw [szR_le (by omega)] at hz
      have HZ_vB := Lib.hid hz
      clear hz
      have hq_vA : DRelation.sz vA ≤ 1048576 := by omega
      have hq_vB : DRelation.sz vB ≤ 1048576 := by omega
      have hq_R : DRelation.sz (unionRel vA vB) ≤ 1048576 := unionRel_sz hq_vA vB
      go_enter Try.func3, Try.ntmps3
      go_wp2_with fail
      refine (HZ_vA.out w.heap.size _ (Below.size (by repeat (first | (with_reducible exact Below.refl _ _) | (with_reducible apply Below.drew) | (with_reducible refine below_drewN ?_ _) | (refine Below.setCell ?_ (by simp <;> omega) _) | (refine Below.alloc ?_ (by simp <;> omega) _)) : Below w.heap.size w _)) ((HS_1_vA.out.later ((Below.refl w.heap.size w).trans ((by repeat (first | (with_reducible exact Below.refl _ _) | (with_reducible apply Below.drew) | (with_reducible refine below_drewN ?_ _) | (refine Below.setCell ?_ (by simp <;> omega) _) | (refine Below.alloc ?_ (by simp <;> omega) _)) : Below w.heap.size w _).mono (Below.refl w.heap.size w).size)) (Nat.le_refl _)).mono (Nat.le_refl _) (Below.refl w.heap.size w).size)).mono ?_
      rintro e w1 ⟨rfl, hb1⟩
      have hst1 : Below w.heap.size w w1 := Below.trans (by repeat (first | (with_reducible exact Below.refl _ _) | (with_reducible apply Below.drew) | (with_reducible refine below_drewN ?_ _) | (refine Below.setCell ?_ (by simp <;> omega) _) | (refine Below.alloc ?_ (by simp <;> omega) _)) : Below w.heap.size w _) (hb1.mono (Below.size (by repeat (first | (with_reducible exact Below.refl _ _) | (with_reducible apply Below.drew) | (with_reducible refine below_drewN ?_ _) | (refine Below.setCell ?_ (by simp <;> omega) _) | (refine Below.alloc ?_ (by simp <;> omega) _)) : Below w.heap.size w _)))
      have hr1 : w.heap.size + 2 ≤ w1.heap.size := Nat.le_trans (by first | exact Nat.le_refl _ | (simp; done) | (simp; omega) | (simp [World.setCell]; done) | (simp [World.setCell]; omega)) hb1.size
      have sz1_paA : w.heap.size < w1.heap.size := Nat.lt_of_lt_of_le (by first | omega | (simp; done) | (simp; omega) | (simp [World.setCell]; omega)) hb1.size
      have bx1_paA_0 : w1.cell? ⟨w.heap.size, 0, none⟩ = some (.int .i64 vA.fN) := (hb1.cell (p := ⟨w.heap.size, 0, none⟩) (by first | omega | (simp; done) | (simp; omega) | (simp [World.setCell]; omega))).trans (by go_simp)
      have bx1_paA_1 : w1.cell? ⟨w.heap.size, 1, none⟩ = some (.slice a1_vA vA.fRows.length c1_vA) := (hb1.cell (p := ⟨w.heap.size, 1, none⟩) (by first | omega | (simp; done) | (simp; omega) | (simp [World.setCell]; omega))).trans (by go_simp)
      have sz1_paB : w.heap.size + 1 < w1.heap.size := Nat.lt_of_lt_of_le (by first | omega | (simp; done) | (simp; omega) | (simp [World.setCell]; omega)) hb1.size
      have bx1_paB_0 : w1.cell? ⟨w.heap.size + 1, 0, none⟩ = some (.int .i64 vB.fN) := (hb1.cell (p := ⟨w.heap.size + 1, 0, none⟩) (by first | omega | (simp; done) | (simp; omega) | (simp [World.setCell]; omega))).trans (by go_simp)
      have bx1_paB_1 : w1.cell? ⟨w.heap.size + 1, 1, none⟩ = some (.slice a1_vB vB.fRows.length c1_vB) := (hb1.cell (p := ⟨w.heap.size + 1, 1, none⟩) (by first | omega | (simp; done) | (simp; omega) | (simp [World.setCell]; omega))).trans (by go_simp)
      have HB1 := Lib.hid ((Below.refl w.heap.size w).trans (hst1.mono (Below.refl w.heap.size w).size))
      clear hb1 hst1
      go_wp2_with fail
      refine (HZ_vB.out w1.heap.size _ (Below.size (by repeat (first | (with_reducible exact Below.refl _ _) | (with_reducible apply Below.drew) | (with_reducible refine below_drewN ?_ _) | (refine Below.setCell ?_ (by simp <;> omega) _) | (refine Below.alloc ?_ (by simp <;> omega) _)) : Below w1.heap.size w1 _)) ((HS_1_vB.out.later (HB1.out.trans ((by repeat (first | (with_reducible exact Below.refl _ _) | (with_reducible apply Below.drew) | (with_reducible refine below_drewN ?_ _) | (refine Below.setCell ?_ (by simp <;> omega) _) | (refine Below.alloc ?_ (by simp <;> omega) _)) : Below w1.heap.size w1 _).mono HB1.out.size)) (Nat.le_refl _)).mono (Nat.le_refl _) HB1.out.size)).mono ?_
      rintro e w2 ⟨rfl, hb2⟩
      have hst2 : Below w1.heap.size w1 w2 := Below.trans (by repeat (first | (with_reducible exact Below.refl _ _) | (with_reducible apply Below.drew) | (with_reducible refine below_drewN ?_ _) | (refine Below.setCell ?_ (by simp <;> omega) _) | (refine Below.alloc ?_ (by simp <;> omega) _)) : Below w1.heap.size w1 _) (hb2.mono (Below.size (by repeat (first | (with_reducible exact Below.refl _ _) | (with_reducible apply Below.drew) | (with_reducible refine below_drewN ?_ _) | (refine Below.setCell ?_ (by simp <;> omega) _) | (refine Below.alloc ?_ (by simp <;> omega) _)) : Below w1.heap.size w1 _)))
      have hr2 : w1.heap.size ≤ w2.heap.size := Nat.le_trans (by first | exact Nat.le_refl _ | (simp; done) | (simp; omega) | (simp [World.setCell]; done) | (simp [World.setCell]; omega)) hb2.size
      have sz2_paA : w.heap.size < w2.heap.size := Nat.lt_of_lt_of_le sz1_paA hst2.size
      have bx2_paA_0 : w2.cell? ⟨w.heap.size, 0, none⟩ = some (.int .i64 vA.fN) := (hst2.cell (p := ⟨w.heap.size, 0, none⟩) sz1_paA).trans bx1_paA_0
      have bx2_paA_1 : w2.cell? ⟨w.heap.size, 1, none⟩ = some (.slice a1_vA vA.fRows.length c1_vA) := (hst2.cell (p := ⟨w.heap.size, 1, none⟩) sz1_paA).trans bx1_paA_1
      have sz2_paB : w.heap.size + 1 < w2.heap.size := Nat.lt_of_lt_of_le sz1_paB hst2.size
      have bx2_paB_0 : w2.cell? ⟨w.heap.size + 1, 0, none⟩ = some (.int .i64 vB.fN) := (hst2.cell (p := ⟨w.heap.size + 1, 0, none⟩) sz1_paB).trans bx1_paB_0
      have bx2_paB_1 : w2.cell? ⟨w.heap.size + 1, 1, none⟩ = some (.slice a1_vB vB.fRows.length c1_vB) := (hst2.cell (p := ⟨w.heap.size + 1, 1, none⟩) sz1_paB).trans bx1_paB_1
      have HB2 := Lib.hid (HB1.out.trans (hst2.mono HB1.out.size))
      clear bx1_paA_0 bx1_paA_1 sz1_paA bx1_paB_0 bx1_paB_1 sz1_paB hb2 hst2 HB1
      go_upto_region 8 with fail
      go_cut [6] from 24 to 28 (fun sW wx => ∃ (bW lW hW : Nat) (aW : Option Addr) (cW : Nat), sW = .pointer (some ⟨bW, 0, none⟩) ∧ wx.cell? ⟨bW, 0, none⟩ = some (.int .i64 (unionRel vA vB).fN) ∧ wx.cell? ⟨bW, 1, none⟩ = some (.slice aW (unionRel vA vB).fRows.length cW) ∧ Own wx (fun y => lW ≤ y ∧ y < hW) (.sl 1 (unionRel vA vB).fRows.length (fun k => ictI ((unionRel vA vB).fRows.getD k default))) (.slice aW (unionRel vA vB).fRows.length cW) ∧ bW < wx.heap.size ∧ w2.heap.size ≤ bW ∧ w2.heap.size ≤ lW ∧ hW ≤ wx.heap.size ∧ (bW < lW ∨ hW ≤ bW) ∧ Below w2.heap.size w2 wx)
      case first =>
        refine wp_region_free [([], none), ([0], none), ([], none), ([2], none), ([1, 3], none), ([], none), ([5, 4], some 5)] [0, 1, 2, 3, 4, 6] (fun j V L H wx => match j with | 0 => V 0 = .agg #[.int .i64 vA.fN, .slice a1_vA vA.fRows.length c1_vA] | 1 => ∃ a1_vA_f1 c1_vA_f1, V 1 = .agg #[.int .i64 vA.fN, .slice a1_vA_f1 vA.fRows.length c1_vA_f1] ∧ OwnR wx (fun y => L ≤ y ∧ y < H) 2 vA.ct (fun j => [.int .i64 vA.fN, .slice a1_vA_f1 vA.fRows.length c1_vA_f1].getD j .nilFunc) | 2 => V 2 = .agg #[.int .i64 vB.fN, .slice a1_vB vB.fRows.length c1_vB] | 3 => ∃ a1_vB_f3 c1_vB_f3, V 3 = .agg #[.int .i64 vB.fN, .slice a1_vB_f3 vB.fRows.length c1_vB_f3] ∧ OwnR wx (fun y => L ≤ y ∧ y < H) 2 vB.ct (fun j => [.int .i64 vB.fN, .slice a1_vB_f3 vB.fRows.length c1_vB_f3].getD j .nilFunc) | 4 => ∃ a1_R_f4 c1_R_f4, V 4 = .agg #[.int .i64 (unionRel vA vB).fN, .slice a1_R_f4 (unionRel vA vB).fRows.length c1_R_f4] ∧ Own wx (fun y => L ≤ y ∧ y < H) (.sl 1 (unionRel vA vB).fRows.length (fun k => ictI ((unionRel vA vB).fRows.getD k default))) (.slice a1_R_f4 (unionRel vA vB).fRows.length c1_R_f4) | 5 => V 5 = .pointer (some ⟨L, 0, none⟩) ∧ L < H ∧ wx.cell? ⟨L, 0, none⟩ = some (.int .i64 0) ∧ wx.frozen? ⟨L, 0, none⟩ = false ∧ wx.cell? ⟨L, 1, none⟩ = some (.slice none 0 0) ∧ wx.frozen? ⟨L, 1, none⟩ = false | 6 => ∀ x0 x1, V 4 = .agg #[x0, x1] → L < H ∧ wx.cell? ⟨L, 0, none⟩ = some x0 ∧ wx.cell? ⟨L, 1, none⟩ = some x1 | _ => True) (by kernel_rfl) (by kernel_rfl) ?loc ?lasts ?walk
        case loc =>
          intro k V V' L H wx h0 h1 hG
          match k with
          | 0 =>
            try dsimp only at hG ⊢
            rw [← h0]
            exact hG
          | 1 =>
            have e0 := h1 0 (by decide)
            try dsimp only at hG ⊢
            rw [← h0]
            exact hG
          | 2 =>
            try dsimp only at hG ⊢
            rw [← h0]
            exact hG
          | 3 =>
            have e2 := h1 2 (by decide)
            try dsimp only at hG ⊢
            rw [← h0]
            exact hG
          | 4 =>
            have e1 := h1 1 (by decide)
            have e3 := h1 3 (by decide)
            try dsimp only at hG ⊢
            rw [← h0]
            exact hG
          | 5 =>
            try dsimp only at hG ⊢
            rw [← h0]
            exact hG
          | 6 =>
            have e5 := h1 5 (by decide)
            have e4 := h1 4 (by decide)
            try dsimp only at hG ⊢
            rw [← e4]
            exact hG
          | n + 7 => trivial
        case lasts =>
          intro i hi V L H wx wy hB hH hk
          match i, hi with
          | 0, _ => exact fun h => h
          | 1, _ => exact fun ⟨a1_vA_f1, c1_vA_f1, hv, ho⟩ => ⟨a1_vA_f1, c1_vA_f1, hv, ho.kept (hk.sub fun x hx => .inr hx)⟩
          | 2, _ => exact fun h => h
          | 3, _ => exact fun ⟨a1_vB_f3, c1_vB_f3, hv, ho⟩ => ⟨a1_vB_f3, c1_vB_f3, hv, ho.kept (hk.sub fun x hx => .inr hx)⟩
          | 4, _ => exact fun ⟨a1_R_f4, c1_R_f4, hv, ho⟩ => ⟨a1_R_f4, c1_R_f4, hv, ho.kept (hk.sub fun x hx => .inr hx)⟩
          | 5, _ => exact fun ⟨hv, hl, hc0, hf0, hc1, hf1⟩ => ⟨hv, hl, (hk.cell (p := ⟨L, 0, none⟩) (.inr ⟨Nat.le_refl _, hl⟩) (Nat.lt_of_lt_of_le hl hH)).trans hc0, (hk.frozen (p := ⟨L, 0, none⟩) (.inr ⟨Nat.le_refl _, hl⟩) (Nat.lt_of_lt_of_le hl hH)).trans hf0, (hk.cell (p := ⟨L, 1, none⟩) (.inr ⟨Nat.le_refl _, hl⟩) (Nat.lt_of_lt_of_le hl hH)).trans hc1, (hk.frozen (p := ⟨L, 1, none⟩) (.inr ⟨Nat.le_refl _, hl⟩) (Nat.lt_of_lt_of_le hl hH)).trans hf1⟩
          | 6, _ => exact fun h x0 x1 hv => ⟨(h x0 x1 hv).1, (hk.cell (p := ⟨L, 0, none⟩) (.inr ⟨Nat.le_refl _, (h x0 x1 hv).1⟩) (Nat.lt_of_lt_of_le (h x0 x1 hv).1 hH)).trans (h x0 x1 hv).2.1, (hk.cell (p := ⟨L, 1, none⟩) (.inr ⟨Nat.le_refl _, (h x0 x1 hv).1⟩) (Nat.lt_of_lt_of_le (h x0 x1 hv).1 hH)).trans (h x0 x1 hv).2.2⟩
          | n + 7, hn => exact absurd hn (by simp)
        case walk =>
          simp only [free, Nat.reduceAdd, Act.put, List.setIfInBounds_toArray, List.set_cons_succ, List.set_cons_zero]
          refine ⟨?_, ?_, ?_, ?_, ?_, ?_, ?_, ?_⟩
          · intro V L H w3 hb3 hd
            clear hd
            have sz3_paA : w.heap.size < w3.heap.size := Nat.lt_of_lt_of_le sz2_paA hb3.size
            have bx3_paA_0 : w3.cell? ⟨w.heap.size, 0, none⟩ = some (.int .i64 vA.fN) := (hb3.cell (p := ⟨w.heap.size, 0, none⟩) sz2_paA).trans bx2_paA_0
            have bx3_paA_1 : w3.cell? ⟨w.heap.size, 1, none⟩ = some (.slice a1_vA vA.fRows.length c1_vA) := (hb3.cell (p := ⟨w.heap.size, 1, none⟩) sz2_paA).trans bx2_paA_1
            have sz3_paB : w.heap.size + 1 < w3.heap.size := Nat.lt_of_lt_of_le sz2_paB hb3.size
            have bx3_paB_0 : w3.cell? ⟨w.heap.size + 1, 0, none⟩ = some (.int .i64 vB.fN) := (hb3.cell (p := ⟨w.heap.size + 1, 0, none⟩) sz2_paB).trans bx2_paB_0
            have bx3_paB_1 : w3.cell? ⟨w.heap.size + 1, 1, none⟩ = some (.slice a1_vB vB.fRows.length c1_vB) := (hb3.cell (p := ⟨w.heap.size + 1, 1, none⟩) sz2_paB).trans bx2_paB_1
            have HB3 := Lib.hid (HB2.out.trans (hb3.mono HB2.out.size))
            clear sz2_paA bx2_paA_0 bx2_paA_1 sz2_paB bx2_paB_0 bx2_paB_1
            go_wp2_with fail
            exact freePost _ rfl ⟨Below.refl _ _, upd_self⟩
          · intro V L H w3 hb3 hd
            obtain ⟨⟨hL0, hM0, hH0, hv0⟩, -⟩ := hd
            rw [hv0]
            have HV0 := Lib.hid hv0
            clear hv0
            have sz3_paA : w.heap.size < w3.heap.size := Nat.lt_of_lt_of_le sz2_paA hb3.size
            have bx3_paA_0 : w3.cell? ⟨w.heap.size, 0, none⟩ = some (.int .i64 vA.fN) := (hb3.cell (p := ⟨w.heap.size, 0, none⟩) sz2_paA).trans bx2_paA_0
            have bx3_paA_1 : w3.cell? ⟨w.heap.size, 1, none⟩ = some (.slice a1_vA vA.fRows.length c1_vA) := (hb3.cell (p := ⟨w.heap.size, 1, none⟩) sz2_paA).trans bx2_paA_1
            have sz3_paB : w.heap.size + 1 < w3.heap.size := Nat.lt_of_lt_of_le sz2_paB hb3.size
            have bx3_paB_0 : w3.cell? ⟨w.heap.size + 1, 0, none⟩ = some (.int .i64 vB.fN) := (hb3.cell (p := ⟨w.heap.size + 1, 0, none⟩) sz2_paB).trans bx2_paB_0
            have bx3_paB_1 : w3.cell? ⟨w.heap.size + 1, 1, none⟩ = some (.slice a1_vB vB.fRows.length c1_vB) := (hb3.cell (p := ⟨w.heap.size + 1, 1, none⟩) sz2_paB).trans bx2_paB_1
            have HB3 := Lib.hid (HB2.out.trans (hb3.mono HB2.out.size))
            clear sz2_paA bx2_paA_0 bx2_paA_1 sz2_paB bx2_paB_0 bx2_paB_1
            go_wp2_with fail
            refine (laws_toRelation (c1 := c1_vA) vA hq_vA _ (Below.size (by repeat (first | (with_reducible exact Below.refl _ _) | (with_reducible apply Below.drew) | (with_reducible refine below_drewN ?_ _) | (refine Below.setCell ?_ (by simp <;> omega) _) | (refine Below.alloc ?_ (by simp <;> omega) _)) : Below w3.heap.size w3 _)) ((HS_1_vA.out.later (HB3.out.trans ((by repeat (first | (with_reducible exact Below.refl _ _) | (with_reducible apply Below.drew) | (with_reducible refine below_drewN ?_ _) | (refine Below.setCell ?_ (by simp <;> omega) _) | (refine Below.alloc ?_ (by simp <;> omega) _)) : Below w3.heap.size w3 _).mono HB3.out.size)) (Nat.le_refl _)).mono (Nat.le_refl _) HB3.out.size)).mono ?_
            rintro e w4 ⟨a1_vA_f1, c1_vA_f1, rfl, ho, hb4⟩
            go_wp2_with fail
            exact freePost _ rfl ⟨hb4, Exists.intro a1_vA_f1 (Exists.intro c1_vA_f1 (And.intro upd_self ho))⟩
          · intro V L H w3 hb3 hd
            clear hd
            have sz3_paA : w.heap.size < w3.heap.size := Nat.lt_of_lt_of_le sz2_paA hb3.size
            have bx3_paA_0 : w3.cell? ⟨w.heap.size, 0, none⟩ = some (.int .i64 vA.fN) := (hb3.cell (p := ⟨w.heap.size, 0, none⟩) sz2_paA).trans bx2_paA_0
            have bx3_paA_1 : w3.cell? ⟨w.heap.size, 1, none⟩ = some (.slice a1_vA vA.fRows.length c1_vA) := (hb3.cell (p := ⟨w.heap.size, 1, none⟩) sz2_paA).trans bx2_paA_1
            have sz3_paB : w.heap.size + 1 < w3.heap.size := Nat.lt_of_lt_of_le sz2_paB hb3.size
            have bx3_paB_0 : w3.cell? ⟨w.heap.size + 1, 0, none⟩ = some (.int .i64 vB.fN) := (hb3.cell (p := ⟨w.heap.size + 1, 0, none⟩) sz2_paB).trans bx2_paB_0
            have bx3_paB_1 : w3.cell? ⟨w.heap.size + 1, 1, none⟩ = some (.slice a1_vB vB.fRows.length c1_vB) := (hb3.cell (p := ⟨w.heap.size + 1, 1, none⟩) sz2_paB).trans bx2_paB_1
            have HB3 := Lib.hid (HB2.out.trans (hb3.mono HB2.out.size))
            clear sz2_paA bx2_paA_0 bx2_paA_1 sz2_paB bx2_paB_0 bx2_paB_1
            go_wp2_with fail
            exact freePost _ rfl ⟨Below.refl _ _, upd_self⟩
          · intro V L H w3 hb3 hd
            obtain ⟨⟨hL2, hM2, hH2, hv2⟩, -⟩ := hd
            rw [hv2]
            have HV2 := Lib.hid hv2
            clear hv2
            have sz3_paA : w.heap.size < w3.heap.size := Nat.lt_of_lt_of_le sz2_paA hb3.size
            have bx3_paA_0 : w3.cell? ⟨w.heap.size, 0, none⟩ = some (.int .i64 vA.fN) := (hb3.cell (p := ⟨w.heap.size, 0, none⟩) sz2_paA).trans bx2_paA_0
            have bx3_paA_1 : w3.cell? ⟨w.heap.size, 1, none⟩ = some (.slice a1_vA vA.fRows.length c1_vA) := (hb3.cell (p := ⟨w.heap.size, 1, none⟩) sz2_paA).trans bx2_paA_1
            have sz3_paB : w.heap.size + 1 < w3.heap.size := Nat.lt_of_lt_of_le sz2_paB hb3.size
            have bx3_paB_0 : w3.cell? ⟨w.heap.size + 1, 0, none⟩ = some (.int .i64 vB.fN) := (hb3.cell (p := ⟨w.heap.size + 1, 0, none⟩) sz2_paB).trans bx2_paB_0
            have bx3_paB_1 : w3.cell? ⟨w.heap.size + 1, 1, none⟩ = some (.slice a1_vB vB.fRows.length c1_vB) := (hb3.cell (p := ⟨w.heap.size + 1, 1, none⟩) sz2_paB).trans bx2_paB_1
            have HB3 := Lib.hid (HB2.out.trans (hb3.mono HB2.out.size))
            clear sz2_paA bx2_paA_0 bx2_paA_1 sz2_paB bx2_paB_0 bx2_paB_1
            go_wp2_with fail
            refine (laws_toRelation (c1 := c1_vB) vB hq_vB _ (Below.size (by repeat (first | (with_reducible exact Below.refl _ _) | (with_reducible apply Below.drew) | (with_reducible refine below_drewN ?_ _) | (refine Below.setCell ?_ (by simp <;> omega) _) | (refine Below.alloc ?_ (by simp <;> omega) _)) : Below w3.heap.size w3 _)) ((HS_1_vB.out.later (HB3.out.trans ((by repeat (first | (with_reducible exact Below.refl _ _) | (with_reducible apply Below.drew) | (with_reducible refine below_drewN ?_ _) | (refine Below.setCell ?_ (by simp <;> omega) _) | (refine Below.alloc ?_ (by simp <;> omega) _)) : Below w3.heap.size w3 _).mono HB3.out.size)) (Nat.le_refl _)).mono (Nat.le_refl _) HB3.out.size)).mono ?_
            rintro e w4 ⟨a1_vB_f3, c1_vB_f3, rfl, ho, hb4⟩
            go_wp2_with fail
            exact freePost _ rfl ⟨hb4, Exists.intro a1_vB_f3 (Exists.intro c1_vB_f3 (And.intro upd_self ho))⟩
          · intro V L H w3 hb3 hd
            obtain ⟨⟨hL1, hM1, hH1, a1_vA_f1, c1_vA_f1, hv1, ho1_⟩, ⟨hL3, hM3, hH3, a1_vB_f3, c1_vB_f3, hv3, ho3_⟩, -⟩ := hd
            rw [hv1, hv3]
            have HV1 := Lib.hid hv1
            have HV3 := Lib.hid hv3
            clear hv1 hv3
            have sz3_paA : w.heap.size < w3.heap.size := Nat.lt_of_lt_of_le sz2_paA hb3.size
            have bx3_paA_0 : w3.cell? ⟨w.heap.size, 0, none⟩ = some (.int .i64 vA.fN) := (hb3.cell (p := ⟨w.heap.size, 0, none⟩) sz2_paA).trans bx2_paA_0
            have bx3_paA_1 : w3.cell? ⟨w.heap.size, 1, none⟩ = some (.slice a1_vA vA.fRows.length c1_vA) := (hb3.cell (p := ⟨w.heap.size, 1, none⟩) sz2_paA).trans bx2_paA_1
            have sz3_paB : w.heap.size + 1 < w3.heap.size := Nat.lt_of_lt_of_le sz2_paB hb3.size
            have bx3_paB_0 : w3.cell? ⟨w.heap.size + 1, 0, none⟩ = some (.int .i64 vB.fN) := (hb3.cell (p := ⟨w.heap.size + 1, 0, none⟩) sz2_paB).trans bx2_paB_0
            have bx3_paB_1 : w3.cell? ⟨w.heap.size + 1, 1, none⟩ = some (.slice a1_vB vB.fRows.length c1_vB) := (hb3.cell (p := ⟨w.heap.size + 1, 1, none⟩) sz2_paB).trans bx2_paB_1
            have HB3 := Lib.hid (HB2.out.trans (hb3.mono HB2.out.size))
            clear sz2_paA bx2_paA_0 bx2_paA_1 sz2_paB bx2_paB_0 bx2_paB_1
            have HO_1_vA_f1 := Lib.hid (show Own w3 (fun y => L 1 ≤ y ∧ y < H 1) (.sl 1 vA.fRows.length (fun k => ictI (vA.fRows.getD k default))) (.slice a1_vA_f1 vA.fRows.length c1_vA_f1) from OwnR.at ho1_ 1 (by decide))
            clear ho1_
            have HO_1_vB_f3 := Lib.hid (show Own w3 (fun y => L 3 ≤ y ∧ y < H 3) (.sl 1 vB.fRows.length (fun k => ictI (vB.fRows.getD k default))) (.slice a1_vB_f3 vB.fRows.length c1_vB_f3) from OwnR.at ho3_ 1 (by decide))
            clear ho3_
            go_wp2_with fail
            refine (spec_UnionRelation (c0_0 := c1_vA_f1) (c1_0 := c1_vB_f3) vA OK_vA.out hq_vA vB OK_vB.out hq_vB _ (Below.size (by repeat (first | (with_reducible exact Below.refl _ _) | (with_reducible apply Below.drew) | (with_reducible refine below_drewN ?_ _) | (refine Below.setCell ?_ (by simp <;> omega) _) | (refine Below.alloc ?_ (by simp <;> omega) _)) : Below w3.heap.size w3 _)) ((Sl.of (HO_1_vA_f1.out.lies (lo := 0) (hi := w3.heap.size) (fun y hy => ⟨Nat.zero_le _, by have := hy.2; omega⟩))).later (by repeat (first | (with_reducible exact Below.refl _ _) | (with_reducible apply Below.drew) | (with_reducible refine below_drewN ?_ _) | (refine Below.setCell ?_ (by simp <;> omega) _) | (refine Below.alloc ?_ (by simp <;> omega) _)) : Below w3.heap.size w3 _) (Nat.le_refl _)) ((Sl.of (HO_1_vB_f3.out.lies (lo := 0) (hi := w3.heap.size) (fun y hy => ⟨Nat.zero_le _, by have := hy.2; omega⟩))).later (by repeat (first | (with_reducible exact Below.refl _ _) | (with_reducible apply Below.drew) | (with_reducible refine below_drewN ?_ _) | (refine Below.setCell ?_ (by simp <;> omega) _) | (refine Below.alloc ?_ (by simp <;> omega) _)) : Below w3.heap.size w3 _) (Nat.le_refl _))).mono ?_
            rintro e w4 ⟨a1_R_f4, c1_R_f4, rfl, ho, hb4⟩
            go_wp2_with fail
            exact freePost _ rfl ⟨hb4, Exists.intro a1_R_f4 (Exists.intro c1_R_f4 (And.intro upd_self ho))⟩
          · intro V L H w3 hb3 hd
            clear hd
            have HB3 := Lib.hid (HB2.out.trans (hb3.mono HB2.out.size))
            clear sz2_paA bx2_paA_0 bx2_paA_1 sz2_paB bx2_paB_0 bx2_paB_1
            go_wp2_with fail
            refine freePost _ rfl ⟨Below.alloc (Below.refl _ _) (Nat.le_refl _) _, upd_self, ?_, ?_, ?_, ?_, ?_⟩
            · simp
            all_goals go_simp
          · intro V L H w3 hb3 hd
            obtain ⟨⟨hL5, hM5, hH5, hv5, hlt5, hc5_0, hf5_0, hc5_1, hf5_1⟩, ⟨hL4, hM4, hH4, a1_R_f4, c1_R_f4, hv4, ho4_⟩, -⟩ := hd
            rw [hv5, hv4]
            have HV5 := Lib.hid hv5
            have HV4 := Lib.hid hv4
            clear hv5 hv4
            have HB3 := Lib.hid (HB2.out.trans (hb3.mono HB2.out.size))
            clear sz2_paA bx2_paA_0 bx2_paA_1 sz2_paB bx2_paB_0 bx2_paB_1
            go_wp2_with fail
            refine freePost undef rfl ⟨(Touches.put (L := L 5) (H := H 5) (Touches.put (L := L 5) (H := H 5) Touches.refl (p := ⟨L 5, 0, none⟩) ⟨Nat.le_refl _, hlt5⟩ _) (p := ⟨L 5, 1, none⟩) ⟨Nat.le_refl _, hlt5⟩ _), fun x0 x1 h => ?_⟩
            cases (HV4.out.symm.trans ((upd_ne (by decide)).symm.trans h))
            refine ⟨hlt5, ?_, ?_⟩
            all_goals go_simp
          · intro V L H w3 hb3 hd hap hdead
            obtain ⟨⟨hL0, hM0, hH0, hv0⟩, ⟨hL1, hM1, hH1, a1_vA_f1, c1_vA_f1, hv1, ho1_⟩, ⟨hL2, hM2, hH2, hv2⟩, ⟨hL3, hM3, hH3, a1_vB_f3, c1_vB_f3, hv3, ho3_⟩, ⟨hL4, hM4, hH4, a1_R_f4, c1_R_f4, hv4, ho4_⟩, ⟨hL6, hM6, hH6, hst6_⟩, -⟩ := hd
            obtain ⟨hLe, hHe, wo, hva, -⟩ := hdead 6 5 (by decide) rfl
            have hv4' := hv4
            obtain ⟨hlt, hc0, hc1⟩ := hst6_ _ _ hv4'
            rw [hv0, hv2, hv4', hva, hv1, hv3]
            clear hv0 hv2 hv4' hva hv1 hv3 hv4
            have hdis := hap 6 4 (by decide) (by decide) (by decide)
            clear hap hdead
            have HLe := Lib.hid hLe
            have HHe := Lib.hid hHe
            clear hLe hHe
            go_wp2_with fail
            go_meet
            have hLe := HLe.out
            have hHe := HHe.out
            refine ⟨L 5, L 4, H 4, a1_R_f4, c1_R_f4, rfl, ?_, ?_, ho4_, ?_, ?_, ?_, ?_, ?_, hb3⟩
            · rw [← hLe]; exact hc0
            · rw [← hLe]; exact hc1
            · omega
            · omega
            · omega
            · omega
            · omega
      case rest =>
        obtain ⟨bV5, lV5, hV5, a1_R_5, c1_R_5, rfl, bx5_w0_0, bx5_w0_1, ho5, sz5_w0, hB5, hL5, hH5, hD5, hb5⟩ := hcut
        obtain ⟨w5, rfl⟩ : ∃ w_ : World, w_ = wc := ⟨_, rfl⟩
        have hr5 : w2.heap.size ≤ w5.heap.size := hb5.size
        have hK5 : bV5 < w5.heap.size := sz5_w0
        have sz5_paA : w.heap.size < w5.heap.size := Nat.lt_of_lt_of_le sz2_paA hb5.size
        have bx5_paA_0 : w5.cell? ⟨w.heap.size, 0, none⟩ = some (.int .i64 vA.fN) := (hb5.cell (p := ⟨w.heap.size, 0, none⟩) sz2_paA).trans bx2_paA_0
        have bx5_paA_1 : w5.cell? ⟨w.heap.size, 1, none⟩ = some (.slice a1_vA vA.fRows.length c1_vA) := (hb5.cell (p := ⟨w.heap.size, 1, none⟩) sz2_paA).trans bx2_paA_1
        have sz5_paB : w.heap.size + 1 < w5.heap.size := Nat.lt_of_lt_of_le sz2_paB hb5.size
        have bx5_paB_0 : w5.cell? ⟨w.heap.size + 1, 0, none⟩ = some (.int .i64 vB.fN) := (hb5.cell (p := ⟨w.heap.size + 1, 0, none⟩) sz2_paB).trans bx2_paB_0
        have bx5_paB_1 : w5.cell? ⟨w.heap.size + 1, 1, none⟩ = some (.slice a1_vB vB.fRows.length c1_vB) := (hb5.cell (p := ⟨w.heap.size + 1, 1, none⟩) sz2_paB).trans bx2_paB_1
        have HO5_1_R_5 := Lib.hid ho5
        have HB5 := Lib.hid (HB2.out.trans (hb5.mono HB2.out.size))
        clear hb5 ho5 bx2_paA_0 bx2_paA_1 sz2_paA bx2_paB_0 bx2_paB_1 sz2_paB HB2
        go_wp2_with fail
        refine (laws_toRelation (c1 := c1_vA) vA hq_vA _ (Below.size (by repeat (first | (with_reducible exact Below.refl _ _) | (with_reducible apply Below.drew) | (with_reducible refine below_drewN ?_ _) | (refine Below.setCell ?_ (by simp <;> omega) _) | (refine Below.alloc ?_ (by simp <;> omega) _)) : Below w5.heap.size w5 _)) ((HS_1_vA.out.later (HB5.out.trans ((by repeat (first | (with_reducible exact Below.refl _ _) | (with_reducible apply Below.drew) | (with_reducible refine below_drewN ?_ _) | (refine Below.setCell ?_ (by simp <;> omega) _) | (refine Below.alloc ?_ (by simp <;> omega) _)) : Below w5.heap.size w5 _).mono HB5.out.size)) (Nat.le_refl _)).mono (Nat.le_refl _) HB5.out.size)).mono ?_
        rintro e w6 ⟨a1_vA_6, c1_vA_6, rfl, ho6, hb6⟩
        have hst6 : Below w5.heap.size w5 w6 := Below.trans (by repeat (first | (with_reducible exact Below.refl _ _) | (with_reducible apply Below.drew) | (with_reducible refine below_drewN ?_ _) | (refine Below.setCell ?_ (by simp <;> omega) _) | (refine Below.alloc ?_ (by simp <;> omega) _)) : Below w5.heap.size w5 _) (hb6.mono (Below.size (by repeat (first | (with_reducible exact Below.refl _ _) | (with_reducible apply Below.drew) | (with_reducible refine below_drewN ?_ _) | (refine Below.setCell ?_ (by simp <;> omega) _) | (refine Below.alloc ?_ (by simp <;> omega) _)) : Below w5.heap.size w5 _)))
        have hr6 : w5.heap.size ≤ w6.heap.size := Nat.le_trans (by first | exact Nat.le_refl _ | (simp; done) | (simp; omega) | (simp [World.setCell]; done) | (simp [World.setCell]; omega)) hb6.size
        have sz6_paA : w.heap.size < w6.heap.size := Nat.lt_of_lt_of_le sz5_paA hst6.size
        have bx6_paA_0 : w6.cell? ⟨w.heap.size, 0, none⟩ = some (.int .i64 vA.fN) := (hst6.cell (p := ⟨w.heap.size, 0, none⟩) sz5_paA).trans bx5_paA_0
        have bx6_paA_1 : w6.cell? ⟨w.heap.size, 1, none⟩ = some (.slice a1_vA vA.fRows.length c1_vA) := (hst6.cell (p := ⟨w.heap.size, 1, none⟩) sz5_paA).trans bx5_paA_1
        have sz6_paB : w.heap.size + 1 < w6.heap.size := Nat.lt_of_lt_of_le sz5_paB hst6.size
        have bx6_paB_0 : w6.cell? ⟨w.heap.size + 1, 0, none⟩ = some (.int .i64 vB.fN) := (hst6.cell (p := ⟨w.heap.size + 1, 0, none⟩) sz5_paB).trans bx5_paB_0
        have bx6_paB_1 : w6.cell? ⟨w.heap.size + 1, 1, none⟩ = some (.slice a1_vB vB.fRows.length c1_vB) := (hst6.cell (p := ⟨w.heap.size + 1, 1, none⟩) sz5_paB).trans bx5_paB_1
        have sz6_w0 : bV5 < w6.heap.size := Nat.lt_of_lt_of_le sz5_w0 hst6.size
        have bx6_w0_0 : w6.cell? ⟨bV5, 0, none⟩ = some (.int .i64 (unionRel vA vB).fN) := (hst6.cell (p := ⟨bV5, 0, none⟩) sz5_w0).trans bx5_w0_0
        have bx6_w0_1 : w6.cell? ⟨bV5, 1, none⟩ = some (.slice a1_R_5 (unionRel vA vB).fRows.length c1_R_5) := (hst6.cell (p := ⟨bV5, 1, none⟩) sz5_w0).trans bx5_w0_1
        have HO6_1_R_5 := Lib.hid (HO5_1_R_5.out.kept (Kept.of_below_all hst6))
        have HO6_1_vA_6 := Lib.hid (show Own w6 (fun y => w5.heap.size ≤ y ∧ y < w6.heap.size) (.sl 1 vA.fRows.length (fun k => ictI (vA.fRows.getD k default))) (.slice a1_vA_6 vA.fRows.length c1_vA_6) from Own.sub (F := fun y => _ ≤ y ∧ y < _) (OwnR.at ho6 1 (by decide)) (fun y hy => ⟨Nat.le_trans (by first | exact Nat.le_refl _ | (simp; done) | (simp; omega) | (simp [World.setCell]; done) | (simp [World.setCell]; omega)) hy.1, hy.2⟩))
        have HB6 := Lib.hid (HB5.out.trans (hst6.mono HB5.out.size))
        clear bx5_paA_0 bx5_paA_1 sz5_paA bx5_paB_0 bx5_paB_1 sz5_paB bx5_w0_0 bx5_w0_1 sz5_w0 HO5_1_R_5 ho6 hb6 hst6 HB5
        go_wp2_with fail
        refine (laws_toRelation (c1 := c1_vB) vB hq_vB _ (Below.size (by repeat (first | (with_reducible exact Below.refl _ _) | (with_reducible apply Below.drew) | (with_reducible refine below_drewN ?_ _) | (refine Below.setCell ?_ (by simp <;> omega) _) | (refine Below.alloc ?_ (by simp <;> omega) _)) : Below w6.heap.size w6 _)) ((HS_1_vB.out.later (HB6.out.trans ((by repeat (first | (with_reducible exact Below.refl _ _) | (with_reducible apply Below.drew) | (with_reducible refine below_drewN ?_ _) | (refine Below.setCell ?_ (by simp <;> omega) _) | (refine Below.alloc ?_ (by simp <;> omega) _)) : Below w6.heap.size w6 _).mono HB6.out.size)) (Nat.le_refl _)).mono (Nat.le_refl _) HB6.out.size)).mono ?_
        rintro e w7 ⟨a1_vB_7, c1_vB_7, rfl, ho7, hb7⟩
        have hst7 : Below w6.heap.size w6 w7 := Below.trans (by repeat (first | (with_reducible exact Below.refl _ _) | (with_reducible apply Below.drew) | (with_reducible refine below_drewN ?_ _) | (refine Below.setCell ?_ (by simp <;> omega) _) | (refine Below.alloc ?_ (by simp <;> omega) _)) : Below w6.heap.size w6 _) (hb7.mono (Below.size (by repeat (first | (with_reducible exact Below.refl _ _) | (with_reducible apply Below.drew) | (with_reducible refine below_drewN ?_ _) | (refine Below.setCell ?_ (by simp <;> omega) _) | (refine Below.alloc ?_ (by simp <;> omega) _)) : Below w6.heap.size w6 _)))
        have hr7 : w6.heap.size + 1 ≤ w7.heap.size := Nat.le_trans (by first | exact Nat.le_refl _ | (simp; done) | (simp; omega) | (simp [World.setCell]; done) | (simp [World.setCell]; omega)) hb7.size
        have sz7_paA : w.heap.size < w7.heap.size := Nat.lt_of_lt_of_le sz6_paA hst7.size
        have bx7_paA_0 : w7.cell? ⟨w.heap.size, 0, none⟩ = some (.int .i64 vA.fN) := (hst7.cell (p := ⟨w.heap.size, 0, none⟩) sz6_paA).trans bx6_paA_0
        have bx7_paA_1 : w7.cell? ⟨w.heap.size, 1, none⟩ = some (.slice a1_vA vA.fRows.length c1_vA) := (hst7.cell (p := ⟨w.heap.size, 1, none⟩) sz6_paA).trans bx6_paA_1
        have sz7_paB : w.heap.size + 1 < w7.heap.size := Nat.lt_of_lt_of_le sz6_paB hst7.size
        have bx7_paB_0 : w7.cell? ⟨w.heap.size + 1, 0, none⟩ = some (.int .i64 vB.fN) := (hst7.cell (p := ⟨w.heap.size + 1, 0, none⟩) sz6_paB).trans bx6_paB_0
        have bx7_paB_1 : w7.cell? ⟨w.heap.size + 1, 1, none⟩ = some (.slice a1_vB vB.fRows.length c1_vB) := (hst7.cell (p := ⟨w.heap.size + 1, 1, none⟩) sz6_paB).trans bx6_paB_1
        have sz7_w0 : bV5 < w7.heap.size := Nat.lt_of_lt_of_le sz6_w0 hst7.size
        have bx7_w0_0 : w7.cell? ⟨bV5, 0, none⟩ = some (.int .i64 (unionRel vA vB).fN) := (hst7.cell (p := ⟨bV5, 0, none⟩) sz6_w0).trans bx6_w0_0
        have bx7_w0_1 : w7.cell? ⟨bV5, 1, none⟩ = some (.slice a1_R_5 (unionRel vA vB).fRows.length c1_R_5) := (hst7.cell (p := ⟨bV5, 1, none⟩) sz6_w0).trans bx6_w0_1
        have sz7_x0 : w6.heap.size < w7.heap.size := Nat.lt_of_lt_of_le (by first | omega | (simp; done) | (simp; omega) | (simp [World.setCell]; omega)) hb7.size
        have bx7_x0_0 : w7.cell? ⟨w6.heap.size, 0, none⟩ = some (.int .i64 vA.fN) := (hb7.cell (p := ⟨w6.heap.size, 0, none⟩) (by first | omega | (simp; done) | (simp; omega) | (simp [World.setCell]; omega))).trans (by go_simp)
        have bx7_x0_1 : w7.cell? ⟨w6.heap.size, 1, none⟩ = some (.slice a1_vA_6 vA.fRows.length c1_vA_6) := (hb7.cell (p := ⟨w6.heap.size, 1, none⟩) (by first | omega | (simp; done) | (simp; omega) | (simp [World.setCell]; omega))).trans (by go_simp)
        have HO7_1_R_5 := Lib.hid (HO6_1_R_5.out.kept (Kept.of_below_all hst7))
        have HO7_1_vA_6 := Lib.hid (HO6_1_vA_6.out.kept (Kept.of_below_all hst7))
        have HO7_1_vB_7 := Lib.hid (show Own w7 (fun y => w6.heap.size + 1 ≤ y ∧ y < w7.heap.size) (.sl 1 vB.fRows.length (fun k => ictI (vB.fRows.getD k default))) (.slice a1_vB_7 vB.fRows.length c1_vB_7) from Own.sub (F := fun y => _ ≤ y ∧ y < _) (OwnR.at ho7 1 (by decide)) (fun y hy => ⟨Nat.le_trans (by first | exact Nat.le_refl _ | (simp; done) | (simp; omega) | (simp [World.setCell]; done) | (simp [World.setCell]; omega)) hy.1, hy.2⟩))
        have HB7 := Lib.hid (HB6.out.trans (hst7.mono HB6.out.size))
        clear bx6_paA_0 bx6_paA_1 sz6_paA bx6_paB_0 bx6_paB_1 sz6_paB bx6_w0_0 bx6_w0_1 sz6_w0 HO6_1_R_5 HO6_1_vA_6 ho7 hb7 hst7 HB6
        go_wp2_with fail
        refine (impl_UnionRelation (c0_0 := c1_vA_6) (c1_0 := c1_vB_7) vA OK_vA.out hq_vA vB OK_vB.out hq_vB _ (Below.size (by repeat (first | (with_reducible exact Below.refl _ _) | (with_reducible apply Below.drew) | (with_reducible refine below_drewN ?_ _) | (refine Below.setCell ?_ (by simp <;> omega) _) | (refine Below.alloc ?_ (by simp <;> omega) _)) : Below w7.heap.size w7 _)) ((Sl.of (HO7_1_vA_6.out.lies (lo := 0) (hi := w7.heap.size) (fun y hy => ⟨Nat.zero_le _, by have := hy.2; omega⟩))).later (by repeat (first | (with_reducible exact Below.refl _ _) | (with_reducible apply Below.drew) | (with_reducible refine below_drewN ?_ _) | (refine Below.setCell ?_ (by simp <;> omega) _) | (refine Below.alloc ?_ (by simp <;> omega) _)) : Below w7.heap.size w7 _) (Nat.le_refl _)) ((Sl.of (HO7_1_vB_7.out.lies (lo := 0) (hi := w7.heap.size) (fun y hy => ⟨Nat.zero_le _, by have := hy.2; omega⟩))).later (by repeat (first | (with_reducible exact Below.refl _ _) | (with_reducible apply Below.drew) | (with_reducible refine below_drewN ?_ _) | (refine Below.setCell ?_ (by simp <;> omega) _) | (refine Below.alloc ?_ (by simp <;> omega) _)) : Below w7.heap.size w7 _) (Nat.le_refl _))).mono ?_
        rintro e w8 ⟨a1_R_8, c1_R_8, rfl, ho8, hb8⟩
        have hst8 : Below w7.heap.size w7 w8 := Below.trans (by repeat (first | (with_reducible exact Below.refl _ _) | (with_reducible apply Below.drew) | (with_reducible refine below_drewN ?_ _) | (refine Below.setCell ?_ (by simp <;> omega) _) | (refine Below.alloc ?_ (by simp <;> omega) _)) : Below w7.heap.size w7 _) (hb8.mono (Below.size (by repeat (first | (with_reducible exact Below.refl _ _) | (with_reducible apply Below.drew) | (with_reducible refine below_drewN ?_ _) | (refine Below.setCell ?_ (by simp <;> omega) _) | (refine Below.alloc ?_ (by simp <;> omega) _)) : Below w7.heap.size w7 _)))
        have hr8 : w7.heap.size + 1 ≤ w8.heap.size := Nat.le_trans (by first | exact Nat.le_refl _ | (simp; done) | (simp; omega) | (simp [World.setCell]; done) | (simp [World.setCell]; omega)) hb8.size
        have sz8_paA : w.heap.size < w8.heap.size := Nat.lt_of_lt_of_le sz7_paA hst8.size
        have bx8_paA_0 : w8.cell? ⟨w.heap.size, 0, none⟩ = some (.int .i64 vA.fN) := (hst8.cell (p := ⟨w.heap.size, 0, none⟩) sz7_paA).trans bx7_paA_0
        have bx8_paA_1 : w8.cell? ⟨w.heap.size, 1, none⟩ = some (.slice a1_vA vA.fRows.length c1_vA) := (hst8.cell (p := ⟨w.heap.size, 1, none⟩) sz7_paA).trans bx7_paA_1
        have sz8_paB : w.heap.size + 1 < w8.heap.size := Nat.lt_of_lt_of_le sz7_paB hst8.size
        have bx8_paB_0 : w8.cell? ⟨w.heap.size + 1, 0, none⟩ = some (.int .i64 vB.fN) := (hst8.cell (p := ⟨w.heap.size + 1, 0, none⟩) sz7_paB).trans bx7_paB_0
        have bx8_paB_1 : w8.cell? ⟨w.heap.size + 1, 1, none⟩ = some (.slice a1_vB vB.fRows.length c1_vB) := (hst8.cell (p := ⟨w.heap.size + 1, 1, none⟩) sz7_paB).trans bx7_paB_1
        have sz8_w0 : bV5 < w8.heap.size := Nat.lt_of_lt_of_le sz7_w0 hst8.size
        have bx8_w0_0 : w8.cell? ⟨bV5, 0, none⟩ = some (.int .i64 (unionRel vA vB).fN) := (hst8.cell (p := ⟨bV5, 0, none⟩) sz7_w0).trans bx7_w0_0
        have bx8_w0_1 : w8.cell? ⟨bV5, 1, none⟩ = some (.slice a1_R_5 (unionRel vA vB).fRows.length c1_R_5) := (hst8.cell (p := ⟨bV5, 1, none⟩) sz7_w0).trans bx7_w0_1
        have sz8_x0 : w6.heap.size < w8.heap.size := Nat.lt_of_lt_of_le sz7_x0 hst8.size
        have bx8_x0_0 : w8.cell? ⟨w6.heap.size, 0, none⟩ = some (.int .i64 vA.fN) := (hst8.cell (p := ⟨w6.heap.size, 0, none⟩) sz7_x0).trans bx7_x0_0
        have bx8_x0_1 : w8.cell? ⟨w6.heap.size, 1, none⟩ = some (.slice a1_vA_6 vA.fRows.length c1_vA_6) := (hst8.cell (p := ⟨w6.heap.size, 1, none⟩) sz7_x0).trans bx7_x0_1
        have sz8_x1 : w7.heap.size < w8.heap.size := Nat.lt_of_lt_of_le (by first | omega | (simp; done) | (simp; omega) | (simp [World.setCell]; omega)) hb8.size
        have bx8_x1_0 : w8.cell? ⟨w7.heap.size, 0, none⟩ = some (.int .i64 vB.fN) := (hb8.cell (p := ⟨w7.heap.size, 0, none⟩) (by first | omega | (simp; done) | (simp; omega) | (simp [World.setCell]; omega))).trans (by go_simp)
        have bx8_x1_1 : w8.cell? ⟨w7.heap.size, 1, none⟩ = some (.slice a1_vB_7 vB.fRows.length c1_vB_7) := (hb8.cell (p := ⟨w7.heap.size, 1, none⟩) (by first | omega | (simp; done) | (simp; omega) | (simp [World.setCell]; omega))).trans (by go_simp)
        have HO8_1_R_5 := Lib.hid (HO7_1_R_5.out.kept (Kept.of_below_all hst8))
        have HO8_1_vA_6 := Lib.hid (HO7_1_vA_6.out.kept (Kept.of_below_all hst8))
        have HO8_1_vB_7 := Lib.hid (HO7_1_vB_7.out.kept (Kept.of_below_all hst8))
        have HO8_1_R_8 := Lib.hid (show Own w8 (fun y => w7.heap.size + 1 ≤ y ∧ y < w8.heap.size) (.sl 1 (unionRel vA vB).fRows.length (fun k => ictI ((unionRel vA vB).fRows.getD k default))) (.slice a1_R_8 (unionRel vA vB).fRows.length c1_R_8) from Own.sub (F := fun y => _ ≤ y ∧ y < _) ho8 (fun y hy => ⟨Nat.le_trans (by first | exact Nat.le_refl _ | (simp; done) | (simp; omega) | (simp [World.setCell]; done) | (simp [World.setCell]; omega)) hy.1, hy.2⟩))
        have HB8 := Lib.hid (HB7.out.trans (hst8.mono HB7.out.size))
        clear bx7_paA_0 bx7_paA_1 sz7_paA bx7_paB_0 bx7_paB_1 sz7_paB bx7_w0_0 bx7_w0_1 sz7_w0 bx7_x0_0 bx7_x0_1 sz7_x0 HO7_1_R_5 HO7_1_vA_6 HO7_1_vB_7 ho8 hb8 hst8 HB7
        go_wp2_with fail
        refine (laws_eqRelation (c1 := c1_R_8) (c1q := c1_R_5) (unionRel vA vB) hq_R _ (Below.size (by repeat (first | (with_reducible exact Below.refl _ _) | (with_reducible apply Below.drew) | (with_reducible refine below_drewN ?_ _) | (refine Below.setCell ?_ (by simp <;> omega) _) | (refine Below.alloc ?_ (by simp <;> omega) _)) : Below w8.heap.size w8 _)) (Below.size (by repeat (first | (with_reducible exact Below.refl _ _) | (with_reducible apply Below.drew) | (with_reducible refine below_drewN ?_ _) | (refine Below.setCell ?_ (by simp <;> omega) _) | (refine Below.alloc ?_ (by simp <;> omega) _)) : Below w8.heap.size w8 _)) ((Sl.of (HO8_1_R_8.out.lies (lo := 0) (hi := w8.heap.size) (fun y hy => ⟨Nat.zero_le _, by have := hy.2; omega⟩))).later (by repeat (first | (with_reducible exact Below.refl _ _) | (with_reducible apply Below.drew) | (with_reducible refine below_drewN ?_ _) | (refine Below.setCell ?_ (by simp <;> omega) _) | (refine Below.alloc ?_ (by simp <;> omega) _)) : Below w8.heap.size w8 _) (Nat.le_refl _)) ((Sl.of (HO8_1_R_5.out.lies (lo := 0) (hi := w8.heap.size) (fun y hy => ⟨Nat.zero_le _, by have := hy.2; omega⟩))).later (by repeat (first | (with_reducible exact Below.refl _ _) | (with_reducible apply Below.drew) | (with_reducible refine below_drewN ?_ _) | (refine Below.setCell ?_ (by simp <;> omega) _) | (refine Below.alloc ?_ (by simp <;> omega) _)) : Below w8.heap.size w8 _) (Nat.le_refl _))).mono ?_
        rintro e w9 ⟨rfl, hb9⟩
        have hst9 : Below w8.heap.size w8 w9 := Below.trans (by repeat (first | (with_reducible exact Below.refl _ _) | (with_reducible apply Below.drew) | (with_reducible refine below_drewN ?_ _) | (refine Below.setCell ?_ (by simp <;> omega) _) | (refine Below.alloc ?_ (by simp <;> omega) _)) : Below w8.heap.size w8 _) (hb9.mono (Below.size (by repeat (first | (with_reducible exact Below.refl _ _) | (with_reducible apply Below.drew) | (with_reducible refine below_drewN ?_ _) | (refine Below.setCell ?_ (by simp <;> omega) _) | (refine Below.alloc ?_ (by simp <;> omega) _)) : Below w8.heap.size w8 _)))
        have hr9 : w8.heap.size + 1 ≤ w9.heap.size := Nat.le_trans (by first | exact Nat.le_refl _ | (simp; done) | (simp; omega) | (simp [World.setCell]; done) | (simp [World.setCell]; omega)) hb9.size
        have sz9_paA : w.heap.size < w9.heap.size := Nat.lt_of_lt_of_le sz8_paA hst9.size
        have bx9_paA_0 : w9.cell? ⟨w.heap.size, 0, none⟩ = some (.int .i64 vA.fN) := (hst9.cell (p := ⟨w.heap.size, 0, none⟩) sz8_paA).trans bx8_paA_0
        have bx9_paA_1 : w9.cell? ⟨w.heap.size, 1, none⟩ = some (.slice a1_vA vA.fRows.length c1_vA) := (hst9.cell (p := ⟨w.heap.size, 1, none⟩) sz8_paA).trans bx8_paA_1
        have sz9_paB : w.heap.size + 1 < w9.heap.size := Nat.lt_of_lt_of_le sz8_paB hst9.size
        have bx9_paB_0 : w9.cell? ⟨w.heap.size + 1, 0, none⟩ = some (.int .i64 vB.fN) := (hst9.cell (p := ⟨w.heap.size + 1, 0, none⟩) sz8_paB).trans bx8_paB_0
        have bx9_paB_1 : w9.cell? ⟨w.heap.size + 1, 1, none⟩ = some (.slice a1_vB vB.fRows.length c1_vB) := (hst9.cell (p := ⟨w.heap.size + 1, 1, none⟩) sz8_paB).trans bx8_paB_1
        have sz9_w0 : bV5 < w9.heap.size := Nat.lt_of_lt_of_le sz8_w0 hst9.size
        have bx9_w0_0 : w9.cell? ⟨bV5, 0, none⟩ = some (.int .i64 (unionRel vA vB).fN) := (hst9.cell (p := ⟨bV5, 0, none⟩) sz8_w0).trans bx8_w0_0
        have bx9_w0_1 : w9.cell? ⟨bV5, 1, none⟩ = some (.slice a1_R_5 (unionRel vA vB).fRows.length c1_R_5) := (hst9.cell (p := ⟨bV5, 1, none⟩) sz8_w0).trans bx8_w0_1
        have sz9_x0 : w6.heap.size < w9.heap.size := Nat.lt_of_lt_of_le sz8_x0 hst9.size
        have bx9_x0_0 : w9.cell? ⟨w6.heap.size, 0, none⟩ = some (.int .i64 vA.fN) := (hst9.cell (p := ⟨w6.heap.size, 0, none⟩) sz8_x0).trans bx8_x0_0
        have bx9_x0_1 : w9.cell? ⟨w6.heap.size, 1, none⟩ = some (.slice a1_vA_6 vA.fRows.length c1_vA_6) := (hst9.cell (p := ⟨w6.heap.size, 1, none⟩) sz8_x0).trans bx8_x0_1
        have sz9_x1 : w7.heap.size < w9.heap.size := Nat.lt_of_lt_of_le sz8_x1 hst9.size
        have bx9_x1_0 : w9.cell? ⟨w7.heap.size, 0, none⟩ = some (.int .i64 vB.fN) := (hst9.cell (p := ⟨w7.heap.size, 0, none⟩) sz8_x1).trans bx8_x1_0
        have bx9_x1_1 : w9.cell? ⟨w7.heap.size, 1, none⟩ = some (.slice a1_vB_7 vB.fRows.length c1_vB_7) := (hst9.cell (p := ⟨w7.heap.size, 1, none⟩) sz8_x1).trans bx8_x1_1
        have sz9_g0 : w8.heap.size < w9.heap.size := Nat.lt_of_lt_of_le (by first | omega | (simp; done) | (simp; omega) | (simp [World.setCell]; omega)) hb9.size
        have bx9_g0_0 : w9.cell? ⟨w8.heap.size, 0, none⟩ = some (.int .i64 (unionRel vA vB).fN) := (hb9.cell (p := ⟨w8.heap.size, 0, none⟩) (by first | omega | (simp; done) | (simp; omega) | (simp [World.setCell]; omega))).trans (by go_simp)
        have bx9_g0_1 : w9.cell? ⟨w8.heap.size, 1, none⟩ = some (.slice a1_R_8 (unionRel vA vB).fRows.length c1_R_8) := (hb9.cell (p := ⟨w8.heap.size, 1, none⟩) (by first | omega | (simp; done) | (simp; omega) | (simp [World.setCell]; omega))).trans (by go_simp)
        have HO9_1_R_5 := Lib.hid (HO8_1_R_5.out.kept (Kept.of_below_all hst9))
        have HO9_1_vA_6 := Lib.hid (HO8_1_vA_6.out.kept (Kept.of_below_all hst9))
        have HO9_1_vB_7 := Lib.hid (HO8_1_vB_7.out.kept (Kept.of_below_all hst9))
        have HO9_1_R_8 := Lib.hid (HO8_1_R_8.out.kept (Kept.of_below_all hst9))
        have HB9 := Lib.hid (HB8.out.trans (hst9.mono HB8.out.size))
        clear bx8_paA_0 bx8_paA_1 sz8_paA bx8_paB_0 bx8_paB_1 sz8_paB bx8_w0_0 bx8_w0_1 sz8_w0 bx8_x0_0 bx8_x0_1 sz8_x0 bx8_x1_0 bx8_x1_1 sz8_x1 HO8_1_R_5 HO8_1_vA_6 HO8_1_vB_7 HO8_1_R_8 hb9 hst9 HB8
        go_wp2_with fail
        go_region_with ((first | (go_at_call 8; refine (laws_toRelation (c1 := c1_vA) vA hq_vA _ (Below.size (by repeat (first | (with_reducible exact Below.refl _ _) | (with_reducible apply Below.drew) | (with_reducible refine below_drewN ?_ _) | (refine Below.setCell ?_ (by simp <;> omega) _) | (refine Below.alloc ?_ (by simp <;> omega) _)) : Below w9.heap.size w9 _)) ((HS_1_vA.out.later (HB9.out.trans ((by repeat (first | (with_reducible exact Below.refl _ _) | (with_reducible apply Below.drew) | (with_reducible refine below_drewN ?_ _) | (refine Below.setCell ?_ (by simp <;> omega) _) | (refine Below.alloc ?_ (by simp <;> omega) _)) : Below w9.heap.size w9 _).mono HB9.out.size)) (Nat.le_refl _)).mono (Nat.le_refl _) HB9.out.size)).mono ?_; rintro e w10 ⟨a1_vA_10, c1_vA_10, rfl, ho10, hb10⟩; have hst10 : Below w9.heap.size w9 w10 := Below.trans (by repeat (first | (with_reducible exact Below.refl _ _) | (with_reducible apply Below.drew) | (with_reducible refine below_drewN ?_ _) | (refine Below.setCell ?_ (by simp <;> omega) _) | (refine Below.alloc ?_ (by simp <;> omega) _)) : Below w9.heap.size w9 _) (hb10.mono (Below.size (by repeat (first | (with_reducible exact Below.refl _ _) | (with_reducible apply Below.drew) | (with_reducible refine below_drewN ?_ _) | (refine Below.setCell ?_ (by simp <;> omega) _) | (refine Below.alloc ?_ (by simp <;> omega) _)) : Below w9.heap.size w9 _))); have hr10 : w9.heap.size ≤ w10.heap.size := Nat.le_trans (by first | exact Nat.le_refl _ | (simp; done) | (simp; omega) | (simp [World.setCell]; done) | (simp [World.setCell]; omega)) hb10.size; have sz10_paA : w.heap.size < w10.heap.size := Nat.lt_of_lt_of_le sz9_paA hst10.size; have bx10_paA_0 : w10.cell? ⟨w.heap.size, 0, none⟩ = some (.int .i64 vA.fN) := (hst10.cell (p := ⟨w.heap.size, 0, none⟩) sz9_paA).trans bx9_paA_0; have bx10_paA_1 : w10.cell? ⟨w.heap.size, 1, none⟩ = some (.slice a1_vA vA.fRows.length c1_vA) := (hst10.cell (p := ⟨w.heap.size, 1, none⟩) sz9_paA).trans bx9_paA_1; have sz10_paB : w.heap.size + 1 < w10.heap.size := Nat.lt_of_lt_of_le sz9_paB hst10.size; have bx10_paB_0 : w10.cell? ⟨w.heap.size + 1, 0, none⟩ = some (.int .i64 vB.fN) := (hst10.cell (p := ⟨w.heap.size + 1, 0, none⟩) sz9_paB).trans bx9_paB_0; have bx10_paB_1 : w10.cell? ⟨w.heap.size + 1, 1, none⟩ = some (.slice a1_vB vB.fRows.length c1_vB) := (hst10.cell (p := ⟨w.heap.size + 1, 1, none⟩) sz9_paB).trans bx9_paB_1; have sz10_w0 : bV5 < w10.heap.size := Nat.lt_of_lt_of_le sz9_w0 hst10.size; have bx10_w0_0 : w10.cell? ⟨bV5, 0, none⟩ = some (.int .i64 (unionRel vA vB).fN) := (hst10.cell (p := ⟨bV5, 0, none⟩) sz9_w0).trans bx9_w0_0; have bx10_w0_1 : w10.cell? ⟨bV5, 1, none⟩ = some (.slice a1_R_5 (unionRel vA vB).fRows.length c1_R_5) := (hst10.cell (p := ⟨bV5, 1, none⟩) sz9_w0).trans bx9_w0_1; have sz10_x0 : w6.heap.size < w10.heap.size := Nat.lt_of_lt_of_le sz9_x0 hst10.size; have bx10_x0_0 : w10.cell? ⟨w6.heap.size, 0, none⟩ = some (.int .i64 vA.fN) := (hst10.cell (p := ⟨w6.heap.size, 0, none⟩) sz9_x0).trans bx9_x0_0; have bx10_x0_1 : w10.cell? ⟨w6.heap.size, 1, none⟩ = some (.slice a1_vA_6 vA.fRows.length c1_vA_6) := (hst10.cell (p := ⟨w6.heap.size, 1, none⟩) sz9_x0).trans bx9_x0_1; have sz10_x1 : w7.heap.size < w10.heap.size := Nat.lt_of_lt_of_le sz9_x1 hst10.size; have bx10_x1_0 : w10.cell? ⟨w7.heap.size, 0, none⟩ = some (.int .i64 vB.fN) := (hst10.cell (p := ⟨w7.heap.size, 0, none⟩) sz9_x1).trans bx9_x1_0; have bx10_x1_1 : w10.cell? ⟨w7.heap.size, 1, none⟩ = some (.slice a1_vB_7 vB.fRows.length c1_vB_7) := (hst10.cell (p := ⟨w7.heap.size, 1, none⟩) sz9_x1).trans bx9_x1_1; have sz10_g0 : w8.heap.size < w10.heap.size := Nat.lt_of_lt_of_le sz9_g0 hst10.size; have bx10_g0_0 : w10.cell? ⟨w8.heap.size, 0, none⟩ = some (.int .i64 (unionRel vA vB).fN) := (hst10.cell (p := ⟨w8.heap.size, 0, none⟩) sz9_g0).trans bx9_g0_0; have bx10_g0_1 : w10.cell? ⟨w8.heap.size, 1, none⟩ = some (.slice a1_R_8 (unionRel vA vB).fRows.length c1_R_8) := (hst10.cell (p := ⟨w8.heap.size, 1, none⟩) sz9_g0).trans bx9_g0_1; have HO10_1_R_5 := Lib.hid (HO9_1_R_5.out.kept (Kept.of_below_all hst10)); have HO10_1_vA_6 := Lib.hid (HO9_1_vA_6.out.kept (Kept.of_below_all hst10)); have HO10_1_vB_7 := Lib.hid (HO9_1_vB_7.out.kept (Kept.of_below_all hst10)); have HO10_1_R_8 := Lib.hid (HO9_1_R_8.out.kept (Kept.of_below_all hst10)); have HO10_1_vA_10 := Lib.hid (show Own w10 (fun y => w9.heap.size ≤ y ∧ y < w10.heap.size) (.sl 1 vA.fRows.length (fun k => ictI (vA.fRows.getD k default))) (.slice a1_vA_10 vA.fRows.length c1_vA_10) from Own.sub (F := fun y => _ ≤ y ∧ y < _) (OwnR.at ho10 1 (by decide)) (fun y hy => ⟨Nat.le_trans (by first | exact Nat.le_refl _ | (simp; done) | (simp; omega) | (simp [World.setCell]; done) | (simp [World.setCell]; omega)) hy.1, hy.2⟩)); have HB10 := Lib.hid (HB9.out.trans (hst10.mono HB9.out.size)); clear bx9_paA_0 bx9_paA_1 sz9_paA bx9_paB_0 bx9_paB_1 sz9_paB bx9_w0_0 bx9_w0_1 sz9_w0 bx9_x0_0 bx9_x0_1 sz9_x0 bx9_x1_0 bx9_x1_1 sz9_x1 bx9_g0_0 bx9_g0_1 sz9_g0 HO9_1_R_5 HO9_1_vA_6 HO9_1_vB_7 HO9_1_R_8 ho10 hb10 hst10 HB9) | (go_at_call 10; refine (laws_eqRelation (c1 := c1_vA_6) (c1q := c1_vA_10) vA hq_vA _ (Below.size (by repeat (first | (with_reducible exact Below.refl _ _) | (with_reducible apply Below.drew) | (with_reducible refine below_drewN ?_ _) | (refine Below.setCell ?_ (by simp <;> omega) _) | (refine Below.alloc ?_ (by simp <;> omega) _)) : Below w10.heap.size w10 _)) (Below.size (by repeat (first | (with_reducible exact Below.refl _ _) | (with_reducible apply Below.drew) | (with_reducible refine below_drewN ?_ _) | (refine Below.setCell ?_ (by simp <;> omega) _) | (refine Below.alloc ?_ (by simp <;> omega) _)) : Below w10.heap.size w10 _)) ((Sl.of (HO10_1_vA_6.out.lies (lo := 0) (hi := w10.heap.size) (fun y hy => ⟨Nat.zero_le _, by have := hy.2; omega⟩))).later (by repeat (first | (with_reducible exact Below.refl _ _) | (with_reducible apply Below.drew) | (with_reducible refine below_drewN ?_ _) | (refine Below.setCell ?_ (by simp <;> omega) _) | (refine Below.alloc ?_ (by simp <;> omega) _)) : Below w10.heap.size w10 _) (Nat.le_refl _)) ((Sl.of (HO10_1_vA_10.out.lies (lo := 0) (hi := w10.heap.size) (fun y hy => ⟨Nat.zero_le _, by have := hy.2; omega⟩))).later (by repeat (first | (with_reducible exact Below.refl _ _) | (with_reducible apply Below.drew) | (with_reducible refine below_drewN ?_ _) | (refine Below.setCell ?_ (by simp <;> omega) _) | (refine Below.alloc ?_ (by simp <;> omega) _)) : Below w10.heap.size w10 _) (Nat.le_refl _))).mono ?_; rintro e w11 ⟨rfl, hb11⟩; have hst11 : Below w10.heap.size w10 w11 := Below.trans (by repeat (first | (with_reducible exact Below.refl _ _) | (with_reducible apply Below.drew) | (with_reducible refine below_drewN ?_ _) | (refine Below.setCell ?_ (by simp <;> omega) _) | (refine Below.alloc ?_ (by simp <;> omega) _)) : Below w10.heap.size w10 _) (hb11.mono (Below.size (by repeat (first | (with_reducible exact Below.refl _ _) | (with_reducible apply Below.drew) | (with_reducible refine below_drewN ?_ _) | (refine Below.setCell ?_ (by simp <;> omega) _) | (refine Below.alloc ?_ (by simp <;> omega) _)) : Below w10.heap.size w10 _))); have hr11 : w10.heap.size ≤ w11.heap.size := Nat.le_trans (by first | exact Nat.le_refl _ | (simp; done) | (simp; omega) | (simp [World.setCell]; done) | (simp [World.setCell]; omega)) hb11.size; have sz11_paA : w.heap.size < w11.heap.size := Nat.lt_of_lt_of_le sz10_paA hst11.size; have bx11_paA_0 : w11.cell? ⟨w.heap.size, 0, none⟩ = some (.int .i64 vA.fN) := (hst11.cell (p := ⟨w.heap.size, 0, none⟩) sz10_paA).trans bx10_paA_0; have bx11_paA_1 : w11.cell? ⟨w.heap.size, 1, none⟩ = some (.slice a1_vA vA.fRows.length c1_vA) := (hst11.cell (p := ⟨w.heap.size, 1, none⟩) sz10_paA).trans bx10_paA_1; have sz11_paB : w.heap.size + 1 < w11.heap.size := Nat.lt_of_lt_of_le sz10_paB hst11.size; have bx11_paB_0 : w11.cell? ⟨w.heap.size + 1, 0, none⟩ = some (.int .i64 vB.fN) := (hst11.cell (p := ⟨w.heap.size + 1, 0, none⟩) sz10_paB).trans bx10_paB_0; have bx11_paB_1 : w11.cell? ⟨w.heap.size + 1, 1, none⟩ = some (.slice a1_vB vB.fRows.length c1_vB) := (hst11.cell (p := ⟨w.heap.size + 1, 1, none⟩) sz10_paB).trans bx10_paB_1; have sz11_w0 : bV5 < w11.heap.size := Nat.lt_of_lt_of_le sz10_w0 hst11.size; have bx11_w0_0 : w11.cell? ⟨bV5, 0, none⟩ = some (.int .i64 (unionRel vA vB).fN) := (hst11.cell (p := ⟨bV5, 0, none⟩) sz10_w0).trans bx10_w0_0; have bx11_w0_1 : w11.cell? ⟨bV5, 1, none⟩ = some (.slice a1_R_5 (unionRel vA vB).fRows.length c1_R_5) := (hst11.cell (p := ⟨bV5, 1, none⟩) sz10_w0).trans bx10_w0_1; have sz11_x0 : w6.heap.size < w11.heap.size := Nat.lt_of_lt_of_le sz10_x0 hst11.size; have bx11_x0_0 : w11.cell? ⟨w6.heap.size, 0, none⟩ = some (.int .i64 vA.fN) := (hst11.cell (p := ⟨w6.heap.size, 0, none⟩) sz10_x0).trans bx10_x0_0; have bx11_x0_1 : w11.cell? ⟨w6.heap.size, 1, none⟩ = some (.slice a1_vA_6 vA.fRows.length c1_vA_6) := (hst11.cell (p := ⟨w6.heap.size, 1, none⟩) sz10_x0).trans bx10_x0_1; have sz11_x1 : w7.heap.size < w11.heap.size := Nat.lt_of_lt_of_le sz10_x1 hst11.size; have bx11_x1_0 : w11.cell? ⟨w7.heap.size, 0, none⟩ = some (.int .i64 vB.fN) := (hst11.cell (p := ⟨w7.heap.size, 0, none⟩) sz10_x1).trans bx10_x1_0; have bx11_x1_1 : w11.cell? ⟨w7.heap.size, 1, none⟩ = some (.slice a1_vB_7 vB.fRows.length c1_vB_7) := (hst11.cell (p := ⟨w7.heap.size, 1, none⟩) sz10_x1).trans bx10_x1_1; have sz11_g0 : w8.heap.size < w11.heap.size := Nat.lt_of_lt_of_le sz10_g0 hst11.size; have bx11_g0_0 : w11.cell? ⟨w8.heap.size, 0, none⟩ = some (.int .i64 (unionRel vA vB).fN) := (hst11.cell (p := ⟨w8.heap.size, 0, none⟩) sz10_g0).trans bx10_g0_0; have bx11_g0_1 : w11.cell? ⟨w8.heap.size, 1, none⟩ = some (.slice a1_R_8 (unionRel vA vB).fRows.length c1_R_8) := (hst11.cell (p := ⟨w8.heap.size, 1, none⟩) sz10_g0).trans bx10_g0_1; have HO11_1_R_5 := Lib.hid (HO10_1_R_5.out.kept (Kept.of_below_all hst11)); have HO11_1_vA_6 := Lib.hid (HO10_1_vA_6.out.kept (Kept.of_below_all hst11)); have HO11_1_vB_7 := Lib.hid (HO10_1_vB_7.out.kept (Kept.of_below_all hst11)); have HO11_1_R_8 := Lib.hid (HO10_1_R_8.out.kept (Kept.of_below_all hst11)); have HO11_1_vA_10 := Lib.hid (HO10_1_vA_10.out.kept (Kept.of_below_all hst11)); have HB11 := Lib.hid (HB10.out.trans (hst11.mono HB10.out.size)); clear bx10_paA_0 bx10_paA_1 sz10_paA bx10_paB_0 bx10_paB_1 sz10_paB bx10_w0_0 bx10_w0_1 sz10_w0 bx10_x0_0 bx10_x0_1 sz10_x0 bx10_x1_0 bx10_x1_1 sz10_x1 bx10_g0_0 bx10_g0_1 sz10_g0 HO10_1_R_5 HO10_1_vA_6 HO10_1_vB_7 HO10_1_R_8 HO10_1_vA_10 hb11 hst11 HB10)))
        all_goals
          go_wp2_with fail
          go_region_with ((first | (go_at_call 8; refine (laws_toRelation (c1 := c1_vB) vB hq_vB _ (Below.size (by repeat (first | (with_reducible exact Below.refl _ _) | (with_reducible apply Below.drew) | (with_reducible refine below_drewN ?_ _) | (refine Below.setCell ?_ (by simp <;> omega) _) | (refine Below.alloc ?_ (by simp <;> omega) _)) : Below w11.heap.size w11 _)) ((HS_1_vB.out.later (HB11.out.trans ((by repeat (first | (with_reducible exact Below.refl _ _) | (with_reducible apply Below.drew) | (with_reducible refine below_drewN ?_ _) | (refine Below.setCell ?_ (by simp <;> omega) _) | (refine Below.alloc ?_ (by simp <;> omega) _)) : Below w11.heap.size w11 _).mono HB11.out.size)) (Nat.le_refl _)).mono (Nat.le_refl _) HB11.out.size)).mono ?_; rintro e w12 ⟨a1_vB_12, c1_vB_12, rfl, ho12, hb12⟩; have hst12 : Below w11.heap.size w11 w12 := Below.trans (by repeat (first | (with_reducible exact Below.refl _ _) | (with_reducible apply Below.drew) | (with_reducible refine below_drewN ?_ _) | (refine Below.setCell ?_ (by simp <;> omega) _) | (refine Below.alloc ?_ (by simp <;> omega) _)) : Below w11.heap.size w11 _) (hb12.mono (Below.size (by repeat (first | (with_reducible exact Below.refl _ _) | (with_reducible apply Below.drew) | (with_reducible refine below_drewN ?_ _) | (refine Below.setCell ?_ (by simp <;> omega) _) | (refine Below.alloc ?_ (by simp <;> omega) _)) : Below w11.heap.size w11 _))); have hr12 : w11.heap.size ≤ w12.heap.size := Nat.le_trans (by first | exact Nat.le_refl _ | (simp; done) | (simp; omega) | (simp [World.setCell]; done) | (simp [World.setCell]; omega)) hb12.size; have sz12_paA : w.heap.size < w12.heap.size := Nat.lt_of_lt_of_le sz11_paA hst12.size; have bx12_paA_0 : w12.cell? ⟨w.heap.size, 0, none⟩ = some (.int .i64 vA.fN) := (hst12.cell (p := ⟨w.heap.size, 0, none⟩) sz11_paA).trans bx11_paA_0; have bx12_paA_1 : w12.cell? ⟨w.heap.size, 1, none⟩ = some (.slice a1_vA vA.fRows.length c1_vA) := (hst12.cell (p := ⟨w.heap.size, 1, none⟩) sz11_paA).trans bx11_paA_1; have sz12_paB : w.heap.size + 1 < w12.heap.size := Nat.lt_of_lt_of_le sz11_paB hst12.size; have bx12_paB_0 : w12.cell? ⟨w.heap.size + 1, 0, none⟩ = some (.int .i64 vB.fN) := (hst12.cell (p := ⟨w.heap.size + 1, 0, none⟩) sz11_paB).trans bx11_paB_0; have bx12_paB_1 : w12.cell? ⟨w.heap.size + 1, 1, none⟩ = some (.slice a1_vB vB.fRows.length c1_vB) := (hst12.cell (p := ⟨w.heap.size + 1, 1, none⟩) sz11_paB).trans bx11_paB_1; have sz12_w0 : bV5 < w12.heap.size := Nat.lt_of_lt_of_le sz11_w0 hst12.size; have bx12_w0_0 : w12.cell? ⟨bV5, 0, none⟩ = some (.int .i64 (unionRel vA vB).fN) := (hst12.cell (p := ⟨bV5, 0, none⟩) sz11_w0).trans bx11_w0_0; have bx12_w0_1 : w12.cell? ⟨bV5, 1, none⟩ = some (.slice a1_R_5 (unionRel vA vB).fRows.length c1_R_5) := (hst12.cell (p := ⟨bV5, 1, none⟩) sz11_w0).trans bx11_w0_1; have sz12_x0 : w6.heap.size < w12.heap.size := Nat.lt_of_lt_of_le sz11_x0 hst12.size; have bx12_x0_0 : w12.cell? ⟨w6.heap.size, 0, none⟩ = some (.int .i64 vA.fN) := (hst12.cell (p := ⟨w6.heap.size, 0, none⟩) sz11_x0).trans bx11_x0_0; have bx12_x0_1 : w12.cell? ⟨w6.heap.size, 1, none⟩ = some (.slice a1_vA_6 vA.fRows.length c1_vA_6) := (hst12.cell (p := ⟨w6.heap.size, 1, none⟩) sz11_x0).trans bx11_x0_1; have sz12_x1 : w7.heap.size < w12.heap.size := Nat.lt_of_lt_of_le sz11_x1 hst12.size; have bx12_x1_0 : w12.cell? ⟨w7.heap.size, 0, none⟩ = some (.int .i64 vB.fN) := (hst12.cell (p := ⟨w7.heap.size, 0, none⟩) sz11_x1).trans bx11_x1_0; have bx12_x1_1 : w12.cell? ⟨w7.heap.size, 1, none⟩ = some (.slice a1_vB_7 vB.fRows.length c1_vB_7) := (hst12.cell (p := ⟨w7.heap.size, 1, none⟩) sz11_x1).trans bx11_x1_1; have sz12_g0 : w8.heap.size < w12.heap.size := Nat.lt_of_lt_of_le sz11_g0 hst12.size; have bx12_g0_0 : w12.cell? ⟨w8.heap.size, 0, none⟩ = some (.int .i64 (unionRel vA vB).fN) := (hst12.cell (p := ⟨w8.heap.size, 0, none⟩) sz11_g0).trans bx11_g0_0; have bx12_g0_1 : w12.cell? ⟨w8.heap.size, 1, none⟩ = some (.slice a1_R_8 (unionRel vA vB).fRows.length c1_R_8) := (hst12.cell (p := ⟨w8.heap.size, 1, none⟩) sz11_g0).trans bx11_g0_1; have HO12_1_R_5 := Lib.hid (HO11_1_R_5.out.kept (Kept.of_below_all hst12)); have HO12_1_vA_6 := Lib.hid (HO11_1_vA_6.out.kept (Kept.of_below_all hst12)); have HO12_1_vB_7 := Lib.hid (HO11_1_vB_7.out.kept (Kept.of_below_all hst12)); have HO12_1_R_8 := Lib.hid (HO11_1_R_8.out.kept (Kept.of_below_all hst12)); have HO12_1_vA_10 := Lib.hid (HO11_1_vA_10.out.kept (Kept.of_below_all hst12)); have HO12_1_vB_12 := Lib.hid (show Own w12 (fun y => w11.heap.size ≤ y ∧ y < w12.heap.size) (.sl 1 vB.fRows.length (fun k => ictI (vB.fRows.getD k default))) (.slice a1_vB_12 vB.fRows.length c1_vB_12) from Own.sub (F := fun y => _ ≤ y ∧ y < _) (OwnR.at ho12 1 (by decide)) (fun y hy => ⟨Nat.le_trans (by first | exact Nat.le_refl _ | (simp; done) | (simp; omega) | (simp [World.setCell]; done) | (simp [World.setCell]; omega)) hy.1, hy.2⟩)); have HB12 := Lib.hid (HB11.out.trans (hst12.mono HB11.out.size)); clear bx11_paA_0 bx11_paA_1 sz11_paA bx11_paB_0 bx11_paB_1 sz11_paB bx11_w0_0 bx11_w0_1 sz11_w0 bx11_x0_0 bx11_x0_1 sz11_x0 bx11_x1_0 bx11_x1_1 sz11_x1 bx11_g0_0 bx11_g0_1 sz11_g0 HO11_1_R_5 HO11_1_vA_6 HO11_1_vB_7 HO11_1_R_8 HO11_1_vA_10 ho12 hb12 hst12 HB11) | (go_at_call 10; refine (laws_eqRelation (c1 := c1_vB_7) (c1q := c1_vB_12) vB hq_vB _ (Below.size (by repeat (first | (with_reducible exact Below.refl _ _) | (with_reducible apply Below.drew) | (with_reducible refine below_drewN ?_ _) | (refine Below.setCell ?_ (by simp <;> omega) _) | (refine Below.alloc ?_ (by simp <;> omega) _)) : Below w12.heap.size w12 _)) (Below.size (by repeat (first | (with_reducible exact Below.refl _ _) | (with_reducible apply Below.drew) | (with_reducible refine below_drewN ?_ _) | (refine Below.setCell ?_ (by simp <;> omega) _) | (refine Below.alloc ?_ (by simp <;> omega) _)) : Below w12.heap.size w12 _)) ((Sl.of (HO12_1_vB_7.out.lies (lo := 0) (hi := w12.heap.size) (fun y hy => ⟨Nat.zero_le _, by have := hy.2; omega⟩))).later (by repeat (first | (with_reducible exact Below.refl _ _) | (with_reducible apply Below.drew) | (with_reducible refine below_drewN ?_ _) | (refine Below.setCell ?_ (by simp <;> omega) _) | (refine Below.alloc ?_ (by simp <;> omega) _)) : Below w12.heap.size w12 _) (Nat.le_refl _)) ((Sl.of (HO12_1_vB_12.out.lies (lo := 0) (hi := w12.heap.size) (fun y hy => ⟨Nat.zero_le _, by have := hy.2; omega⟩))).later (by repeat (first | (with_reducible exact Below.refl _ _) | (with_reducible apply Below.drew) | (with_reducible refine below_drewN ?_ _) | (refine Below.setCell ?_ (by simp <;> omega) _) | (refine Below.alloc ?_ (by simp <;> omega) _)) : Below w12.heap.size w12 _) (Nat.le_refl _))).mono ?_; rintro e w13 ⟨rfl, hb13⟩; have hst13 : Below w12.heap.size w12 w13 := Below.trans (by repeat (first | (with_reducible exact Below.refl _ _) | (with_reducible apply Below.drew) | (with_reducible refine below_drewN ?_ _) | (refine Below.setCell ?_ (by simp <;> omega) _) | (refine Below.alloc ?_ (by simp <;> omega) _)) : Below w12.heap.size w12 _) (hb13.mono (Below.size (by repeat (first | (with_reducible exact Below.refl _ _) | (with_reducible apply Below.drew) | (with_reducible refine below_drewN ?_ _) | (refine Below.setCell ?_ (by simp <;> omega) _) | (refine Below.alloc ?_ (by simp <;> omega) _)) : Below w12.heap.size w12 _))); have hr13 : w12.heap.size ≤ w13.heap.size := Nat.le_trans (by first | exact Nat.le_refl _ | (simp; done) | (simp; omega) | (simp [World.setCell]; done) | (simp [World.setCell]; omega)) hb13.size; have sz13_paA : w.heap.size < w13.heap.size := Nat.lt_of_lt_of_le sz12_paA hst13.size; have bx13_paA_0 : w13.cell? ⟨w.heap.size, 0, none⟩ = some (.int .i64 vA.fN) := (hst13.cell (p := ⟨w.heap.size, 0, none⟩) sz12_paA).trans bx12_paA_0; have bx13_paA_1 : w13.cell? ⟨w.heap.size, 1, none⟩ = some (.slice a1_vA vA.fRows.length c1_vA) := (hst13.cell (p := ⟨w.heap.size, 1, none⟩) sz12_paA).trans bx12_paA_1; have sz13_paB : w.heap.size + 1 < w13.heap.size := Nat.lt_of_lt_of_le sz12_paB hst13.size; have bx13_paB_0 : w13.cell? ⟨w.heap.size + 1, 0, none⟩ = some (.int .i64 vB.fN) := (hst13.cell (p := ⟨w.heap.size + 1, 0, none⟩) sz12_paB).trans bx12_paB_0; have bx13_paB_1 : w13.cell? ⟨w.heap.size + 1, 1, none⟩ = some (.slice a1_vB vB.fRows.length c1_vB) := (hst13.cell (p := ⟨w.heap.size + 1, 1, none⟩) sz12_paB).trans bx12_paB_1; have sz13_w0 : bV5 < w13.heap.size := Nat.lt_of_lt_of_le sz12_w0 hst13.size; have bx13_w0_0 : w13.cell? ⟨bV5, 0, none⟩ = some (.int .i64 (unionRel vA vB).fN) := (hst13.cell (p := ⟨bV5, 0, none⟩) sz12_w0).trans bx12_w0_0; have bx13_w0_1 : w13.cell? ⟨bV5, 1, none⟩ = some (.slice a1_R_5 (unionRel vA vB).fRows.length c1_R_5) := (hst13.cell (p := ⟨bV5, 1, none⟩) sz12_w0).trans bx12_w0_1; have sz13_x0 : w6.heap.size < w13.heap.size := Nat.lt_of_lt_of_le sz12_x0 hst13.size; have bx13_x0_0 : w13.cell? ⟨w6.heap.size, 0, none⟩ = some (.int .i64 vA.fN) := (hst13.cell (p := ⟨w6.heap.size, 0, none⟩) sz12_x0).trans bx12_x0_0; have bx13_x0_1 : w13.cell? ⟨w6.heap.size, 1, none⟩ = some (.slice a1_vA_6 vA.fRows.length c1_vA_6) := (hst13.cell (p := ⟨w6.heap.size, 1, none⟩) sz12_x0).trans bx12_x0_1; have sz13_x1 : w7.heap.size < w13.heap.size := Nat.lt_of_lt_of_le sz12_x1 hst13.size; have bx13_x1_0 : w13.cell? ⟨w7.heap.size, 0, none⟩ = some (.int .i64 vB.fN) := (hst13.cell (p := ⟨w7.heap.size, 0, none⟩) sz12_x1).trans bx12_x1_0; have bx13_x1_1 : w13.cell? ⟨w7.heap.size, 1, none⟩ = some (.slice a1_vB_7 vB.fRows.length c1_vB_7) := (hst13.cell (p := ⟨w7.heap.size, 1, none⟩) sz12_x1).trans bx12_x1_1; have sz13_g0 : w8.heap.size < w13.heap.size := Nat.lt_of_lt_of_le sz12_g0 hst13.size; have bx13_g0_0 : w13.cell? ⟨w8.heap.size, 0, none⟩ = some (.int .i64 (unionRel vA vB).fN) := (hst13.cell (p := ⟨w8.heap.size, 0, none⟩) sz12_g0).trans bx12_g0_0; have bx13_g0_1 : w13.cell? ⟨w8.heap.size, 1, none⟩ = some (.slice a1_R_8 (unionRel vA vB).fRows.length c1_R_8) := (hst13.cell (p := ⟨w8.heap.size, 1, none⟩) sz12_g0).trans bx12_g0_1; have HO13_1_R_5 := Lib.hid (HO12_1_R_5.out.kept (Kept.of_below_all hst13)); have HO13_1_vA_6 := Lib.hid (HO12_1_vA_6.out.kept (Kept.of_below_all hst13)); have HO13_1_vB_7 := Lib.hid (HO12_1_vB_7.out.kept (Kept.of_below_all hst13)); have HO13_1_R_8 := Lib.hid (HO12_1_R_8.out.kept (Kept.of_below_all hst13)); have HO13_1_vA_10 := Lib.hid (HO12_1_vA_10.out.kept (Kept.of_below_all hst13)); have HO13_1_vB_12 := Lib.hid (HO12_1_vB_12.out.kept (Kept.of_below_all hst13)); have HB13 := Lib.hid (HB12.out.trans (hst13.mono HB12.out.size)); clear bx12_paA_0 bx12_paA_1 sz12_paA bx12_paB_0 bx12_paB_1 sz12_paB bx12_w0_0 bx12_w0_1 sz12_w0 bx12_x0_0 bx12_x0_1 sz12_x0 bx12_x1_0 bx12_x1_1 sz12_x1 bx12_g0_0 bx12_g0_1 sz12_g0 HO12_1_R_5 HO12_1_vA_6 HO12_1_vB_7 HO12_1_R_8 HO12_1_vA_10 HO12_1_vB_12 hb13 hst13 HB12)))
          all_goals
            go_wp2_with fail
            refine (laws_markRelation (c1 := c1_vA_6) vA (by have h1 := rel_len hq_vA; have h3 := rel_len hq_vB; have h2 := unionRel_len vA vB; omega) 1 (by have h1 := rel_len hq_vA; have h3 := rel_len hq_vB; have h2 := unionRel_len vA vB; omega) _ (fun y hy => Nat.lt_of_lt_of_le (show y < w13.heap.size by have := hy.2; omega) (Below.size (by repeat (first | (with_reducible exact Below.refl _ _) | (with_reducible apply Below.drew) | (with_reducible refine below_drewN ?_ _) | (refine Below.setCell ?_ (by simp <;> omega) _) | (refine Below.alloc ?_ (by simp <;> omega) _)) : Below w13.heap.size w13 _))) (HO13_1_vA_6.out.kept (Kept.of_below (by repeat (first | (with_reducible exact Below.refl _ _) | (with_reducible apply Below.drew) | (with_reducible refine below_drewN ?_ _) | (refine Below.setCell ?_ (by simp <;> omega) _) | (refine Below.alloc ?_ (by simp <;> omega) _)) : Below w13.heap.size w13 _) (fun y hy => by have := hy.2; omega)))).mono ?_
            rintro e w14 ⟨rfl, ho14, hw14⟩
            have hst14 : WritesF (fun y => w5.heap.size ≤ y ∧ y < w6.heap.size) w13 w14 := hw14.of_below (by repeat (first | (with_reducible exact Below.refl _ _) | (with_reducible apply Below.drew) | (with_reducible refine below_drewN ?_ _) | (refine Below.setCell ?_ (by simp <;> omega) _) | (refine Below.alloc ?_ (by simp <;> omega) _)) : Below w13.heap.size w13 _)
            have hr14 : w13.heap.size ≤ w14.heap.size := Nat.le_trans (by first | exact Nat.le_refl _ | (simp; done) | (simp; omega) | (simp [World.setCell]; done) | (simp [World.setCell]; omega)) hw14.size
            have sz14_paA : w.heap.size < w14.heap.size := Nat.lt_of_lt_of_le sz13_paA hst14.size
            have bx14_paA_0 : w14.cell? ⟨w.heap.size, 0, none⟩ = some (.int .i64 vA.fN) := (World.cell?_of_block (a := ⟨w.heap.size, 0, none⟩) (hst14.block (w.heap.size) sz13_paA (fun hf => by have h1 := hf.1; have h2 := hf.2; omega))).trans bx13_paA_0
            have bx14_paA_1 : w14.cell? ⟨w.heap.size, 1, none⟩ = some (.slice a1_vA vA.fRows.length c1_vA) := (World.cell?_of_block (a := ⟨w.heap.size, 1, none⟩) (hst14.block (w.heap.size) sz13_paA (fun hf => by have h1 := hf.1; have h2 := hf.2; omega))).trans bx13_paA_1
            have sz14_paB : w.heap.size + 1 < w14.heap.size := Nat.lt_of_lt_of_le sz13_paB hst14.size
            have bx14_paB_0 : w14.cell? ⟨w.heap.size + 1, 0, none⟩ = some (.int .i64 vB.fN) := (World.cell?_of_block (a := ⟨w.heap.size + 1, 0, none⟩) (hst14.block (w.heap.size + 1) sz13_paB (fun hf => by have h1 := hf.1; have h2 := hf.2; omega))).trans bx13_paB_0
            have bx14_paB_1 : w14.cell? ⟨w.heap.size + 1, 1, none⟩ = some (.slice a1_vB vB.fRows.length c1_vB) := (World.cell?_of_block (a := ⟨w.heap.size + 1, 1, none⟩) (hst14.block (w.heap.size + 1) sz13_paB (fun hf => by have h1 := hf.1; have h2 := hf.2; omega))).trans bx13_paB_1
            have sz14_w0 : bV5 < w14.heap.size := Nat.lt_of_lt_of_le sz13_w0 hst14.size
            have bx14_w0_0 : w14.cell? ⟨bV5, 0, none⟩ = some (.int .i64 (unionRel vA vB).fN) := (World.cell?_of_block (a := ⟨bV5, 0, none⟩) (hst14.block (bV5) sz13_w0 (fun hf => by have h1 := hf.1; have h2 := hf.2; omega))).trans bx13_w0_0
            have bx14_w0_1 : w14.cell? ⟨bV5, 1, none⟩ = some (.slice a1_R_5 (unionRel vA vB).fRows.length c1_R_5) := (World.cell?_of_block (a := ⟨bV5, 1, none⟩) (hst14.block (bV5) sz13_w0 (fun hf => by have h1 := hf.1; have h2 := hf.2; omega))).trans bx13_w0_1
            have sz14_x0 : w6.heap.size < w14.heap.size := Nat.lt_of_lt_of_le sz13_x0 hst14.size
            have bx14_x0_0 : w14.cell? ⟨w6.heap.size, 0, none⟩ = some (.int .i64 vA.fN) := (World.cell?_of_block (a := ⟨w6.heap.size, 0, none⟩) (hst14.block (w6.heap.size) sz13_x0 (fun hf => by have h1 := hf.1; have h2 := hf.2; omega))).trans bx13_x0_0
            have bx14_x0_1 : w14.cell? ⟨w6.heap.size, 1, none⟩ = some (.slice a1_vA_6 vA.fRows.length c1_vA_6) := (World.cell?_of_block (a := ⟨w6.heap.size, 1, none⟩) (hst14.block (w6.heap.size) sz13_x0 (fun hf => by have h1 := hf.1; have h2 := hf.2; omega))).trans bx13_x0_1
            have sz14_x1 : w7.heap.size < w14.heap.size := Nat.lt_of_lt_of_le sz13_x1 hst14.size
            have bx14_x1_0 : w14.cell? ⟨w7.heap.size, 0, none⟩ = some (.int .i64 vB.fN) := (World.cell?_of_block (a := ⟨w7.heap.size, 0, none⟩) (hst14.block (w7.heap.size) sz13_x1 (fun hf => by have h1 := hf.1; have h2 := hf.2; omega))).trans bx13_x1_0
            have bx14_x1_1 : w14.cell? ⟨w7.heap.size, 1, none⟩ = some (.slice a1_vB_7 vB.fRows.length c1_vB_7) := (World.cell?_of_block (a := ⟨w7.heap.size, 1, none⟩) (hst14.block (w7.heap.size) sz13_x1 (fun hf => by have h1 := hf.1; have h2 := hf.2; omega))).trans bx13_x1_1
            have sz14_g0 : w8.heap.size < w14.heap.size := Nat.lt_of_lt_of_le sz13_g0 hst14.size
            have bx14_g0_0 : w14.cell? ⟨w8.heap.size, 0, none⟩ = some (.int .i64 (unionRel vA vB).fN) := (World.cell?_of_block (a := ⟨w8.heap.size, 0, none⟩) (hst14.block (w8.heap.size) sz13_g0 (fun hf => by have h1 := hf.1; have h2 := hf.2; omega))).trans bx13_g0_0
            have bx14_g0_1 : w14.cell? ⟨w8.heap.size, 1, none⟩ = some (.slice a1_R_8 (unionRel vA vB).fRows.length c1_R_8) := (World.cell?_of_block (a := ⟨w8.heap.size, 1, none⟩) (hst14.block (w8.heap.size) sz13_g0 (fun hf => by have h1 := hf.1; have h2 := hf.2; omega))).trans bx13_g0_1
            have HO14_1_R_5 := Lib.hid (HO13_1_R_5.out.kept (hst14.kept (fun y hy hf => by have h1 := hy.1; have h2 := hy.2; have h3 := hf.1; have h4 := hf.2; omega)))
            have HO14_1_vA_6 := Lib.hid ho14
            have HO14_1_vB_7 := Lib.hid (HO13_1_vB_7.out.kept (hst14.kept (fun y hy hf => by have h1 := hy.1; have h2 := hy.2; have h3 := hf.1; have h4 := hf.2; omega)))
            have HO14_1_R_8 := Lib.hid (HO13_1_R_8.out.kept (hst14.kept (fun y hy hf => by have h1 := hy.1; have h2 := hy.2; have h3 := hf.1; have h4 := hf.2; omega)))
            have HO14_1_vA_10 := Lib.hid (HO13_1_vA_10.out.kept (hst14.kept (fun y hy hf => by have h1 := hy.1; have h2 := hy.2; have h3 := hf.1; have h4 := hf.2; omega)))
            have HO14_1_vB_12 := Lib.hid (HO13_1_vB_12.out.kept (hst14.kept (fun y hy hf => by have h1 := hy.1; have h2 := hy.2; have h3 := hf.1; have h4 := hf.2; omega)))
            have HB14 := Lib.hid (HB13.out.trans (hst14.below (fun y hy => by have := hy.1; omega) HB13.out.size))
            clear bx13_paA_0 bx13_paA_1 sz13_paA bx13_paB_0 bx13_paB_1 sz13_paB bx13_w0_0 bx13_w0_1 sz13_w0 bx13_x0_0 bx13_x0_1 sz13_x0 bx13_x1_0 bx13_x1_1 sz13_x1 bx13_g0_0 bx13_g0_1 sz13_g0 HO13_1_R_5 ho14 HO13_1_vA_6 HO13_1_vB_7 HO13_1_R_8 HO13_1_vA_10 HO13_1_vB_12 hw14 hst14 HB13
            go_wp2_with fail
            refine (laws_markRelation (c1 := c1_vB_7) vB (by have h1 := rel_len hq_vA; have h3 := rel_len hq_vB; have h2 := unionRel_len vA vB; omega) (1 + vA.fRows.length) (by have h1 := rel_len hq_vA; have h3 := rel_len hq_vB; have h2 := unionRel_len vA vB; omega) _ (fun y hy => Nat.lt_of_lt_of_le (show y < w14.heap.size by have := hy.2; omega) (Below.size (by repeat (first | (with_reducible exact Below.refl _ _) | (with_reducible apply Below.drew) | (with_reducible refine below_drewN ?_ _) | (refine Below.setCell ?_ (by simp <;> omega) _) | (refine Below.alloc ?_ (by simp <;> omega) _)) : Below w14.heap.size w14 _))) (HO14_1_vB_7.out.kept (Kept.of_below (by repeat (first | (with_reducible exact Below.refl _ _) | (with_reducible apply Below.drew) | (with_reducible refine below_drewN ?_ _) | (refine Below.setCell ?_ (by simp <;> omega) _) | (refine Below.alloc ?_ (by simp <;> omega) _)) : Below w14.heap.size w14 _) (fun y hy => by have := hy.2; omega)))).mono ?_
            rintro e w15 ⟨rfl, ho15, hw15⟩
            have hst15 : WritesF (fun y => w6.heap.size + 1 ≤ y ∧ y < w7.heap.size) w14 w15 := hw15.of_below (by repeat (first | (with_reducible exact Below.refl _ _) | (with_reducible apply Below.drew) | (with_reducible refine below_drewN ?_ _) | (refine Below.setCell ?_ (by simp <;> omega) _) | (refine Below.alloc ?_ (by simp <;> omega) _)) : Below w14.heap.size w14 _)
            have hr15 : w14.heap.size ≤ w15.heap.size := Nat.le_trans (by first | exact Nat.le_refl _ | (simp; done) | (simp; omega) | (simp [World.setCell]; done) | (simp [World.setCell]; omega)) hw15.size
            have sz15_paA : w.heap.size < w15.heap.size := Nat.lt_of_lt_of_le sz14_paA hst15.size
            have bx15_paA_0 : w15.cell? ⟨w.heap.size, 0, none⟩ = some (.int .i64 vA.fN) := (World.cell?_of_block (a := ⟨w.heap.size, 0, none⟩) (hst15.block (w.heap.size) sz14_paA (fun hf => by have h1 := hf.1; have h2 := hf.2; omega))).trans bx14_paA_0
            have bx15_paA_1 : w15.cell? ⟨w.heap.size, 1, none⟩ = some (.slice a1_vA vA.fRows.length c1_vA) := (World.cell?_of_block (a := ⟨w.heap.size, 1, none⟩) (hst15.block (w.heap.size) sz14_paA (fun hf => by have h1 := hf.1; have h2 := hf.2; omega))).trans bx14_paA_1
            have sz15_paB : w.heap.size + 1 < w15.heap.size := Nat.lt_of_lt_of_le sz14_paB hst15.size
            have bx15_paB_0 : w15.cell? ⟨w.heap.size + 1, 0, none⟩ = some (.int .i64 vB.fN) := (World.cell?_of_block (a := ⟨w.heap.size + 1, 0, none⟩) (hst15.block (w.heap.size + 1) sz14_paB (fun hf => by have h1 := hf.1; have h2 := hf.2; omega))).trans bx14_paB_0
            have bx15_paB_1 : w15.cell? ⟨w.heap.size + 1, 1, none⟩ = some (.slice a1_vB vB.fRows.length c1_vB) := (World.cell?_of_block (a := ⟨w.heap.size + 1, 1, none⟩) (hst15.block (w.heap.size + 1) sz14_paB (fun hf => by have h1 := hf.1; have h2 := hf.2; omega))).trans bx14_paB_1
            have sz15_w0 : bV5 < w15.heap.size := Nat.lt_of_lt_of_le sz14_w0 hst15.size
            have bx15_w0_0 : w15.cell? ⟨bV5, 0, none⟩ = some (.int .i64 (unionRel vA vB).fN) := (World.cell?_of_block (a := ⟨bV5, 0, none⟩) (hst15.block (bV5) sz14_w0 (fun hf => by have h1 := hf.1; have h2 := hf.2; omega))).trans bx14_w0_0
            have bx15_w0_1 : w15.cell? ⟨bV5, 1, none⟩ = some (.slice a1_R_5 (unionRel vA vB).fRows.length c1_R_5) := (World.cell?_of_block (a := ⟨bV5, 1, none⟩) (hst15.block (bV5) sz14_w0 (fun hf => by have h1 := hf.1; have h2 := hf.2; omega))).trans bx14_w0_1
            have sz15_x0 : w6.heap.size < w15.heap.size := Nat.lt_of_lt_of_le sz14_x0 hst15.size
            have bx15_x0_0 : w15.cell? ⟨w6.heap.size, 0, none⟩ = some (.int .i64 vA.fN) := (World.cell?_of_block (a := ⟨w6.heap.size, 0, none⟩) (hst15.block (w6.heap.size) sz14_x0 (fun hf => by have h1 := hf.1; have h2 := hf.2; omega))).trans bx14_x0_0
            have bx15_x0_1 : w15.cell? ⟨w6.heap.size, 1, none⟩ = some (.slice a1_vA_6 vA.fRows.length c1_vA_6) := (World.cell?_of_block (a := ⟨w6.heap.size, 1, none⟩) (hst15.block (w6.heap.size) sz14_x0 (fun hf => by have h1 := hf.1; have h2 := hf.2; omega))).trans bx14_x0_1
            have sz15_x1 : w7.heap.size < w15.heap.size := Nat.lt_of_lt_of_le sz14_x1 hst15.size
            have bx15_x1_0 : w15.cell? ⟨w7.heap.size, 0, none⟩ = some (.int .i64 vB.fN) := (World.cell?_of_block (a := ⟨w7.heap.size, 0, none⟩) (hst15.block (w7.heap.size) sz14_x1 (fun hf => by have h1 := hf.1; have h2 := hf.2; omega))).trans bx14_x1_0
            have bx15_x1_1 : w15.cell? ⟨w7.heap.size, 1, none⟩ = some (.slice a1_vB_7 vB.fRows.length c1_vB_7) := (World.cell?_of_block (a := ⟨w7.heap.size, 1, none⟩) (hst15.block (w7.heap.size) sz14_x1 (fun hf => by have h1 := hf.1; have h2 := hf.2; omega))).trans bx14_x1_1
            have sz15_g0 : w8.heap.size < w15.heap.size := Nat.lt_of_lt_of_le sz14_g0 hst15.size
            have bx15_g0_0 : w15.cell? ⟨w8.heap.size, 0, none⟩ = some (.int .i64 (unionRel vA vB).fN) := (World.cell?_of_block (a := ⟨w8.heap.size, 0, none⟩) (hst15.block (w8.heap.size) sz14_g0 (fun hf => by have h1 := hf.1; have h2 := hf.2; omega))).trans bx14_g0_0
            have bx15_g0_1 : w15.cell? ⟨w8.heap.size, 1, none⟩ = some (.slice a1_R_8 (unionRel vA vB).fRows.length c1_R_8) := (World.cell?_of_block (a := ⟨w8.heap.size, 1, none⟩) (hst15.block (w8.heap.size) sz14_g0 (fun hf => by have h1 := hf.1; have h2 := hf.2; omega))).trans bx14_g0_1
            have HO15_1_R_5 := Lib.hid (HO14_1_R_5.out.kept (hst15.kept (fun y hy hf => by have h1 := hy.1; have h2 := hy.2; have h3 := hf.1; have h4 := hf.2; omega)))
            have HO15_1_vA_6 := Lib.hid (HO14_1_vA_6.out.kept (hst15.kept (fun y hy hf => by have h1 := hy.1; have h2 := hy.2; have h3 := hf.1; have h4 := hf.2; omega)))
            have HO15_1_vB_7 := Lib.hid ho15
            have HO15_1_R_8 := Lib.hid (HO14_1_R_8.out.kept (hst15.kept (fun y hy hf => by have h1 := hy.1; have h2 := hy.2; have h3 := hf.1; have h4 := hf.2; omega)))
            have HO15_1_vA_10 := Lib.hid (HO14_1_vA_10.out.kept (hst15.kept (fun y hy hf => by have h1 := hy.1; have h2 := hy.2; have h3 := hf.1; have h4 := hf.2; omega)))
            have HO15_1_vB_12 := Lib.hid (HO14_1_vB_12.out.kept (hst15.kept (fun y hy hf => by have h1 := hy.1; have h2 := hy.2; have h3 := hf.1; have h4 := hf.2; omega)))
            have HB15 := Lib.hid (HB14.out.trans (hst15.below (fun y hy => by have := hy.1; omega) HB14.out.size))
            clear bx14_paA_0 bx14_paA_1 sz14_paA bx14_paB_0 bx14_paB_1 sz14_paB bx14_w0_0 bx14_w0_1 sz14_w0 bx14_x0_0 bx14_x0_1 sz14_x0 bx14_x1_0 bx14_x1_1 sz14_x1 bx14_g0_0 bx14_g0_1 sz14_g0 HO14_1_R_5 HO14_1_vA_6 ho15 HO14_1_vB_7 HO14_1_R_8 HO14_1_vA_10 HO14_1_vB_12 hw15 hst15 HB14
            go_wp2_with fail
            refine (laws_eqRelation (c1 := c1_R_8) (c1q := c1_R_5) (unionRel vA vB) hq_R _ (Below.size (by repeat (first | (with_reducible exact Below.refl _ _) | (with_reducible apply Below.drew) | (with_reducible refine below_drewN ?_ _) | (refine Below.setCell ?_ (by simp <;> omega) _) | (refine Below.alloc ?_ (by simp <;> omega) _)) : Below w15.heap.size w15 _)) (Below.size (by repeat (first | (with_reducible exact Below.refl _ _) | (with_reducible apply Below.drew) | (with_reducible refine below_drewN ?_ _) | (refine Below.setCell ?_ (by simp <;> omega) _) | (refine Below.alloc ?_ (by simp <;> omega) _)) : Below w15.heap.size w15 _)) ((Sl.of (HO15_1_R_8.out.lies (lo := 0) (hi := w15.heap.size) (fun y hy => ⟨Nat.zero_le _, by have := hy.2; omega⟩))).later (by repeat (first | (with_reducible exact Below.refl _ _) | (with_reducible apply Below.drew) | (with_reducible refine below_drewN ?_ _) | (refine Below.setCell ?_ (by simp <;> omega) _) | (refine Below.alloc ?_ (by simp <;> omega) _)) : Below w15.heap.size w15 _) (Nat.le_refl _)) ((Sl.of (HO15_1_R_5.out.lies (lo := 0) (hi := w15.heap.size) (fun y hy => ⟨Nat.zero_le _, by have := hy.2; omega⟩))).later (by repeat (first | (with_reducible exact Below.refl _ _) | (with_reducible apply Below.drew) | (with_reducible refine below_drewN ?_ _) | (refine Below.setCell ?_ (by simp <;> omega) _) | (refine Below.alloc ?_ (by simp <;> omega) _)) : Below w15.heap.size w15 _) (Nat.le_refl _))).mono ?_
            rintro e w16 ⟨rfl, hb16⟩
            have hst16 : Below w15.heap.size w15 w16 := Below.trans (by repeat (first | (with_reducible exact Below.refl _ _) | (with_reducible apply Below.drew) | (with_reducible refine below_drewN ?_ _) | (refine Below.setCell ?_ (by simp <;> omega) _) | (refine Below.alloc ?_ (by simp <;> omega) _)) : Below w15.heap.size w15 _) (hb16.mono (Below.size (by repeat (first | (with_reducible exact Below.refl _ _) | (with_reducible apply Below.drew) | (with_reducible refine below_drewN ?_ _) | (refine Below.setCell ?_ (by simp <;> omega) _) | (refine Below.alloc ?_ (by simp <;> omega) _)) : Below w15.heap.size w15 _)))
            have hr16 : w15.heap.size ≤ w16.heap.size := Nat.le_trans (by first | exact Nat.le_refl _ | (simp; done) | (simp; omega) | (simp [World.setCell]; done) | (simp [World.setCell]; omega)) hb16.size
            have sz16_paA : w.heap.size < w16.heap.size := Nat.lt_of_lt_of_le sz15_paA hst16.size
            have bx16_paA_0 : w16.cell? ⟨w.heap.size, 0, none⟩ = some (.int .i64 vA.fN) := (hst16.cell (p := ⟨w.heap.size, 0, none⟩) sz15_paA).trans bx15_paA_0
            have bx16_paA_1 : w16.cell? ⟨w.heap.size, 1, none⟩ = some (.slice a1_vA vA.fRows.length c1_vA) := (hst16.cell (p := ⟨w.heap.size, 1, none⟩) sz15_paA).trans bx15_paA_1
            have sz16_paB : w.heap.size + 1 < w16.heap.size := Nat.lt_of_lt_of_le sz15_paB hst16.size
            have bx16_paB_0 : w16.cell? ⟨w.heap.size + 1, 0, none⟩ = some (.int .i64 vB.fN) := (hst16.cell (p := ⟨w.heap.size + 1, 0, none⟩) sz15_paB).trans bx15_paB_0
            have bx16_paB_1 : w16.cell? ⟨w.heap.size + 1, 1, none⟩ = some (.slice a1_vB vB.fRows.length c1_vB) := (hst16.cell (p := ⟨w.heap.size + 1, 1, none⟩) sz15_paB).trans bx15_paB_1
            have sz16_w0 : bV5 < w16.heap.size := Nat.lt_of_lt_of_le sz15_w0 hst16.size
            have bx16_w0_0 : w16.cell? ⟨bV5, 0, none⟩ = some (.int .i64 (unionRel vA vB).fN) := (hst16.cell (p := ⟨bV5, 0, none⟩) sz15_w0).trans bx15_w0_0
            have bx16_w0_1 : w16.cell? ⟨bV5, 1, none⟩ = some (.slice a1_R_5 (unionRel vA vB).fRows.length c1_R_5) := (hst16.cell (p := ⟨bV5, 1, none⟩) sz15_w0).trans bx15_w0_1
            have sz16_x0 : w6.heap.size < w16.heap.size := Nat.lt_of_lt_of_le sz15_x0 hst16.size
            have bx16_x0_0 : w16.cell? ⟨w6.heap.size, 0, none⟩ = some (.int .i64 vA.fN) := (hst16.cell (p := ⟨w6.heap.size, 0, none⟩) sz15_x0).trans bx15_x0_0
            have bx16_x0_1 : w16.cell? ⟨w6.heap.size, 1, none⟩ = some (.slice a1_vA_6 vA.fRows.length c1_vA_6) := (hst16.cell (p := ⟨w6.heap.size, 1, none⟩) sz15_x0).trans bx15_x0_1
            have sz16_x1 : w7.heap.size < w16.heap.size := Nat.lt_of_lt_of_le sz15_x1 hst16.size
            have bx16_x1_0 : w16.cell? ⟨w7.heap.size, 0, none⟩ = some (.int .i64 vB.fN) := (hst16.cell (p := ⟨w7.heap.size, 0, none⟩) sz15_x1).trans bx15_x1_0
            have bx16_x1_1 : w16.cell? ⟨w7.heap.size, 1, none⟩ = some (.slice a1_vB_7 vB.fRows.length c1_vB_7) := (hst16.cell (p := ⟨w7.heap.size, 1, none⟩) sz15_x1).trans bx15_x1_1
            have sz16_g0 : w8.heap.size < w16.heap.size := Nat.lt_of_lt_of_le sz15_g0 hst16.size
            have bx16_g0_0 : w16.cell? ⟨w8.heap.size, 0, none⟩ = some (.int .i64 (unionRel vA vB).fN) := (hst16.cell (p := ⟨w8.heap.size, 0, none⟩) sz15_g0).trans bx15_g0_0
            have bx16_g0_1 : w16.cell? ⟨w8.heap.size, 1, none⟩ = some (.slice a1_R_8 (unionRel vA vB).fRows.length c1_R_8) := (hst16.cell (p := ⟨w8.heap.size, 1, none⟩) sz15_g0).trans bx15_g0_1
            have HO16_1_R_5 := Lib.hid (HO15_1_R_5.out.kept (Kept.of_below_all hst16))
            have HO16_1_vA_6 := Lib.hid (HO15_1_vA_6.out.kept (Kept.of_below_all hst16))
            have HO16_1_vB_7 := Lib.hid (HO15_1_vB_7.out.kept (Kept.of_below_all hst16))
            have HO16_1_R_8 := Lib.hid (HO15_1_R_8.out.kept (Kept.of_below_all hst16))
            have HO16_1_vA_10 := Lib.hid (HO15_1_vA_10.out.kept (Kept.of_below_all hst16))
            have HO16_1_vB_12 := Lib.hid (HO15_1_vB_12.out.kept (Kept.of_below_all hst16))
            have HB16 := Lib.hid (HB15.out.trans (hst16.mono HB15.out.size))
            clear bx15_paA_0 bx15_paA_1 sz15_paA bx15_paB_0 bx15_paB_1 sz15_paB bx15_w0_0 bx15_w0_1 sz15_w0 bx15_x0_0 bx15_x0_1 sz15_x0 bx15_x1_0 bx15_x1_1 sz15_x1 bx15_g0_0 bx15_g0_1 sz15_g0 HO15_1_R_5 HO15_1_vA_6 HO15_1_vB_7 HO15_1_R_8 HO15_1_vA_10 HO15_1_vB_12 hb16 hst16 HB15
            go_wp2_with fail
            refine (laws_markRelation (c1 := c1_R_8) (unionRel vA vB) (by have h1 := rel_len hq_vA; have h3 := rel_len hq_vB; have h2 := unionRel_len vA vB; omega) 1 (by have h1 := rel_len hq_vA; have h3 := rel_len hq_vB; have h2 := unionRel_len vA vB; omega) _ (fun y hy => Nat.lt_of_lt_of_le (show y < w16.heap.size by have := hy.2; omega) (Below.size (by repeat (first | (with_reducible exact Below.refl _ _) | (with_reducible apply Below.drew) | (with_reducible refine below_drewN ?_ _) | (refine Below.setCell ?_ (by simp <;> omega) _) | (refine Below.alloc ?_ (by simp <;> omega) _)) : Below w16.heap.size w16 _))) (HO16_1_R_8.out.kept (Kept.of_below (by repeat (first | (with_reducible exact Below.refl _ _) | (with_reducible apply Below.drew) | (with_reducible refine below_drewN ?_ _) | (refine Below.setCell ?_ (by simp <;> omega) _) | (refine Below.alloc ?_ (by simp <;> omega) _)) : Below w16.heap.size w16 _) (fun y hy => by have := hy.2; omega)))).mono ?_
            rintro e w17 ⟨rfl, ho17, hw17⟩
            have hst17 : WritesF (fun y => w7.heap.size + 1 ≤ y ∧ y < w8.heap.size) w16 w17 := hw17.of_below (by repeat (first | (with_reducible exact Below.refl _ _) | (with_reducible apply Below.drew) | (with_reducible refine below_drewN ?_ _) | (refine Below.setCell ?_ (by simp <;> omega) _) | (refine Below.alloc ?_ (by simp <;> omega) _)) : Below w16.heap.size w16 _)
            have hr17 : w16.heap.size ≤ w17.heap.size := Nat.le_trans (by first | exact Nat.le_refl _ | (simp; done) | (simp; omega) | (simp [World.setCell]; done) | (simp [World.setCell]; omega)) hw17.size
            have sz17_paA : w.heap.size < w17.heap.size := Nat.lt_of_lt_of_le sz16_paA hst17.size
            have bx17_paA_0 : w17.cell? ⟨w.heap.size, 0, none⟩ = some (.int .i64 vA.fN) := (World.cell?_of_block (a := ⟨w.heap.size, 0, none⟩) (hst17.block (w.heap.size) sz16_paA (fun hf => by have h1 := hf.1; have h2 := hf.2; omega))).trans bx16_paA_0
            have bx17_paA_1 : w17.cell? ⟨w.heap.size, 1, none⟩ = some (.slice a1_vA vA.fRows.length c1_vA) := (World.cell?_of_block (a := ⟨w.heap.size, 1, none⟩) (hst17.block (w.heap.size) sz16_paA (fun hf => by have h1 := hf.1; have h2 := hf.2; omega))).trans bx16_paA_1
            have sz17_paB : w.heap.size + 1 < w17.heap.size := Nat.lt_of_lt_of_le sz16_paB hst17.size
            have bx17_paB_0 : w17.cell? ⟨w.heap.size + 1, 0, none⟩ = some (.int .i64 vB.fN) := (World.cell?_of_block (a := ⟨w.heap.size + 1, 0, none⟩) (hst17.block (w.heap.size + 1) sz16_paB (fun hf => by have h1 := hf.1; have h2 := hf.2; omega))).trans bx16_paB_0
            have bx17_paB_1 : w17.cell? ⟨w.heap.size + 1, 1, none⟩ = some (.slice a1_vB vB.fRows.length c1_vB) := (World.cell?_of_block (a := ⟨w.heap.size + 1, 1, none⟩) (hst17.block (w.heap.size + 1) sz16_paB (fun hf => by have h1 := hf.1; have h2 := hf.2; omega))).trans bx16_paB_1
            have sz17_w0 : bV5 < w17.heap.size := Nat.lt_of_lt_of_le sz16_w0 hst17.size
            have bx17_w0_0 : w17.cell? ⟨bV5, 0, none⟩ = some (.int .i64 (unionRel vA vB).fN) := (World.cell?_of_block (a := ⟨bV5, 0, none⟩) (hst17.block (bV5) sz16_w0 (fun hf => by have h1 := hf.1; have h2 := hf.2; omega))).trans bx16_w0_0
            have bx17_w0_1 : w17.cell? ⟨bV5, 1, none⟩ = some (.slice a1_R_5 (unionRel vA vB).fRows.length c1_R_5) := (World.cell?_of_block (a := ⟨bV5, 1, none⟩) (hst17.block (bV5) sz16_w0 (fun hf => by have h1 := hf.1; have h2 := hf.2; omega))).trans bx16_w0_1
            have sz17_x0 : w6.heap.size < w17.heap.size := Nat.lt_of_lt_of_le sz16_x0 hst17.size
            have bx17_x0_0 : w17.cell? ⟨w6.heap.size, 0, none⟩ = some (.int .i64 vA.fN) := (World.cell?_of_block (a := ⟨w6.heap.size, 0, none⟩) (hst17.block (w6.heap.size) sz16_x0 (fun hf => by have h1 := hf.1; have h2 := hf.2; omega))).trans bx16_x0_0
            have bx17_x0_1 : w17.cell? ⟨w6.heap.size, 1, none⟩ = some (.slice a1_vA_6 vA.fRows.length c1_vA_6) := (World.cell?_of_block (a := ⟨w6.heap.size, 1, none⟩) (hst17.block (w6.heap.size) sz16_x0 (fun hf => by have h1 := hf.1; have h2 := hf.2; omega))).trans bx16_x0_1
            have sz17_x1 : w7.heap.size < w17.heap.size := Nat.lt_of_lt_of_le sz16_x1 hst17.size
            have bx17_x1_0 : w17.cell? ⟨w7.heap.size, 0, none⟩ = some (.int .i64 vB.fN) := (World.cell?_of_block (a := ⟨w7.heap.size, 0, none⟩) (hst17.block (w7.heap.size) sz16_x1 (fun hf => by have h1 := hf.1; have h2 := hf.2; omega))).trans bx16_x1_0
            have bx17_x1_1 : w17.cell? ⟨w7.heap.size, 1, none⟩ = some (.slice a1_vB_7 vB.fRows.length c1_vB_7) := (World.cell?_of_block (a := ⟨w7.heap.size, 1, none⟩) (hst17.block (w7.heap.size) sz16_x1 (fun hf => by have h1 := hf.1; have h2 := hf.2; omega))).trans bx16_x1_1
            have sz17_g0 : w8.heap.size < w17.heap.size := Nat.lt_of_lt_of_le sz16_g0 hst17.size
            have bx17_g0_0 : w17.cell? ⟨w8.heap.size, 0, none⟩ = some (.int .i64 (unionRel vA vB).fN) := (World.cell?_of_block (a := ⟨w8.heap.size, 0, none⟩) (hst17.block (w8.heap.size) sz16_g0 (fun hf => by have h1 := hf.1; have h2 := hf.2; omega))).trans bx16_g0_0
            have bx17_g0_1 : w17.cell? ⟨w8.heap.size, 1, none⟩ = some (.slice a1_R_8 (unionRel vA vB).fRows.length c1_R_8) := (World.cell?_of_block (a := ⟨w8.heap.size, 1, none⟩) (hst17.block (w8.heap.size) sz16_g0 (fun hf => by have h1 := hf.1; have h2 := hf.2; omega))).trans bx16_g0_1
            have HO17_1_R_5 := Lib.hid (HO16_1_R_5.out.kept (hst17.kept (fun y hy hf => by have h1 := hy.1; have h2 := hy.2; have h3 := hf.1; have h4 := hf.2; omega)))
            have HO17_1_vA_6 := Lib.hid (HO16_1_vA_6.out.kept (hst17.kept (fun y hy hf => by have h1 := hy.1; have h2 := hy.2; have h3 := hf.1; have h4 := hf.2; omega)))
            have HO17_1_vB_7 := Lib.hid (HO16_1_vB_7.out.kept (hst17.kept (fun y hy hf => by have h1 := hy.1; have h2 := hy.2; have h3 := hf.1; have h4 := hf.2; omega)))
            have HO17_1_R_8 := Lib.hid ho17
            have HO17_1_vA_10 := Lib.hid (HO16_1_vA_10.out.kept (hst17.kept (fun y hy hf => by have h1 := hy.1; have h2 := hy.2; have h3 := hf.1; have h4 := hf.2; omega)))
            have HO17_1_vB_12 := Lib.hid (HO16_1_vB_12.out.kept (hst17.kept (fun y hy hf => by have h1 := hy.1; have h2 := hy.2; have h3 := hf.1; have h4 := hf.2; omega)))
            have HB17 := Lib.hid (HB16.out.trans (hst17.below (fun y hy => by have := hy.1; omega) HB16.out.size))
            clear bx16_paA_0 bx16_paA_1 sz16_paA bx16_paB_0 bx16_paB_1 sz16_paB bx16_w0_0 bx16_w0_1 sz16_w0 bx16_x0_0 bx16_x0_1 sz16_x0 bx16_x1_0 bx16_x1_1 sz16_x1 bx16_g0_0 bx16_g0_1 sz16_g0 HO16_1_R_5 HO16_1_vA_6 HO16_1_vB_7 ho17 HO16_1_R_8 HO16_1_vA_10 HO16_1_vB_12 hw17 hst17 HB16
            go_wp2_with fail
            refine (laws_heldRelation (c1 := c1_R_8) (unionRel vA vB) (by have h1 := rel_len hq_vA; have h3 := rel_len hq_vB; have h2 := unionRel_len vA vB; omega) 1 (by have h1 := rel_len hq_vA; have h3 := rel_len hq_vB; have h2 := unionRel_len vA vB; omega) _ (fun y hy => Nat.lt_of_lt_of_le (show y < w17.heap.size by have := hy.2; omega) (Below.size (by repeat (first | (with_reducible exact Below.refl _ _) | (with_reducible apply Below.drew) | (with_reducible refine below_drewN ?_ _) | (refine Below.setCell ?_ (by simp <;> omega) _) | (refine Below.alloc ?_ (by simp <;> omega) _)) : Below w17.heap.size w17 _))) (HO17_1_R_8.out.kept (Kept.of_below (by repeat (first | (with_reducible exact Below.refl _ _) | (with_reducible apply Below.drew) | (with_reducible refine below_drewN ?_ _) | (refine Below.setCell ?_ (by simp <;> omega) _) | (refine Below.alloc ?_ (by simp <;> omega) _)) : Below w17.heap.size w17 _) (fun y hy => by have := hy.2; omega)))).mono ?_
            rintro e w18 ⟨rfl, hb18⟩
            have hst18 : Below w17.heap.size w17 w18 := Below.trans (by repeat (first | (with_reducible exact Below.refl _ _) | (with_reducible apply Below.drew) | (with_reducible refine below_drewN ?_ _) | (refine Below.setCell ?_ (by simp <;> omega) _) | (refine Below.alloc ?_ (by simp <;> omega) _)) : Below w17.heap.size w17 _) (hb18.mono (Below.size (by repeat (first | (with_reducible exact Below.refl _ _) | (with_reducible apply Below.drew) | (with_reducible refine below_drewN ?_ _) | (refine Below.setCell ?_ (by simp <;> omega) _) | (refine Below.alloc ?_ (by simp <;> omega) _)) : Below w17.heap.size w17 _)))
            have hr18 : w17.heap.size ≤ w18.heap.size := Nat.le_trans (by first | exact Nat.le_refl _ | (simp; done) | (simp; omega) | (simp [World.setCell]; done) | (simp [World.setCell]; omega)) hb18.size
            have sz18_paA : w.heap.size < w18.heap.size := Nat.lt_of_lt_of_le sz17_paA hst18.size
            have bx18_paA_0 : w18.cell? ⟨w.heap.size, 0, none⟩ = some (.int .i64 vA.fN) := (hst18.cell (p := ⟨w.heap.size, 0, none⟩) sz17_paA).trans bx17_paA_0
            have bx18_paA_1 : w18.cell? ⟨w.heap.size, 1, none⟩ = some (.slice a1_vA vA.fRows.length c1_vA) := (hst18.cell (p := ⟨w.heap.size, 1, none⟩) sz17_paA).trans bx17_paA_1
            have sz18_paB : w.heap.size + 1 < w18.heap.size := Nat.lt_of_lt_of_le sz17_paB hst18.size
            have bx18_paB_0 : w18.cell? ⟨w.heap.size + 1, 0, none⟩ = some (.int .i64 vB.fN) := (hst18.cell (p := ⟨w.heap.size + 1, 0, none⟩) sz17_paB).trans bx17_paB_0
            have bx18_paB_1 : w18.cell? ⟨w.heap.size + 1, 1, none⟩ = some (.slice a1_vB vB.fRows.length c1_vB) := (hst18.cell (p := ⟨w.heap.size + 1, 1, none⟩) sz17_paB).trans bx17_paB_1
            have sz18_w0 : bV5 < w18.heap.size := Nat.lt_of_lt_of_le sz17_w0 hst18.size
            have bx18_w0_0 : w18.cell? ⟨bV5, 0, none⟩ = some (.int .i64 (unionRel vA vB).fN) := (hst18.cell (p := ⟨bV5, 0, none⟩) sz17_w0).trans bx17_w0_0
            have bx18_w0_1 : w18.cell? ⟨bV5, 1, none⟩ = some (.slice a1_R_5 (unionRel vA vB).fRows.length c1_R_5) := (hst18.cell (p := ⟨bV5, 1, none⟩) sz17_w0).trans bx17_w0_1
            have sz18_x0 : w6.heap.size < w18.heap.size := Nat.lt_of_lt_of_le sz17_x0 hst18.size
            have bx18_x0_0 : w18.cell? ⟨w6.heap.size, 0, none⟩ = some (.int .i64 vA.fN) := (hst18.cell (p := ⟨w6.heap.size, 0, none⟩) sz17_x0).trans bx17_x0_0
            have bx18_x0_1 : w18.cell? ⟨w6.heap.size, 1, none⟩ = some (.slice a1_vA_6 vA.fRows.length c1_vA_6) := (hst18.cell (p := ⟨w6.heap.size, 1, none⟩) sz17_x0).trans bx17_x0_1
            have sz18_x1 : w7.heap.size < w18.heap.size := Nat.lt_of_lt_of_le sz17_x1 hst18.size
            have bx18_x1_0 : w18.cell? ⟨w7.heap.size, 0, none⟩ = some (.int .i64 vB.fN) := (hst18.cell (p := ⟨w7.heap.size, 0, none⟩) sz17_x1).trans bx17_x1_0
            have bx18_x1_1 : w18.cell? ⟨w7.heap.size, 1, none⟩ = some (.slice a1_vB_7 vB.fRows.length c1_vB_7) := (hst18.cell (p := ⟨w7.heap.size, 1, none⟩) sz17_x1).trans bx17_x1_1
            have sz18_g0 : w8.heap.size < w18.heap.size := Nat.lt_of_lt_of_le sz17_g0 hst18.size
            have bx18_g0_0 : w18.cell? ⟨w8.heap.size, 0, none⟩ = some (.int .i64 (unionRel vA vB).fN) := (hst18.cell (p := ⟨w8.heap.size, 0, none⟩) sz17_g0).trans bx17_g0_0
            have bx18_g0_1 : w18.cell? ⟨w8.heap.size, 1, none⟩ = some (.slice a1_R_8 (unionRel vA vB).fRows.length c1_R_8) := (hst18.cell (p := ⟨w8.heap.size, 1, none⟩) sz17_g0).trans bx17_g0_1
            have HO18_1_R_5 := Lib.hid (HO17_1_R_5.out.kept (Kept.of_below_all hst18))
            have HO18_1_vA_6 := Lib.hid (HO17_1_vA_6.out.kept (Kept.of_below_all hst18))
            have HO18_1_vB_7 := Lib.hid (HO17_1_vB_7.out.kept (Kept.of_below_all hst18))
            have HO18_1_R_8 := Lib.hid (HO17_1_R_8.out.kept (Kept.of_below_all hst18))
            have HO18_1_vA_10 := Lib.hid (HO17_1_vA_10.out.kept (Kept.of_below_all hst18))
            have HO18_1_vB_12 := Lib.hid (HO17_1_vB_12.out.kept (Kept.of_below_all hst18))
            have HB18 := Lib.hid (HB17.out.trans (hst18.mono HB17.out.size))
            clear bx17_paA_0 bx17_paA_1 sz17_paA bx17_paB_0 bx17_paB_1 sz17_paB bx17_w0_0 bx17_w0_1 sz17_w0 bx17_x0_0 bx17_x0_1 sz17_x0 bx17_x1_0 bx17_x1_1 sz17_x1 bx17_g0_0 bx17_g0_1 sz17_g0 HO17_1_R_5 HO17_1_vA_6 HO17_1_vB_7 HO17_1_R_8 HO17_1_vA_10 HO17_1_vB_12 hb18 hst18 HB17
            go_upto_region 31 with fail
            go_cut [13] from 75 to 79 (fun sW wx => ∃ (bW lW hW : Nat) (aW : Option Addr) (cW : Nat), sW = .pointer (some ⟨bW, 0, none⟩) ∧ wx.cell? ⟨bW, 0, none⟩ = some (.int .i64 (unionRel vA vB).fN) ∧ wx.cell? ⟨bW, 1, none⟩ = some (.slice aW (unionRel vA vB).fRows.length cW) ∧ Own wx (fun y => lW ≤ y ∧ y < hW) (.sl 1 (unionRel vA vB).fRows.length (fun k => ictI ((unionRel vA vB).fRows.getD k default))) (.slice aW (unionRel vA vB).fRows.length cW) ∧ bW < wx.heap.size ∧ w18.heap.size ≤ bW ∧ w18.heap.size ≤ lW ∧ hW ≤ wx.heap.size ∧ (bW < lW ∨ hW ≤ bW) ∧ Below w18.heap.size w18 wx)
            case first =>
              refine wp_region_free [([], none), ([0], none), ([], none), ([2], none), ([1, 3], none), ([], none), ([5, 4], some 5)] [0, 1, 2, 3, 4, 6] (fun j V L H wx => match j with | 0 => V 0 = .agg #[.int .i64 vA.fN, .slice a1_vA vA.fRows.length c1_vA] | 1 => ∃ a1_vA_f1 c1_vA_f1, V 1 = .agg #[.int .i64 vA.fN, .slice a1_vA_f1 vA.fRows.length c1_vA_f1] ∧ OwnR wx (fun y => L ≤ y ∧ y < H) 2 vA.ct (fun j => [.int .i64 vA.fN, .slice a1_vA_f1 vA.fRows.length c1_vA_f1].getD j .nilFunc) | 2 => V 2 = .agg #[.int .i64 vB.fN, .slice a1_vB vB.fRows.length c1_vB] | 3 => ∃ a1_vB_f3 c1_vB_f3, V 3 = .agg #[.int .i64 vB.fN, .slice a1_vB_f3 vB.fRows.length c1_vB_f3] ∧ OwnR wx (fun y => L ≤ y ∧ y < H) 2 vB.ct (fun j => [.int .i64 vB.fN, .slice a1_vB_f3 vB.fRows.length c1_vB_f3].getD j .nilFunc) | 4 => ∃ a1_R_f4 c1_R_f4, V 4 = .agg #[.int .i64 (unionRel vA vB).fN, .slice a1_R_f4 (unionRel vA vB).fRows.length c1_R_f4] ∧ Own wx (fun y => L ≤ y ∧ y < H) (.sl 1 (unionRel vA vB).fRows.length (fun k => ictI ((unionRel vA vB).fRows.getD k default))) (.slice a1_R_f4 (unionRel vA vB).fRows.length c1_R_f4) | 5 => V 5 = .pointer (some ⟨L, 0, none⟩) ∧ L < H ∧ wx.cell? ⟨L, 0, none⟩ = some (.int .i64 0) ∧ wx.frozen? ⟨L, 0, none⟩ = false ∧ wx.cell? ⟨L, 1, none⟩ = some (.slice none 0 0) ∧ wx.frozen? ⟨L, 1, none⟩ = false | 6 => ∀ x0 x1, V 4 = .agg #[x0, x1] → L < H ∧ wx.cell? ⟨L, 0, none⟩ = some x0 ∧ wx.cell? ⟨L, 1, none⟩ = some x1 | _ => True) (by kernel_rfl) (by kernel_rfl) ?loc ?lasts ?walk
              case loc =>
                intro k V V' L H wx h0 h1 hG
                match k with
                | 0 =>
                  try dsimp only at hG ⊢
                  rw [← h0]
                  exact hG
                | 1 =>
                  have e0 := h1 0 (by decide)
                  try dsimp only at hG ⊢
                  rw [← h0]
                  exact hG
                | 2 =>
                  try dsimp only at hG ⊢
                  rw [← h0]
                  exact hG
                | 3 =>
                  have e2 := h1 2 (by decide)
                  try dsimp only at hG ⊢
                  rw [← h0]
                  exact hG
                | 4 =>
                  have e1 := h1 1 (by decide)
                  have e3 := h1 3 (by decide)
                  try dsimp only at hG ⊢
                  rw [← h0]
                  exact hG
                | 5 =>
                  try dsimp only at hG ⊢
                  rw [← h0]
                  exact hG
                | 6 =>
                  have e5 := h1 5 (by decide)
                  have e4 := h1 4 (by decide)
                  try dsimp only at hG ⊢
                  rw [← e4]
                  exact hG
                | n + 7 => trivial
              case lasts =>
                intro i hi V L H wx wy hB hH hk
                match i, hi with
                | 0, _ => exact fun h => h
                | 1, _ => exact fun ⟨a1_vA_f1, c1_vA_f1, hv, ho⟩ => ⟨a1_vA_f1, c1_vA_f1, hv, ho.kept (hk.sub fun x hx => .inr hx)⟩
                | 2, _ => exact fun h => h
                | 3, _ => exact fun ⟨a1_vB_f3, c1_vB_f3, hv, ho⟩ => ⟨a1_vB_f3, c1_vB_f3, hv, ho.kept (hk.sub fun x hx => .inr hx)⟩
                | 4, _ => exact fun ⟨a1_R_f4, c1_R_f4, hv, ho⟩ => ⟨a1_R_f4, c1_R_f4, hv, ho.kept (hk.sub fun x hx => .inr hx)⟩
                | 5, _ => exact fun ⟨hv, hl, hc0, hf0, hc1, hf1⟩ => ⟨hv, hl, (hk.cell (p := ⟨L, 0, none⟩) (.inr ⟨Nat.le_refl _, hl⟩) (Nat.lt_of_lt_of_le hl hH)).trans hc0, (hk.frozen (p := ⟨L, 0, none⟩) (.inr ⟨Nat.le_refl _, hl⟩) (Nat.lt_of_lt_of_le hl hH)).trans hf0, (hk.cell (p := ⟨L, 1, none⟩) (.inr ⟨Nat.le_refl _, hl⟩) (Nat.lt_of_lt_of_le hl hH)).trans hc1, (hk.frozen (p := ⟨L, 1, none⟩) (.inr ⟨Nat.le_refl _, hl⟩) (Nat.lt_of_lt_of_le hl hH)).trans hf1⟩
                | 6, _ => exact fun h x0 x1 hv => ⟨(h x0 x1 hv).1, (hk.cell (p := ⟨L, 0, none⟩) (.inr ⟨Nat.le_refl _, (h x0 x1 hv).1⟩) (Nat.lt_of_lt_of_le (h x0 x1 hv).1 hH)).trans (h x0 x1 hv).2.1, (hk.cell (p := ⟨L, 1, none⟩) (.inr ⟨Nat.le_refl _, (h x0 x1 hv).1⟩) (Nat.lt_of_lt_of_le (h x0 x1 hv).1 hH)).trans (h x0 x1 hv).2.2⟩
                | n + 7, hn => exact absurd hn (by simp)
              case walk =>
                simp only [free, Nat.reduceAdd, Act.put, List.setIfInBounds_toArray, List.set_cons_succ, List.set_cons_zero]
                refine ⟨?_, ?_, ?_, ?_, ?_, ?_, ?_, ?_⟩
                · intro V L H w19 hb19 hd
                  clear hd
                  have sz19_paA : w.heap.size < w19.heap.size := Nat.lt_of_lt_of_le sz18_paA hb19.size
                  have bx19_paA_0 : w19.cell? ⟨w.heap.size, 0, none⟩ = some (.int .i64 vA.fN) := (hb19.cell (p := ⟨w.heap.size, 0, none⟩) sz18_paA).trans bx18_paA_0
                  have bx19_paA_1 : w19.cell? ⟨w.heap.size, 1, none⟩ = some (.slice a1_vA vA.fRows.length c1_vA) := (hb19.cell (p := ⟨w.heap.size, 1, none⟩) sz18_paA).trans bx18_paA_1
                  have sz19_paB : w.heap.size + 1 < w19.heap.size := Nat.lt_of_lt_of_le sz18_paB hb19.size
                  have bx19_paB_0 : w19.cell? ⟨w.heap.size + 1, 0, none⟩ = some (.int .i64 vB.fN) := (hb19.cell (p := ⟨w.heap.size + 1, 0, none⟩) sz18_paB).trans bx18_paB_0
                  have bx19_paB_1 : w19.cell? ⟨w.heap.size + 1, 1, none⟩ = some (.slice a1_vB vB.fRows.length c1_vB) := (hb19.cell (p := ⟨w.heap.size + 1, 1, none⟩) sz18_paB).trans bx18_paB_1
                  have sz19_w0 : bV5 < w19.heap.size := Nat.lt_of_lt_of_le sz18_w0 hb19.size
                  have bx19_w0_0 : w19.cell? ⟨bV5, 0, none⟩ = some (.int .i64 (unionRel vA vB).fN) := (hb19.cell (p := ⟨bV5, 0, none⟩) sz18_w0).trans bx18_w0_0
                  have bx19_w0_1 : w19.cell? ⟨bV5, 1, none⟩ = some (.slice a1_R_5 (unionRel vA vB).fRows.length c1_R_5) := (hb19.cell (p := ⟨bV5, 1, none⟩) sz18_w0).trans bx18_w0_1
                  have sz19_x0 : w6.heap.size < w19.heap.size := Nat.lt_of_lt_of_le sz18_x0 hb19.size
                  have bx19_x0_0 : w19.cell? ⟨w6.heap.size, 0, none⟩ = some (.int .i64 vA.fN) := (hb19.cell (p := ⟨w6.heap.size, 0, none⟩) sz18_x0).trans bx18_x0_0
                  have bx19_x0_1 : w19.cell? ⟨w6.heap.size, 1, none⟩ = some (.slice a1_vA_6 vA.fRows.length c1_vA_6) := (hb19.cell (p := ⟨w6.heap.size, 1, none⟩) sz18_x0).trans bx18_x0_1
                  have sz19_x1 : w7.heap.size < w19.heap.size := Nat.lt_of_lt_of_le sz18_x1 hb19.size
                  have bx19_x1_0 : w19.cell? ⟨w7.heap.size, 0, none⟩ = some (.int .i64 vB.fN) := (hb19.cell (p := ⟨w7.heap.size, 0, none⟩) sz18_x1).trans bx18_x1_0
                  have bx19_x1_1 : w19.cell? ⟨w7.heap.size, 1, none⟩ = some (.slice a1_vB_7 vB.fRows.length c1_vB_7) := (hb19.cell (p := ⟨w7.heap.size, 1, none⟩) sz18_x1).trans bx18_x1_1
                  have sz19_g0 : w8.heap.size < w19.heap.size := Nat.lt_of_lt_of_le sz18_g0 hb19.size
                  have bx19_g0_0 : w19.cell? ⟨w8.heap.size, 0, none⟩ = some (.int .i64 (unionRel vA vB).fN) := (hb19.cell (p := ⟨w8.heap.size, 0, none⟩) sz18_g0).trans bx18_g0_0
                  have bx19_g0_1 : w19.cell? ⟨w8.heap.size, 1, none⟩ = some (.slice a1_R_8 (unionRel vA vB).fRows.length c1_R_8) := (hb19.cell (p := ⟨w8.heap.size, 1, none⟩) sz18_g0).trans bx18_g0_1
                  have HO19_1_R_5 := Lib.hid (HO18_1_R_5.out.kept (Kept.of_below_all hb19))
                  have HO19_1_vA_6 := Lib.hid (HO18_1_vA_6.out.kept (Kept.of_below_all hb19))
                  have HO19_1_vB_7 := Lib.hid (HO18_1_vB_7.out.kept (Kept.of_below_all hb19))
                  have HO19_1_R_8 := Lib.hid (HO18_1_R_8.out.kept (Kept.of_below_all hb19))
                  have HO19_1_vA_10 := Lib.hid (HO18_1_vA_10.out.kept (Kept.of_below_all hb19))
                  have HO19_1_vB_12 := Lib.hid (HO18_1_vB_12.out.kept (Kept.of_below_all hb19))
                  have HB19 := Lib.hid (HB18.out.trans (hb19.mono HB18.out.size))
                  clear sz18_paA bx18_paA_0 bx18_paA_1 sz18_paB bx18_paB_0 bx18_paB_1 sz18_w0 bx18_w0_0 bx18_w0_1 sz18_x0 bx18_x0_0 bx18_x0_1 sz18_x1 bx18_x1_0 bx18_x1_1 sz18_g0 bx18_g0_0 bx18_g0_1
                  go_wp2_with fail
                  exact freePost _ rfl ⟨Below.refl _ _, upd_self⟩
                · intro V L H w19 hb19 hd
                  obtain ⟨⟨hL0, hM0, hH0, hv0⟩, -⟩ := hd
                  rw [hv0]
                  have HV0 := Lib.hid hv0
                  clear hv0
                  have sz19_paA : w.heap.size < w19.heap.size := Nat.lt_of_lt_of_le sz18_paA hb19.size
                  have bx19_paA_0 : w19.cell? ⟨w.heap.size, 0, none⟩ = some (.int .i64 vA.fN) := (hb19.cell (p := ⟨w.heap.size, 0, none⟩) sz18_paA).trans bx18_paA_0
                  have bx19_paA_1 : w19.cell? ⟨w.heap.size, 1, none⟩ = some (.slice a1_vA vA.fRows.length c1_vA) := (hb19.cell (p := ⟨w.heap.size, 1, none⟩) sz18_paA).trans bx18_paA_1
                  have sz19_paB : w.heap.size + 1 < w19.heap.size := Nat.lt_of_lt_of_le sz18_paB hb19.size
                  have bx19_paB_0 : w19.cell? ⟨w.heap.size + 1, 0, none⟩ = some (.int .i64 vB.fN) := (hb19.cell (p := ⟨w.heap.size + 1, 0, none⟩) sz18_paB).trans bx18_paB_0
                  have bx19_paB_1 : w19.cell? ⟨w.heap.size + 1, 1, none⟩ = some (.slice a1_vB vB.fRows.length c1_vB) := (hb19.cell (p := ⟨w.heap.size + 1, 1, none⟩) sz18_paB).trans bx18_paB_1
                  have sz19_w0 : bV5 < w19.heap.size := Nat.lt_of_lt_of_le sz18_w0 hb19.size
                  have bx19_w0_0 : w19.cell? ⟨bV5, 0, none⟩ = some (.int .i64 (unionRel vA vB).fN) := (hb19.cell (p := ⟨bV5, 0, none⟩) sz18_w0).trans bx18_w0_0
                  have bx19_w0_1 : w19.cell? ⟨bV5, 1, none⟩ = some (.slice a1_R_5 (unionRel vA vB).fRows.length c1_R_5) := (hb19.cell (p := ⟨bV5, 1, none⟩) sz18_w0).trans bx18_w0_1
                  have sz19_x0 : w6.heap.size < w19.heap.size := Nat.lt_of_lt_of_le sz18_x0 hb19.size
                  have bx19_x0_0 : w19.cell? ⟨w6.heap.size, 0, none⟩ = some (.int .i64 vA.fN) := (hb19.cell (p := ⟨w6.heap.size, 0, none⟩) sz18_x0).trans bx18_x0_0
                  have bx19_x0_1 : w19.cell? ⟨w6.heap.size, 1, none⟩ = some (.slice a1_vA_6 vA.fRows.length c1_vA_6) := (hb19.cell (p := ⟨w6.heap.size, 1, none⟩) sz18_x0).trans bx18_x0_1
                  have sz19_x1 : w7.heap.size < w19.heap.size := Nat.lt_of_lt_of_le sz18_x1 hb19.size
                  have bx19_x1_0 : w19.cell? ⟨w7.heap.size, 0, none⟩ = some (.int .i64 vB.fN) := (hb19.cell (p := ⟨w7.heap.size, 0, none⟩) sz18_x1).trans bx18_x1_0
                  have bx19_x1_1 : w19.cell? ⟨w7.heap.size, 1, none⟩ = some (.slice a1_vB_7 vB.fRows.length c1_vB_7) := (hb19.cell (p := ⟨w7.heap.size, 1, none⟩) sz18_x1).trans bx18_x1_1
                  have sz19_g0 : w8.heap.size < w19.heap.size := Nat.lt_of_lt_of_le sz18_g0 hb19.size
                  have bx19_g0_0 : w19.cell? ⟨w8.heap.size, 0, none⟩ = some (.int .i64 (unionRel vA vB).fN) := (hb19.cell (p := ⟨w8.heap.size, 0, none⟩) sz18_g0).trans bx18_g0_0
                  have bx19_g0_1 : w19.cell? ⟨w8.heap.size, 1, none⟩ = some (.slice a1_R_8 (unionRel vA vB).fRows.length c1_R_8) := (hb19.cell (p := ⟨w8.heap.size, 1, none⟩) sz18_g0).trans bx18_g0_1
                  have HO19_1_R_5 := Lib.hid (HO18_1_R_5.out.kept (Kept.of_below_all hb19))
                  have HO19_1_vA_6 := Lib.hid (HO18_1_vA_6.out.kept (Kept.of_below_all hb19))
                  have HO19_1_vB_7 := Lib.hid (HO18_1_vB_7.out.kept (Kept.of_below_all hb19))
                  have HO19_1_R_8 := Lib.hid (HO18_1_R_8.out.kept (Kept.of_below_all hb19))
                  have HO19_1_vA_10 := Lib.hid (HO18_1_vA_10.out.kept (Kept.of_below_all hb19))
                  have HO19_1_vB_12 := Lib.hid (HO18_1_vB_12.out.kept (Kept.of_below_all hb19))
                  have HB19 := Lib.hid (HB18.out.trans (hb19.mono HB18.out.size))
                  clear sz18_paA bx18_paA_0 bx18_paA_1 sz18_paB bx18_paB_0 bx18_paB_1 sz18_w0 bx18_w0_0 bx18_w0_1 sz18_x0 bx18_x0_0 bx18_x0_1 sz18_x1 bx18_x1_0 bx18_x1_1 sz18_g0 bx18_g0_0 bx18_g0_1
                  go_wp2_with fail
                  refine (laws_toRelation (c1 := c1_vA) vA hq_vA _ (Below.size (by repeat (first | (with_reducible exact Below.refl _ _) | (with_reducible apply Below.drew) | (with_reducible refine below_drewN ?_ _) | (refine Below.setCell ?_ (by simp <;> omega) _) | (refine Below.alloc ?_ (by simp <;> omega) _)) : Below w19.heap.size w19 _)) ((HS_1_vA.out.later (HB19.out.trans ((by repeat (first | (with_reducible exact Below.refl _ _) | (with_reducible apply Below.drew) | (with_reducible refine below_drewN ?_ _) | (refine Below.setCell ?_ (by simp <;> omega) _) | (refine Below.alloc ?_ (by simp <;> omega) _)) : Below w19.heap.size w19 _).mono HB19.out.size)) (Nat.le_refl _)).mono (Nat.le_refl _) HB19.out.size)).mono ?_
                  rintro e w20 ⟨a1_vA_f1, c1_vA_f1, rfl, ho, hb20⟩
                  go_wp2_with fail
                  exact freePost _ rfl ⟨hb20, Exists.intro a1_vA_f1 (Exists.intro c1_vA_f1 (And.intro upd_self ho))⟩
                · intro V L H w19 hb19 hd
                  clear hd
                  have sz19_paA : w.heap.size < w19.heap.size := Nat.lt_of_lt_of_le sz18_paA hb19.size
                  have bx19_paA_0 : w19.cell? ⟨w.heap.size, 0, none⟩ = some (.int .i64 vA.fN) := (hb19.cell (p := ⟨w.heap.size, 0, none⟩) sz18_paA).trans bx18_paA_0
                  have bx19_paA_1 : w19.cell? ⟨w.heap.size, 1, none⟩ = some (.slice a1_vA vA.fRows.length c1_vA) := (hb19.cell (p := ⟨w.heap.size, 1, none⟩) sz18_paA).trans bx18_paA_1
                  have sz19_paB : w.heap.size + 1 < w19.heap.size := Nat.lt_of_lt_of_le sz18_paB hb19.size
                  have bx19_paB_0 : w19.cell? ⟨w.heap.size + 1, 0, none⟩ = some (.int .i64 vB.fN) := (hb19.cell (p := ⟨w.heap.size + 1, 0, none⟩) sz18_paB).trans bx18_paB_0
                  have bx19_paB_1 : w19.cell? ⟨w.heap.size + 1, 1, none⟩ = some (.slice a1_vB vB.fRows.length c1_vB) := (hb19.cell (p := ⟨w.heap.size + 1, 1, none⟩) sz18_paB).trans bx18_paB_1
                  have sz19_w0 : bV5 < w19.heap.size := Nat.lt_of_lt_of_le sz18_w0 hb19.size
                  have bx19_w0_0 : w19.cell? ⟨bV5, 0, none⟩ = some (.int .i64 (unionRel vA vB).fN) := (hb19.cell (p := ⟨bV5, 0, none⟩) sz18_w0).trans bx18_w0_0
                  have bx19_w0_1 : w19.cell? ⟨bV5, 1, none⟩ = some (.slice a1_R_5 (unionRel vA vB).fRows.length c1_R_5) := (hb19.cell (p := ⟨bV5, 1, none⟩) sz18_w0).trans bx18_w0_1
                  have sz19_x0 : w6.heap.size < w19.heap.size := Nat.lt_of_lt_of_le sz18_x0 hb19.size
                  have bx19_x0_0 : w19.cell? ⟨w6.heap.size, 0, none⟩ = some (.int .i64 vA.fN) := (hb19.cell (p := ⟨w6.heap.size, 0, none⟩) sz18_x0).trans bx18_x0_0
                  have bx19_x0_1 : w19.cell? ⟨w6.heap.size, 1, none⟩ = some (.slice a1_vA_6 vA.fRows.length c1_vA_6) := (hb19.cell (p := ⟨w6.heap.size, 1, none⟩) sz18_x0).trans bx18_x0_1
                  have sz19_x1 : w7.heap.size < w19.heap.size := Nat.lt_of_lt_of_le sz18_x1 hb19.size
                  have bx19_x1_0 : w19.cell? ⟨w7.heap.size, 0, none⟩ = some (.int .i64 vB.fN) := (hb19.cell (p := ⟨w7.heap.size, 0, none⟩) sz18_x1).trans bx18_x1_0
                  have bx19_x1_1 : w19.cell? ⟨w7.heap.size, 1, none⟩ = some (.slice a1_vB_7 vB.fRows.length c1_vB_7) := (hb19.cell (p := ⟨w7.heap.size, 1, none⟩) sz18_x1).trans bx18_x1_1
                  have sz19_g0 : w8.heap.size < w19.heap.size := Nat.lt_of_lt_of_le sz18_g0 hb19.size
                  have bx19_g0_0 : w19.cell? ⟨w8.heap.size, 0, none⟩ = some (.int .i64 (unionRel vA vB).fN) := (hb19.cell (p := ⟨w8.heap.size, 0, none⟩) sz18_g0).trans bx18_g0_0
                  have bx19_g0_1 : w19.cell? ⟨w8.heap.size, 1, none⟩ = some (.slice a1_R_8 (unionRel vA vB).fRows.length c1_R_8) := (hb19.cell (p := ⟨w8.heap.size, 1, none⟩) sz18_g0).trans bx18_g0_1
                  have HO19_1_R_5 := Lib.hid (HO18_1_R_5.out.kept (Kept.of_below_all hb19))
                  have HO19_1_vA_6 := Lib.hid (HO18_1_vA_6.out.kept (Kept.of_below_all hb19))
                  have HO19_1_vB_7 := Lib.hid (HO18_1_vB_7.out.kept (Kept.of_below_all hb19))
                  have HO19_1_R_8 := Lib.hid (HO18_1_R_8.out.kept (Kept.of_below_all hb19))
                  have HO19_1_vA_10 := Lib.hid (HO18_1_vA_10.out.kept (Kept.of_below_all hb19))
                  have HO19_1_vB_12 := Lib.hid (HO18_1_vB_12.out.kept (Kept.of_below_all hb19))
                  have HB19 := Lib.hid (HB18.out.trans (hb19.mono HB18.out.size))
                  clear sz18_paA bx18_paA_0 bx18_paA_1 sz18_paB bx18_paB_0 bx18_paB_1 sz18_w0 bx18_w0_0 bx18_w0_1 sz18_x0 bx18_x0_0 bx18_x0_1 sz18_x1 bx18_x1_0 bx18_x1_1 sz18_g0 bx18_g0_0 bx18_g0_1
                  go_wp2_with fail
                  exact freePost _ rfl ⟨Below.refl _ _, upd_self⟩
                · intro V L H w19 hb19 hd
                  obtain ⟨⟨hL2, hM2, hH2, hv2⟩, -⟩ := hd
                  rw [hv2]
                  have HV2 := Lib.hid hv2
                  clear hv2
                  have sz19_paA : w.heap.size < w19.heap.size := Nat.lt_of_lt_of_le sz18_paA hb19.size
                  have bx19_paA_0 : w19.cell? ⟨w.heap.size, 0, none⟩ = some (.int .i64 vA.fN) := (hb19.cell (p := ⟨w.heap.size, 0, none⟩) sz18_paA).trans bx18_paA_0
                  have bx19_paA_1 : w19.cell? ⟨w.heap.size, 1, none⟩ = some (.slice a1_vA vA.fRows.length c1_vA) := (hb19.cell (p := ⟨w.heap.size, 1, none⟩) sz18_paA).trans bx18_paA_1
                  have sz19_paB : w.heap.size + 1 < w19.heap.size := Nat.lt_of_lt_of_le sz18_paB hb19.size
                  have bx19_paB_0 : w19.cell? ⟨w.heap.size + 1, 0, none⟩ = some (.int .i64 vB.fN) := (hb19.cell (p := ⟨w.heap.size + 1, 0, none⟩) sz18_paB).trans bx18_paB_0
                  have bx19_paB_1 : w19.cell? ⟨w.heap.size + 1, 1, none⟩ = some (.slice a1_vB vB.fRows.length c1_vB) := (hb19.cell (p := ⟨w.heap.size + 1, 1, none⟩) sz18_paB).trans bx18_paB_1
                  have sz19_w0 : bV5 < w19.heap.size := Nat.lt_of_lt_of_le sz18_w0 hb19.size
                  have bx19_w0_0 : w19.cell? ⟨bV5, 0, none⟩ = some (.int .i64 (unionRel vA vB).fN) := (hb19.cell (p := ⟨bV5, 0, none⟩) sz18_w0).trans bx18_w0_0
                  have bx19_w0_1 : w19.cell? ⟨bV5, 1, none⟩ = some (.slice a1_R_5 (unionRel vA vB).fRows.length c1_R_5) := (hb19.cell (p := ⟨bV5, 1, none⟩) sz18_w0).trans bx18_w0_1
                  have sz19_x0 : w6.heap.size < w19.heap.size := Nat.lt_of_lt_of_le sz18_x0 hb19.size
                  have bx19_x0_0 : w19.cell? ⟨w6.heap.size, 0, none⟩ = some (.int .i64 vA.fN) := (hb19.cell (p := ⟨w6.heap.size, 0, none⟩) sz18_x0).trans bx18_x0_0
                  have bx19_x0_1 : w19.cell? ⟨w6.heap.size, 1, none⟩ = some (.slice a1_vA_6 vA.fRows.length c1_vA_6) := (hb19.cell (p := ⟨w6.heap.size, 1, none⟩) sz18_x0).trans bx18_x0_1
                  have sz19_x1 : w7.heap.size < w19.heap.size := Nat.lt_of_lt_of_le sz18_x1 hb19.size
                  have bx19_x1_0 : w19.cell? ⟨w7.heap.size, 0, none⟩ = some (.int .i64 vB.fN) := (hb19.cell (p := ⟨w7.heap.size, 0, none⟩) sz18_x1).trans bx18_x1_0
                  have bx19_x1_1 : w19.cell? ⟨w7.heap.size, 1, none⟩ = some (.slice a1_vB_7 vB.fRows.length c1_vB_7) := (hb19.cell (p := ⟨w7.heap.size, 1, none⟩) sz18_x1).trans bx18_x1_1
                  have sz19_g0 : w8.heap.size < w19.heap.size := Nat.lt_of_lt_of_le sz18_g0 hb19.size
                  have bx19_g0_0 : w19.cell? ⟨w8.heap.size, 0, none⟩ = some (.int .i64 (unionRel vA vB).fN) := (hb19.cell (p := ⟨w8.heap.size, 0, none⟩) sz18_g0).trans bx18_g0_0
                  have bx19_g0_1 : w19.cell? ⟨w8.heap.size, 1, none⟩ = some (.slice a1_R_8 (unionRel vA vB).fRows.length c1_R_8) := (hb19.cell (p := ⟨w8.heap.size, 1, none⟩) sz18_g0).trans bx18_g0_1
                  have HO19_1_R_5 := Lib.hid (HO18_1_R_5.out.kept (Kept.of_below_all hb19))
                  have HO19_1_vA_6 := Lib.hid (HO18_1_vA_6.out.kept (Kept.of_below_all hb19))
                  have HO19_1_vB_7 := Lib.hid (HO18_1_vB_7.out.kept (Kept.of_below_all hb19))
                  have HO19_1_R_8 := Lib.hid (HO18_1_R_8.out.kept (Kept.of_below_all hb19))
                  have HO19_1_vA_10 := Lib.hid (HO18_1_vA_10.out.kept (Kept.of_below_all hb19))
                  have HO19_1_vB_12 := Lib.hid (HO18_1_vB_12.out.kept (Kept.of_below_all hb19))
                  have HB19 := Lib.hid (HB18.out.trans (hb19.mono HB18.out.size))
                  clear sz18_paA bx18_paA_0 bx18_paA_1 sz18_paB bx18_paB_0 bx18_paB_1 sz18_w0 bx18_w0_0 bx18_w0_1 sz18_x0 bx18_x0_0 bx18_x0_1 sz18_x1 bx18_x1_0 bx18_x1_1 sz18_g0 bx18_g0_0 bx18_g0_1
                  go_wp2_with fail
                  refine (laws_toRelation (c1 := c1_vB) vB hq_vB _ (Below.size (by repeat (first | (with_reducible exact Below.refl _ _) | (with_reducible apply Below.drew) | (with_reducible refine below_drewN ?_ _) | (refine Below.setCell ?_ (by simp <;> omega) _) | (refine Below.alloc ?_ (by simp <;> omega) _)) : Below w19.heap.size w19 _)) ((HS_1_vB.out.later (HB19.out.trans ((by repeat (first | (with_reducible exact Below.refl _ _) | (with_reducible apply Below.drew) | (with_reducible refine below_drewN ?_ _) | (refine Below.setCell ?_ (by simp <;> omega) _) | (refine Below.alloc ?_ (by simp <;> omega) _)) : Below w19.heap.size w19 _).mono HB19.out.size)) (Nat.le_refl _)).mono (Nat.le_refl _) HB19.out.size)).mono ?_
                  rintro e w20 ⟨a1_vB_f3, c1_vB_f3, rfl, ho, hb20⟩
                  go_wp2_with fail
                  exact freePost _ rfl ⟨hb20, Exists.intro a1_vB_f3 (Exists.intro c1_vB_f3 (And.intro upd_self ho))⟩
                · intro V L H w19 hb19 hd
                  obtain ⟨⟨hL1, hM1, hH1, a1_vA_f1, c1_vA_f1, hv1, ho1_⟩, ⟨hL3, hM3, hH3, a1_vB_f3, c1_vB_f3, hv3, ho3_⟩, -⟩ := hd
                  rw [hv1, hv3]
                  have HV1 := Lib.hid hv1
                  have HV3 := Lib.hid hv3
                  clear hv1 hv3
                  have sz19_paA : w.heap.size < w19.heap.size := Nat.lt_of_lt_of_le sz18_paA hb19.size
                  have bx19_paA_0 : w19.cell? ⟨w.heap.size, 0, none⟩ = some (.int .i64 vA.fN) := (hb19.cell (p := ⟨w.heap.size, 0, none⟩) sz18_paA).trans bx18_paA_0
                  have bx19_paA_1 : w19.cell? ⟨w.heap.size, 1, none⟩ = some (.slice a1_vA vA.fRows.length c1_vA) := (hb19.cell (p := ⟨w.heap.size, 1, none⟩) sz18_paA).trans bx18_paA_1
                  have sz19_paB : w.heap.size + 1 < w19.heap.size := Nat.lt_of_lt_of_le sz18_paB hb19.size
                  have bx19_paB_0 : w19.cell? ⟨w.heap.size + 1, 0, none⟩ = some (.int .i64 vB.fN) := (hb19.cell (p := ⟨w.heap.size + 1, 0, none⟩) sz18_paB).trans bx18_paB_0
                  have bx19_paB_1 : w19.cell? ⟨w.heap.size + 1, 1, none⟩ = some (.slice a1_vB vB.fRows.length c1_vB) := (hb19.cell (p := ⟨w.heap.size + 1, 1, none⟩) sz18_paB).trans bx18_paB_1
                  have sz19_w0 : bV5 < w19.heap.size := Nat.lt_of_lt_of_le sz18_w0 hb19.size
                  have bx19_w0_0 : w19.cell? ⟨bV5, 0, none⟩ = some (.int .i64 (unionRel vA vB).fN) := (hb19.cell (p := ⟨bV5, 0, none⟩) sz18_w0).trans bx18_w0_0
                  have bx19_w0_1 : w19.cell? ⟨bV5, 1, none⟩ = some (.slice a1_R_5 (unionRel vA vB).fRows.length c1_R_5) := (hb19.cell (p := ⟨bV5, 1, none⟩) sz18_w0).trans bx18_w0_1
                  have sz19_x0 : w6.heap.size < w19.heap.size := Nat.lt_of_lt_of_le sz18_x0 hb19.size
                  have bx19_x0_0 : w19.cell? ⟨w6.heap.size, 0, none⟩ = some (.int .i64 vA.fN) := (hb19.cell (p := ⟨w6.heap.size, 0, none⟩) sz18_x0).trans bx18_x0_0
                  have bx19_x0_1 : w19.cell? ⟨w6.heap.size, 1, none⟩ = some (.slice a1_vA_6 vA.fRows.length c1_vA_6) := (hb19.cell (p := ⟨w6.heap.size, 1, none⟩) sz18_x0).trans bx18_x0_1
                  have sz19_x1 : w7.heap.size < w19.heap.size := Nat.lt_of_lt_of_le sz18_x1 hb19.size
                  have bx19_x1_0 : w19.cell? ⟨w7.heap.size, 0, none⟩ = some (.int .i64 vB.fN) := (hb19.cell (p := ⟨w7.heap.size, 0, none⟩) sz18_x1).trans bx18_x1_0
                  have bx19_x1_1 : w19.cell? ⟨w7.heap.size, 1, none⟩ = some (.slice a1_vB_7 vB.fRows.length c1_vB_7) := (hb19.cell (p := ⟨w7.heap.size, 1, none⟩) sz18_x1).trans bx18_x1_1
                  have sz19_g0 : w8.heap.size < w19.heap.size := Nat.lt_of_lt_of_le sz18_g0 hb19.size
                  have bx19_g0_0 : w19.cell? ⟨w8.heap.size, 0, none⟩ = some (.int .i64 (unionRel vA vB).fN) := (hb19.cell (p := ⟨w8.heap.size, 0, none⟩) sz18_g0).trans bx18_g0_0
                  have bx19_g0_1 : w19.cell? ⟨w8.heap.size, 1, none⟩ = some (.slice a1_R_8 (unionRel vA vB).fRows.length c1_R_8) := (hb19.cell (p := ⟨w8.heap.size, 1, none⟩) sz18_g0).trans bx18_g0_1
                  have HO19_1_R_5 := Lib.hid (HO18_1_R_5.out.kept (Kept.of_below_all hb19))
                  have HO19_1_vA_6 := Lib.hid (HO18_1_vA_6.out.kept (Kept.of_below_all hb19))
                  have HO19_1_vB_7 := Lib.hid (HO18_1_vB_7.out.kept (Kept.of_below_all hb19))
                  have HO19_1_R_8 := Lib.hid (HO18_1_R_8.out.kept (Kept.of_below_all hb19))
                  have HO19_1_vA_10 := Lib.hid (HO18_1_vA_10.out.kept (Kept.of_below_all hb19))
                  have HO19_1_vB_12 := Lib.hid (HO18_1_vB_12.out.kept (Kept.of_below_all hb19))
                  have HB19 := Lib.hid (HB18.out.trans (hb19.mono HB18.out.size))
                  clear sz18_paA bx18_paA_0 bx18_paA_1 sz18_paB bx18_paB_0 bx18_paB_1 sz18_w0 bx18_w0_0 bx18_w0_1 sz18_x0 bx18_x0_0 bx18_x0_1 sz18_x1 bx18_x1_0 bx18_x1_1 sz18_g0 bx18_g0_0 bx18_g0_1
                  have HO_1_vA_f1 := Lib.hid (show Own w19 (fun y => L 1 ≤ y ∧ y < H 1) (.sl 1 vA.fRows.length (fun k => ictI (vA.fRows.getD k default))) (.slice a1_vA_f1 vA.fRows.length c1_vA_f1) from OwnR.at ho1_ 1 (by decide))
                  clear ho1_
                  have HO_1_vB_f3 := Lib.hid (show Own w19 (fun y => L 3 ≤ y ∧ y < H 3) (.sl 1 vB.fRows.length (fun k => ictI (vB.fRows.getD k default))) (.slice a1_vB_f3 vB.fRows.length c1_vB_f3) from OwnR.at ho3_ 1 (by decide))
                  clear ho3_
                  go_wp2_with fail
                  refine (impl_UnionRelation (c0_0 := c1_vA_f1) (c1_0 := c1_vB_f3) vA OK_vA.out hq_vA vB OK_vB.out hq_vB _ (Below.size (by repeat (first | (with_reducible exact Below.refl _ _) | (with_reducible apply Below.drew) | (with_reducible refine below_drewN ?_ _) | (refine Below.setCell ?_ (by simp <;> omega) _) | (refine Below.alloc ?_ (by simp <;> omega) _)) : Below w19.heap.size w19 _)) ((Sl.of (HO_1_vA_f1.out.lies (lo := 0) (hi := w19.heap.size) (fun y hy => ⟨Nat.zero_le _, by have := hy.2; omega⟩))).later (by repeat (first | (with_reducible exact Below.refl _ _) | (with_reducible apply Below.drew) | (with_reducible refine below_drewN ?_ _) | (refine Below.setCell ?_ (by simp <;> omega) _) | (refine Below.alloc ?_ (by simp <;> omega) _)) : Below w19.heap.size w19 _) (Nat.le_refl _)) ((Sl.of (HO_1_vB_f3.out.lies (lo := 0) (hi := w19.heap.size) (fun y hy => ⟨Nat.zero_le _, by have := hy.2; omega⟩))).later (by repeat (first | (with_reducible exact Below.refl _ _) | (with_reducible apply Below.drew) | (with_reducible refine below_drewN ?_ _) | (refine Below.setCell ?_ (by simp <;> omega) _) | (refine Below.alloc ?_ (by simp <;> omega) _)) : Below w19.heap.size w19 _) (Nat.le_refl _))).mono ?_
                  rintro e w20 ⟨a1_R_f4, c1_R_f4, rfl, ho, hb20⟩
                  go_wp2_with fail
                  exact freePost _ rfl ⟨hb20, Exists.intro a1_R_f4 (Exists.intro c1_R_f4 (And.intro upd_self ho))⟩
                · intro V L H w19 hb19 hd
                  clear hd
                  have HB19 := Lib.hid (HB18.out.trans (hb19.mono HB18.out.size))
                  clear sz18_paA bx18_paA_0 bx18_paA_1 sz18_paB bx18_paB_0 bx18_paB_1 sz18_w0 bx18_w0_0 bx18_w0_1 sz18_x0 bx18_x0_0 bx18_x0_1 sz18_x1 bx18_x1_0 bx18_x1_1 sz18_g0 bx18_g0_0 bx18_g0_1
                  go_wp2_with fail
                  refine freePost _ rfl ⟨Below.alloc (Below.refl _ _) (Nat.le_refl _) _, upd_self, ?_, ?_, ?_, ?_, ?_⟩
                  · simp
                  all_goals go_simp
                · intro V L H w19 hb19 hd
                  obtain ⟨⟨hL5, hM5, hH5, hv5, hlt5, hc5_0, hf5_0, hc5_1, hf5_1⟩, ⟨hL4, hM4, hH4, a1_R_f4, c1_R_f4, hv4, ho4_⟩, -⟩ := hd
                  rw [hv5, hv4]
                  have HV5 := Lib.hid hv5
                  have HV4 := Lib.hid hv4
                  clear hv5 hv4
                  have HB19 := Lib.hid (HB18.out.trans (hb19.mono HB18.out.size))
                  clear sz18_paA bx18_paA_0 bx18_paA_1 sz18_paB bx18_paB_0 bx18_paB_1 sz18_w0 bx18_w0_0 bx18_w0_1 sz18_x0 bx18_x0_0 bx18_x0_1 sz18_x1 bx18_x1_0 bx18_x1_1 sz18_g0 bx18_g0_0 bx18_g0_1
                  go_wp2_with fail
                  refine freePost undef rfl ⟨(Touches.put (L := L 5) (H := H 5) (Touches.put (L := L 5) (H := H 5) Touches.refl (p := ⟨L 5, 0, none⟩) ⟨Nat.le_refl _, hlt5⟩ _) (p := ⟨L 5, 1, none⟩) ⟨Nat.le_refl _, hlt5⟩ _), fun x0 x1 h => ?_⟩
                  cases (HV4.out.symm.trans ((upd_ne (by decide)).symm.trans h))
                  refine ⟨hlt5, ?_, ?_⟩
                  all_goals go_simp
                · intro V L H w19 hb19 hd hap hdead
                  obtain ⟨⟨hL0, hM0, hH0, hv0⟩, ⟨hL1, hM1, hH1, a1_vA_f1, c1_vA_f1, hv1, ho1_⟩, ⟨hL2, hM2, hH2, hv2⟩, ⟨hL3, hM3, hH3, a1_vB_f3, c1_vB_f3, hv3, ho3_⟩, ⟨hL4, hM4, hH4, a1_R_f4, c1_R_f4, hv4, ho4_⟩, ⟨hL6, hM6, hH6, hst6_⟩, -⟩ := hd
                  obtain ⟨hLe, hHe, wo, hva, -⟩ := hdead 6 5 (by decide) rfl
                  have hv4' := hv4
                  obtain ⟨hlt, hc0, hc1⟩ := hst6_ _ _ hv4'
                  rw [hv0, hv2, hv4', hva, hv1, hv3]
                  clear hv0 hv2 hv4' hva hv1 hv3 hv4
                  have hdis := hap 6 4 (by decide) (by decide) (by decide)
                  clear hap hdead
                  have HLe := Lib.hid hLe
                  have HHe := Lib.hid hHe
                  clear hLe hHe
                  go_wp2_with fail
                  go_meet
                  have hLe := HLe.out
                  have hHe := HHe.out
                  refine ⟨L 5, L 4, H 4, a1_R_f4, c1_R_f4, rfl, ?_, ?_, ho4_, ?_, ?_, ?_, ?_, ?_, hb19⟩
                  · rw [← hLe]; exact hc0
                  · rw [← hLe]; exact hc1
                  · omega
                  · omega
                  · omega
                  · omega
                  · omega
            case rest =>
              obtain ⟨bV21, lV21, hV21, a1_R_21, c1_R_21, rfl, bx21_h0_0, bx21_h0_1, ho21, sz21_h0, hB21, hL21, hH21, hD21, hb21⟩ := hcut
              obtain ⟨w21, rfl⟩ : ∃ w_ : World, w_ = wc := ⟨_, rfl⟩
              have hr21 : w18.heap.size ≤ w21.heap.size := hb21.size
              have hK21 : bV21 < w21.heap.size := sz21_h0
              have sz21_paA : w.heap.size < w21.heap.size := Nat.lt_of_lt_of_le sz18_paA hb21.size
              have bx21_paA_0 : w21.cell? ⟨w.heap.size, 0, none⟩ = some (.int .i64 vA.fN) := (hb21.cell (p := ⟨w.heap.size, 0, none⟩) sz18_paA).trans bx18_paA_0
              have bx21_paA_1 : w21.cell? ⟨w.heap.size, 1, none⟩ = some (.slice a1_vA vA.fRows.length c1_vA) := (hb21.cell (p := ⟨w.heap.size, 1, none⟩) sz18_paA).trans bx18_paA_1
              have sz21_paB : w.heap.size + 1 < w21.heap.size := Nat.lt_of_lt_of_le sz18_paB hb21.size
              have bx21_paB_0 : w21.cell? ⟨w.heap.size + 1, 0, none⟩ = some (.int .i64 vB.fN) := (hb21.cell (p := ⟨w.heap.size + 1, 0, none⟩) sz18_paB).trans bx18_paB_0
              have bx21_paB_1 : w21.cell? ⟨w.heap.size + 1, 1, none⟩ = some (.slice a1_vB vB.fRows.length c1_vB) := (hb21.cell (p := ⟨w.heap.size + 1, 1, none⟩) sz18_paB).trans bx18_paB_1
              have sz21_w0 : bV5 < w21.heap.size := Nat.lt_of_lt_of_le sz18_w0 hb21.size
              have bx21_w0_0 : w21.cell? ⟨bV5, 0, none⟩ = some (.int .i64 (unionRel vA vB).fN) := (hb21.cell (p := ⟨bV5, 0, none⟩) sz18_w0).trans bx18_w0_0
              have bx21_w0_1 : w21.cell? ⟨bV5, 1, none⟩ = some (.slice a1_R_5 (unionRel vA vB).fRows.length c1_R_5) := (hb21.cell (p := ⟨bV5, 1, none⟩) sz18_w0).trans bx18_w0_1
              have sz21_x0 : w6.heap.size < w21.heap.size := Nat.lt_of_lt_of_le sz18_x0 hb21.size
              have bx21_x0_0 : w21.cell? ⟨w6.heap.size, 0, none⟩ = some (.int .i64 vA.fN) := (hb21.cell (p := ⟨w6.heap.size, 0, none⟩) sz18_x0).trans bx18_x0_0
              have bx21_x0_1 : w21.cell? ⟨w6.heap.size, 1, none⟩ = some (.slice a1_vA_6 vA.fRows.length c1_vA_6) := (hb21.cell (p := ⟨w6.heap.size, 1, none⟩) sz18_x0).trans bx18_x0_1
              have sz21_x1 : w7.heap.size < w21.heap.size := Nat.lt_of_lt_of_le sz18_x1 hb21.size
              have bx21_x1_0 : w21.cell? ⟨w7.heap.size, 0, none⟩ = some (.int .i64 vB.fN) := (hb21.cell (p := ⟨w7.heap.size, 0, none⟩) sz18_x1).trans bx18_x1_0
              have bx21_x1_1 : w21.cell? ⟨w7.heap.size, 1, none⟩ = some (.slice a1_vB_7 vB.fRows.length c1_vB_7) := (hb21.cell (p := ⟨w7.heap.size, 1, none⟩) sz18_x1).trans bx18_x1_1
              have sz21_g0 : w8.heap.size < w21.heap.size := Nat.lt_of_lt_of_le sz18_g0 hb21.size
              have bx21_g0_0 : w21.cell? ⟨w8.heap.size, 0, none⟩ = some (.int .i64 (unionRel vA vB).fN) := (hb21.cell (p := ⟨w8.heap.size, 0, none⟩) sz18_g0).trans bx18_g0_0
              have bx21_g0_1 : w21.cell? ⟨w8.heap.size, 1, none⟩ = some (.slice a1_R_8 (unionRel vA vB).fRows.length c1_R_8) := (hb21.cell (p := ⟨w8.heap.size, 1, none⟩) sz18_g0).trans bx18_g0_1
              have HO21_1_R_5 := Lib.hid (HO18_1_R_5.out.kept (Kept.of_below_all hb21))
              have HO21_1_vA_6 := Lib.hid (HO18_1_vA_6.out.kept (Kept.of_below_all hb21))
              have HO21_1_vB_7 := Lib.hid (HO18_1_vB_7.out.kept (Kept.of_below_all hb21))
              have HO21_1_R_8 := Lib.hid (HO18_1_R_8.out.kept (Kept.of_below_all hb21))
              have HO21_1_vA_10 := Lib.hid (HO18_1_vA_10.out.kept (Kept.of_below_all hb21))
              have HO21_1_vB_12 := Lib.hid (HO18_1_vB_12.out.kept (Kept.of_below_all hb21))
              have HO21_1_R_21 := Lib.hid ho21
              have HB21 := Lib.hid (HB18.out.trans (hb21.mono HB18.out.size))
              clear hb21 ho21 bx18_paA_0 bx18_paA_1 sz18_paA bx18_paB_0 bx18_paB_1 sz18_paB bx18_w0_0 bx18_w0_1 sz18_w0 bx18_x0_0 bx18_x0_1 sz18_x0 bx18_x1_0 bx18_x1_1 sz18_x1 bx18_g0_0 bx18_g0_1 sz18_g0 HO18_1_R_5 HO18_1_vA_6 HO18_1_vB_7 HO18_1_R_8 HO18_1_vA_10 HO18_1_vB_12 HB18
              go_wp2_with fail
              refine (laws_eqRelation (c1 := c1_R_21) (c1q := c1_R_5) (unionRel vA vB) hq_R _ (Below.size (by repeat (first | (with_reducible exact Below.refl _ _) | (with_reducible apply Below.drew) | (with_reducible refine below_drewN ?_ _) | (refine Below.setCell ?_ (by simp <;> omega) _) | (refine Below.alloc ?_ (by simp <;> omega) _)) : Below w21.heap.size w21 _)) (Below.size (by repeat (first | (with_reducible exact Below.refl _ _) | (with_reducible apply Below.drew) | (with_reducible refine below_drewN ?_ _) | (refine Below.setCell ?_ (by simp <;> omega) _) | (refine Below.alloc ?_ (by simp <;> omega) _)) : Below w21.heap.size w21 _)) ((Sl.of (HO21_1_R_21.out.lies (lo := 0) (hi := w21.heap.size) (fun y hy => ⟨Nat.zero_le _, by have := hy.2; omega⟩))).later (by repeat (first | (with_reducible exact Below.refl _ _) | (with_reducible apply Below.drew) | (with_reducible refine below_drewN ?_ _) | (refine Below.setCell ?_ (by simp <;> omega) _) | (refine Below.alloc ?_ (by simp <;> omega) _)) : Below w21.heap.size w21 _) (Nat.le_refl _)) ((Sl.of (HO21_1_R_5.out.lies (lo := 0) (hi := w21.heap.size) (fun y hy => ⟨Nat.zero_le _, by have := hy.2; omega⟩))).later (by repeat (first | (with_reducible exact Below.refl _ _) | (with_reducible apply Below.drew) | (with_reducible refine below_drewN ?_ _) | (refine Below.setCell ?_ (by simp <;> omega) _) | (refine Below.alloc ?_ (by simp <;> omega) _)) : Below w21.heap.size w21 _) (Nat.le_refl _))).mono ?_
              rintro e w22 ⟨rfl, hb22⟩
              have hst22 : Below w21.heap.size w21 w22 := Below.trans (by repeat (first | (with_reducible exact Below.refl _ _) | (with_reducible apply Below.drew) | (with_reducible refine below_drewN ?_ _) | (refine Below.setCell ?_ (by simp <;> omega) _) | (refine Below.alloc ?_ (by simp <;> omega) _)) : Below w21.heap.size w21 _) (hb22.mono (Below.size (by repeat (first | (with_reducible exact Below.refl _ _) | (with_reducible apply Below.drew) | (with_reducible refine below_drewN ?_ _) | (refine Below.setCell ?_ (by simp <;> omega) _) | (refine Below.alloc ?_ (by simp <;> omega) _)) : Below w21.heap.size w21 _)))
              have hr22 : w21.heap.size ≤ w22.heap.size := Nat.le_trans (by first | exact Nat.le_refl _ | (simp; done) | (simp; omega) | (simp [World.setCell]; done) | (simp [World.setCell]; omega)) hb22.size
              have sz22_paA : w.heap.size < w22.heap.size := Nat.lt_of_lt_of_le sz21_paA hst22.size
              have bx22_paA_0 : w22.cell? ⟨w.heap.size, 0, none⟩ = some (.int .i64 vA.fN) := (hst22.cell (p := ⟨w.heap.size, 0, none⟩) sz21_paA).trans bx21_paA_0
              have bx22_paA_1 : w22.cell? ⟨w.heap.size, 1, none⟩ = some (.slice a1_vA vA.fRows.length c1_vA) := (hst22.cell (p := ⟨w.heap.size, 1, none⟩) sz21_paA).trans bx21_paA_1
              have sz22_paB : w.heap.size + 1 < w22.heap.size := Nat.lt_of_lt_of_le sz21_paB hst22.size
              have bx22_paB_0 : w22.cell? ⟨w.heap.size + 1, 0, none⟩ = some (.int .i64 vB.fN) := (hst22.cell (p := ⟨w.heap.size + 1, 0, none⟩) sz21_paB).trans bx21_paB_0
              have bx22_paB_1 : w22.cell? ⟨w.heap.size + 1, 1, none⟩ = some (.slice a1_vB vB.fRows.length c1_vB) := (hst22.cell (p := ⟨w.heap.size + 1, 1, none⟩) sz21_paB).trans bx21_paB_1
              have sz22_w0 : bV5 < w22.heap.size := Nat.lt_of_lt_of_le sz21_w0 hst22.size
              have bx22_w0_0 : w22.cell? ⟨bV5, 0, none⟩ = some (.int .i64 (unionRel vA vB).fN) := (hst22.cell (p := ⟨bV5, 0, none⟩) sz21_w0).trans bx21_w0_0
              have bx22_w0_1 : w22.cell? ⟨bV5, 1, none⟩ = some (.slice a1_R_5 (unionRel vA vB).fRows.length c1_R_5) := (hst22.cell (p := ⟨bV5, 1, none⟩) sz21_w0).trans bx21_w0_1
              have sz22_x0 : w6.heap.size < w22.heap.size := Nat.lt_of_lt_of_le sz21_x0 hst22.size
              have bx22_x0_0 : w22.cell? ⟨w6.heap.size, 0, none⟩ = some (.int .i64 vA.fN) := (hst22.cell (p := ⟨w6.heap.size, 0, none⟩) sz21_x0).trans bx21_x0_0
              have bx22_x0_1 : w22.cell? ⟨w6.heap.size, 1, none⟩ = some (.slice a1_vA_6 vA.fRows.length c1_vA_6) := (hst22.cell (p := ⟨w6.heap.size, 1, none⟩) sz21_x0).trans bx21_x0_1
              have sz22_x1 : w7.heap.size < w22.heap.size := Nat.lt_of_lt_of_le sz21_x1 hst22.size
              have bx22_x1_0 : w22.cell? ⟨w7.heap.size, 0, none⟩ = some (.int .i64 vB.fN) := (hst22.cell (p := ⟨w7.heap.size, 0, none⟩) sz21_x1).trans bx21_x1_0
              have bx22_x1_1 : w22.cell? ⟨w7.heap.size, 1, none⟩ = some (.slice a1_vB_7 vB.fRows.length c1_vB_7) := (hst22.cell (p := ⟨w7.heap.size, 1, none⟩) sz21_x1).trans bx21_x1_1
              have sz22_g0 : w8.heap.size < w22.heap.size := Nat.lt_of_lt_of_le sz21_g0 hst22.size
              have bx22_g0_0 : w22.cell? ⟨w8.heap.size, 0, none⟩ = some (.int .i64 (unionRel vA vB).fN) := (hst22.cell (p := ⟨w8.heap.size, 0, none⟩) sz21_g0).trans bx21_g0_0
              have bx22_g0_1 : w22.cell? ⟨w8.heap.size, 1, none⟩ = some (.slice a1_R_8 (unionRel vA vB).fRows.length c1_R_8) := (hst22.cell (p := ⟨w8.heap.size, 1, none⟩) sz21_g0).trans bx21_g0_1
              have sz22_h0 : bV21 < w22.heap.size := Nat.lt_of_lt_of_le sz21_h0 hst22.size
              have bx22_h0_0 : w22.cell? ⟨bV21, 0, none⟩ = some (.int .i64 (unionRel vA vB).fN) := (hst22.cell (p := ⟨bV21, 0, none⟩) sz21_h0).trans bx21_h0_0
              have bx22_h0_1 : w22.cell? ⟨bV21, 1, none⟩ = some (.slice a1_R_21 (unionRel vA vB).fRows.length c1_R_21) := (hst22.cell (p := ⟨bV21, 1, none⟩) sz21_h0).trans bx21_h0_1
              have HO22_1_R_5 := Lib.hid (HO21_1_R_5.out.kept (Kept.of_below_all hst22))
              have HO22_1_vA_6 := Lib.hid (HO21_1_vA_6.out.kept (Kept.of_below_all hst22))
              have HO22_1_vB_7 := Lib.hid (HO21_1_vB_7.out.kept (Kept.of_below_all hst22))
              have HO22_1_R_8 := Lib.hid (HO21_1_R_8.out.kept (Kept.of_below_all hst22))
              have HO22_1_vA_10 := Lib.hid (HO21_1_vA_10.out.kept (Kept.of_below_all hst22))
              have HO22_1_vB_12 := Lib.hid (HO21_1_vB_12.out.kept (Kept.of_below_all hst22))
              have HO22_1_R_21 := Lib.hid (HO21_1_R_21.out.kept (Kept.of_below_all hst22))
              have HB22 := Lib.hid (HB21.out.trans (hst22.mono HB21.out.size))
              clear bx21_paA_0 bx21_paA_1 sz21_paA bx21_paB_0 bx21_paB_1 sz21_paB bx21_w0_0 bx21_w0_1 sz21_w0 bx21_x0_0 bx21_x0_1 sz21_x0 bx21_x1_0 bx21_x1_1 sz21_x1 bx21_g0_0 bx21_g0_1 sz21_g0 bx21_h0_0 bx21_h0_1 sz21_h0 HO21_1_R_5 HO21_1_vA_6 HO21_1_vB_7 HO21_1_R_8 HO21_1_vA_10 HO21_1_vB_12 HO21_1_R_21 hb22 hst22 HB21
              go_wp2_with fail
              refine (laws_heldRelation (c1 := c1_R_8) (unionRel vA vB) (by have h1 := rel_len hq_vA; have h3 := rel_len hq_vB; have h2 := unionRel_len vA vB; omega) 1 (by have h1 := rel_len hq_vA; have h3 := rel_len hq_vB; have h2 := unionRel_len vA vB; omega) _ (fun y hy => Nat.lt_of_lt_of_le (show y < w22.heap.size by have := hy.2; omega) (Below.size (by repeat (first | (with_reducible exact Below.refl _ _) | (with_reducible apply Below.drew) | (with_reducible refine below_drewN ?_ _) | (refine Below.setCell ?_ (by simp <;> omega) _) | (refine Below.alloc ?_ (by simp <;> omega) _)) : Below w22.heap.size w22 _))) (HO22_1_R_8.out.kept (Kept.of_below (by repeat (first | (with_reducible exact Below.refl _ _) | (with_reducible apply Below.drew) | (with_reducible refine below_drewN ?_ _) | (refine Below.setCell ?_ (by simp <;> omega) _) | (refine Below.alloc ?_ (by simp <;> omega) _)) : Below w22.heap.size w22 _) (fun y hy => by have := hy.2; omega)))).mono ?_
              rintro e w23 ⟨rfl, hb23⟩
              have hst23 : Below w22.heap.size w22 w23 := Below.trans (by repeat (first | (with_reducible exact Below.refl _ _) | (with_reducible apply Below.drew) | (with_reducible refine below_drewN ?_ _) | (refine Below.setCell ?_ (by simp <;> omega) _) | (refine Below.alloc ?_ (by simp <;> omega) _)) : Below w22.heap.size w22 _) (hb23.mono (Below.size (by repeat (first | (with_reducible exact Below.refl _ _) | (with_reducible apply Below.drew) | (with_reducible refine below_drewN ?_ _) | (refine Below.setCell ?_ (by simp <;> omega) _) | (refine Below.alloc ?_ (by simp <;> omega) _)) : Below w22.heap.size w22 _)))
              have hr23 : w22.heap.size ≤ w23.heap.size := Nat.le_trans (by first | exact Nat.le_refl _ | (simp; done) | (simp; omega) | (simp [World.setCell]; done) | (simp [World.setCell]; omega)) hb23.size
              have sz23_paA : w.heap.size < w23.heap.size := Nat.lt_of_lt_of_le sz22_paA hst23.size
              have bx23_paA_0 : w23.cell? ⟨w.heap.size, 0, none⟩ = some (.int .i64 vA.fN) := (hst23.cell (p := ⟨w.heap.size, 0, none⟩) sz22_paA).trans bx22_paA_0
              have bx23_paA_1 : w23.cell? ⟨w.heap.size, 1, none⟩ = some (.slice a1_vA vA.fRows.length c1_vA) := (hst23.cell (p := ⟨w.heap.size, 1, none⟩) sz22_paA).trans bx22_paA_1
              have sz23_paB : w.heap.size + 1 < w23.heap.size := Nat.lt_of_lt_of_le sz22_paB hst23.size
              have bx23_paB_0 : w23.cell? ⟨w.heap.size + 1, 0, none⟩ = some (.int .i64 vB.fN) := (hst23.cell (p := ⟨w.heap.size + 1, 0, none⟩) sz22_paB).trans bx22_paB_0
              have bx23_paB_1 : w23.cell? ⟨w.heap.size + 1, 1, none⟩ = some (.slice a1_vB vB.fRows.length c1_vB) := (hst23.cell (p := ⟨w.heap.size + 1, 1, none⟩) sz22_paB).trans bx22_paB_1
              have sz23_w0 : bV5 < w23.heap.size := Nat.lt_of_lt_of_le sz22_w0 hst23.size
              have bx23_w0_0 : w23.cell? ⟨bV5, 0, none⟩ = some (.int .i64 (unionRel vA vB).fN) := (hst23.cell (p := ⟨bV5, 0, none⟩) sz22_w0).trans bx22_w0_0
              have bx23_w0_1 : w23.cell? ⟨bV5, 1, none⟩ = some (.slice a1_R_5 (unionRel vA vB).fRows.length c1_R_5) := (hst23.cell (p := ⟨bV5, 1, none⟩) sz22_w0).trans bx22_w0_1
              have sz23_x0 : w6.heap.size < w23.heap.size := Nat.lt_of_lt_of_le sz22_x0 hst23.size
              have bx23_x0_0 : w23.cell? ⟨w6.heap.size, 0, none⟩ = some (.int .i64 vA.fN) := (hst23.cell (p := ⟨w6.heap.size, 0, none⟩) sz22_x0).trans bx22_x0_0
              have bx23_x0_1 : w23.cell? ⟨w6.heap.size, 1, none⟩ = some (.slice a1_vA_6 vA.fRows.length c1_vA_6) := (hst23.cell (p := ⟨w6.heap.size, 1, none⟩) sz22_x0).trans bx22_x0_1
              have sz23_x1 : w7.heap.size < w23.heap.size := Nat.lt_of_lt_of_le sz22_x1 hst23.size
              have bx23_x1_0 : w23.cell? ⟨w7.heap.size, 0, none⟩ = some (.int .i64 vB.fN) := (hst23.cell (p := ⟨w7.heap.size, 0, none⟩) sz22_x1).trans bx22_x1_0
              have bx23_x1_1 : w23.cell? ⟨w7.heap.size, 1, none⟩ = some (.slice a1_vB_7 vB.fRows.length c1_vB_7) := (hst23.cell (p := ⟨w7.heap.size, 1, none⟩) sz22_x1).trans bx22_x1_1
              have sz23_g0 : w8.heap.size < w23.heap.size := Nat.lt_of_lt_of_le sz22_g0 hst23.size
              have bx23_g0_0 : w23.cell? ⟨w8.heap.size, 0, none⟩ = some (.int .i64 (unionRel vA vB).fN) := (hst23.cell (p := ⟨w8.heap.size, 0, none⟩) sz22_g0).trans bx22_g0_0
              have bx23_g0_1 : w23.cell? ⟨w8.heap.size, 1, none⟩ = some (.slice a1_R_8 (unionRel vA vB).fRows.length c1_R_8) := (hst23.cell (p := ⟨w8.heap.size, 1, none⟩) sz22_g0).trans bx22_g0_1
              have sz23_h0 : bV21 < w23.heap.size := Nat.lt_of_lt_of_le sz22_h0 hst23.size
              have bx23_h0_0 : w23.cell? ⟨bV21, 0, none⟩ = some (.int .i64 (unionRel vA vB).fN) := (hst23.cell (p := ⟨bV21, 0, none⟩) sz22_h0).trans bx22_h0_0
              have bx23_h0_1 : w23.cell? ⟨bV21, 1, none⟩ = some (.slice a1_R_21 (unionRel vA vB).fRows.length c1_R_21) := (hst23.cell (p := ⟨bV21, 1, none⟩) sz22_h0).trans bx22_h0_1
              have HO23_1_R_5 := Lib.hid (HO22_1_R_5.out.kept (Kept.of_below_all hst23))
              have HO23_1_vA_6 := Lib.hid (HO22_1_vA_6.out.kept (Kept.of_below_all hst23))
              have HO23_1_vB_7 := Lib.hid (HO22_1_vB_7.out.kept (Kept.of_below_all hst23))
              have HO23_1_R_8 := Lib.hid (HO22_1_R_8.out.kept (Kept.of_below_all hst23))
              have HO23_1_vA_10 := Lib.hid (HO22_1_vA_10.out.kept (Kept.of_below_all hst23))
              have HO23_1_vB_12 := Lib.hid (HO22_1_vB_12.out.kept (Kept.of_below_all hst23))
              have HO23_1_R_21 := Lib.hid (HO22_1_R_21.out.kept (Kept.of_below_all hst23))
              have HB23 := Lib.hid (HB22.out.trans (hst23.mono HB22.out.size))
              clear bx22_paA_0 bx22_paA_1 sz22_paA bx22_paB_0 bx22_paB_1 sz22_paB bx22_w0_0 bx22_w0_1 sz22_w0 bx22_x0_0 bx22_x0_1 sz22_x0 bx22_x1_0 bx22_x1_1 sz22_x1 bx22_g0_0 bx22_g0_1 sz22_g0 bx22_h0_0 bx22_h0_1 sz22_h0 HO22_1_R_5 HO22_1_vA_6 HO22_1_vB_7 HO22_1_R_8 HO22_1_vA_10 HO22_1_vB_12 HO22_1_R_21 hb23 hst23 HB22
              go_wp2
              go_ret
              exact ⟨rfl, HB23.out⟩
end Go.Proofs.Ytnjkgdicaagbeaa.fnExactUnionRelation
