/-
  The law FnExactOccurrenceIndex: for every list of occurrences and every occurrence the program's OccurrenceIndex answers as the model's. No condition.
-/
import Derived.Test.YtjjbnbhcfhbfdaaOccIndex
import Derived.SizedLaws
namespace Go.Proofs.Ytjjbnbhcfhbfdaa.fnExactOccurrenceIndex
open Go.ChangeShapes Go.WideShapes Go.ChangeAt Go.RowKit Go.WideMaps Go.WideElems
open Go.ChangeMaps (open_string)
open Go.Lib Go.Deep

set_option maxHeartbeats 1600000 in
set_option maxRecDepth 100000 in
theorem walk (vList : List (DOccurrence)) (a_vList : Option Addr) (c_vList : Nat) (ok_vList : (okL DOccurrence.ok) vList) (vO : DOccurrence) (ok_vO : DOccurrence.ok vO) (w : World) (hs_vList : Sl 0 w.heap.size w 2 vList.length (fun k => DOccurrence.ct (vList.getD k default)) a_vList) :
    Calls Try.prog 4 #[.slice a_vList vList.length c_vList, .agg #[.int .i64 vO.fPos, .string vO.fName]] w fun e w' => e = .returned (.bool true) ∧ Below w.heap.size w w' := by
  have HS_vList := Lib.hid hs_vList
  clear hs_vList
  have OK_vList := Lib.hid ok_vList
  clear ok_vList
  have OK_vO := Lib.hid ok_vO
  clear ok_vO
  by_cases h0 : 1048576 < (((lsz DOccurrence.sz) vList : Nat) : Int)
  · skip
    have hz := fun (hi : Nat) (w' : World) (hhi : hi ≤ w'.heap.size) (hs_vList : Sl 0 hi w' 2 vList.length (fun k => DOccurrence.ct (vList.getD k default)) a_vList) => laws_szOccurrenceS (cap := c_vList) vList 1048576 (by omega) (by omega) OK_vList.out w' hhi hs_vList
    rw [szR_gt (by omega)] at hz
    have HZ_vList := Lib.hid hz
    clear hz
    go_enter Try.func4, Try.ntmps4
    go_wp2_with fail
    refine (HZ_vList.out w.heap.size _ (Below.size (by repeat (first | (with_reducible exact Below.refl _ _) | (with_reducible apply Below.drew) | (with_reducible refine below_drewN ?_ _) | (refine Below.setCell ?_ (by simp <;> omega) _) | (refine Below.alloc ?_ (by simp <;> omega) _)) : Below w.heap.size w _)) (HS_vList.out.later (by repeat (first | (with_reducible exact Below.refl _ _) | (with_reducible apply Below.drew) | (with_reducible refine below_drewN ?_ _) | (refine Below.setCell ?_ (by simp <;> omega) _) | (refine Below.alloc ?_ (by simp <;> omega) _)) : Below w.heap.size w _) (Nat.le_refl _))).mono ?_
    rintro e w1 ⟨rfl, hb1⟩
    have hst1 : Below w.heap.size w w1 := Below.trans (by repeat (first | (with_reducible exact Below.refl _ _) | (with_reducible apply Below.drew) | (with_reducible refine below_drewN ?_ _) | (refine Below.setCell ?_ (by simp <;> omega) _) | (refine Below.alloc ?_ (by simp <;> omega) _)) : Below w.heap.size w _) (hb1.mono (Below.size (by repeat (first | (with_reducible exact Below.refl _ _) | (with_reducible apply Below.drew) | (with_reducible refine below_drewN ?_ _) | (refine Below.setCell ?_ (by simp <;> omega) _) | (refine Below.alloc ?_ (by simp <;> omega) _)) : Below w.heap.size w _)))
    have sz1_paO : w.heap.size < w1.heap.size := Nat.lt_of_lt_of_le (by first | omega | (simp; done) | (simp; omega) | (simp [World.setCell]; omega)) hb1.size
    have bx1_paO_0 : w1.cell? ⟨w.heap.size, 0, none⟩ = some (.int .i64 vO.fPos) := (hb1.cell (p := ⟨w.heap.size, 0, none⟩) (by first | omega | (simp; done) | (simp; omega) | (simp [World.setCell]; omega))).trans (by go_simp)
    have bx1_paO_1 : w1.cell? ⟨w.heap.size, 1, none⟩ = some (.string vO.fName) := (hb1.cell (p := ⟨w.heap.size, 1, none⟩) (by first | omega | (simp; done) | (simp; omega) | (simp [World.setCell]; omega))).trans (by go_simp)
    have HS1_vList := Lib.hid (HS_vList.out.up hst1 (Nat.le_refl _))
    have HB1 := Lib.hid ((Below.refl w.heap.size w).trans (hst1.mono (Below.refl w.heap.size w).size))
    clear hb1 hst1
    go_wp2
    go_ret
    exact ⟨rfl, HB1.out⟩
  · skip
    by_cases h1 : (1048576 - ((lsz DOccurrence.sz) vList : Nat)) < ((DOccurrence.sz vO : Nat) : Int)
    · skip
      have hz := fun (hi : Nat) (w' : World) (hhi : hi ≤ w'.heap.size) (hs_vList : Sl 0 hi w' 2 vList.length (fun k => DOccurrence.ct (vList.getD k default)) a_vList) => laws_szOccurrenceS (cap := c_vList) vList 1048576 (by omega) (by omega) OK_vList.out w' hhi hs_vList
      rw [szR_le (by omega)] at hz
      have HZ_vList := Lib.hid hz
      clear hz
      have hz := fun (hi : Nat) (w' : World) => laws_szOccurrence vO (1048576 - ((lsz DOccurrence.sz) vList : Nat)) (by omega) (by omega) OK_vO.out w'
      rw [szR_gt (by omega)] at hz
      have HZ_vO := Lib.hid hz
      clear hz
      go_enter Try.func4, Try.ntmps4
      go_wp2_with fail
      refine (HZ_vList.out w.heap.size _ (Below.size (by repeat (first | (with_reducible exact Below.refl _ _) | (with_reducible apply Below.drew) | (with_reducible refine below_drewN ?_ _) | (refine Below.setCell ?_ (by simp <;> omega) _) | (refine Below.alloc ?_ (by simp <;> omega) _)) : Below w.heap.size w _)) (HS_vList.out.later (by repeat (first | (with_reducible exact Below.refl _ _) | (with_reducible apply Below.drew) | (with_reducible refine below_drewN ?_ _) | (refine Below.setCell ?_ (by simp <;> omega) _) | (refine Below.alloc ?_ (by simp <;> omega) _)) : Below w.heap.size w _) (Nat.le_refl _))).mono ?_
      rintro e w1 ⟨rfl, hb1⟩
      have hst1 : Below w.heap.size w w1 := Below.trans (by repeat (first | (with_reducible exact Below.refl _ _) | (with_reducible apply Below.drew) | (with_reducible refine below_drewN ?_ _) | (refine Below.setCell ?_ (by simp <;> omega) _) | (refine Below.alloc ?_ (by simp <;> omega) _)) : Below w.heap.size w _) (hb1.mono (Below.size (by repeat (first | (with_reducible exact Below.refl _ _) | (with_reducible apply Below.drew) | (with_reducible refine below_drewN ?_ _) | (refine Below.setCell ?_ (by simp <;> omega) _) | (refine Below.alloc ?_ (by simp <;> omega) _)) : Below w.heap.size w _)))
      have sz1_paO : w.heap.size < w1.heap.size := Nat.lt_of_lt_of_le (by first | omega | (simp; done) | (simp; omega) | (simp [World.setCell]; omega)) hb1.size
      have bx1_paO_0 : w1.cell? ⟨w.heap.size, 0, none⟩ = some (.int .i64 vO.fPos) := (hb1.cell (p := ⟨w.heap.size, 0, none⟩) (by first | omega | (simp; done) | (simp; omega) | (simp [World.setCell]; omega))).trans (by go_simp)
      have bx1_paO_1 : w1.cell? ⟨w.heap.size, 1, none⟩ = some (.string vO.fName) := (hb1.cell (p := ⟨w.heap.size, 1, none⟩) (by first | omega | (simp; done) | (simp; omega) | (simp [World.setCell]; omega))).trans (by go_simp)
      have HS1_vList := Lib.hid (HS_vList.out.up hst1 (Nat.le_refl _))
      have HB1 := Lib.hid ((Below.refl w.heap.size w).trans (hst1.mono (Below.refl w.heap.size w).size))
      clear hb1 hst1
      go_wp2_with fail
      refine (HZ_vO.out 0 _).mono ?_
      rintro e w2 ⟨rfl, hb2⟩
      have hst2 : Below w1.heap.size w1 w2 := Below.trans (by repeat (first | (with_reducible exact Below.refl _ _) | (with_reducible apply Below.drew) | (with_reducible refine below_drewN ?_ _) | (refine Below.setCell ?_ (by simp <;> omega) _) | (refine Below.alloc ?_ (by simp <;> omega) _)) : Below w1.heap.size w1 _) (hb2.mono (Below.size (by repeat (first | (with_reducible exact Below.refl _ _) | (with_reducible apply Below.drew) | (with_reducible refine below_drewN ?_ _) | (refine Below.setCell ?_ (by simp <;> omega) _) | (refine Below.alloc ?_ (by simp <;> omega) _)) : Below w1.heap.size w1 _)))
      have sz2_paO : w.heap.size < w2.heap.size := Nat.lt_of_lt_of_le sz1_paO hst2.size
      have bx2_paO_0 : w2.cell? ⟨w.heap.size, 0, none⟩ = some (.int .i64 vO.fPos) := (hst2.cell (p := ⟨w.heap.size, 0, none⟩) sz1_paO).trans bx1_paO_0
      have bx2_paO_1 : w2.cell? ⟨w.heap.size, 1, none⟩ = some (.string vO.fName) := (hst2.cell (p := ⟨w.heap.size, 1, none⟩) sz1_paO).trans bx1_paO_1
      have HS2_vList := Lib.hid (HS1_vList.out.up hst2 (Nat.le_refl _))
      have HB2 := Lib.hid (HB1.out.trans (hst2.mono HB1.out.size))
      clear bx1_paO_0 bx1_paO_1 sz1_paO HS1_vList hb2 hst2 HB1
      go_wp2
      go_ret
      exact ⟨rfl, HB2.out⟩
    · skip
      have hz := fun (hi : Nat) (w' : World) (hhi : hi ≤ w'.heap.size) (hs_vList : Sl 0 hi w' 2 vList.length (fun k => DOccurrence.ct (vList.getD k default)) a_vList) => laws_szOccurrenceS (cap := c_vList) vList 1048576 (by omega) (by omega) OK_vList.out w' hhi hs_vList
      rw [szR_le (by omega)] at hz
      have HZ_vList := Lib.hid hz
      clear hz
      have hz := fun (hi : Nat) (w' : World) => laws_szOccurrence vO (1048576 - ((lsz DOccurrence.sz) vList : Nat)) (by omega) (by omega) OK_vO.out w'
      rw [szR_le (by omega)] at hz
      have HZ_vO := Lib.hid hz
      clear hz
      have hq_vList : (lsz DOccurrence.sz) vList ≤ 1048576 := by omega
      have hq_vO : DOccurrence.sz vO ≤ 1048576 := by omega
      go_enter Try.func4, Try.ntmps4
      go_wp2_with fail
      refine (HZ_vList.out w.heap.size _ (Below.size (by repeat (first | (with_reducible exact Below.refl _ _) | (with_reducible apply Below.drew) | (with_reducible refine below_drewN ?_ _) | (refine Below.setCell ?_ (by simp <;> omega) _) | (refine Below.alloc ?_ (by simp <;> omega) _)) : Below w.heap.size w _)) (HS_vList.out.later (by repeat (first | (with_reducible exact Below.refl _ _) | (with_reducible apply Below.drew) | (with_reducible refine below_drewN ?_ _) | (refine Below.setCell ?_ (by simp <;> omega) _) | (refine Below.alloc ?_ (by simp <;> omega) _)) : Below w.heap.size w _) (Nat.le_refl _))).mono ?_
      rintro e w1 ⟨rfl, hb1⟩
      have hst1 : Below w.heap.size w w1 := Below.trans (by repeat (first | (with_reducible exact Below.refl _ _) | (with_reducible apply Below.drew) | (with_reducible refine below_drewN ?_ _) | (refine Below.setCell ?_ (by simp <;> omega) _) | (refine Below.alloc ?_ (by simp <;> omega) _)) : Below w.heap.size w _) (hb1.mono (Below.size (by repeat (first | (with_reducible exact Below.refl _ _) | (with_reducible apply Below.drew) | (with_reducible refine below_drewN ?_ _) | (refine Below.setCell ?_ (by simp <;> omega) _) | (refine Below.alloc ?_ (by simp <;> omega) _)) : Below w.heap.size w _)))
      have sz1_paO : w.heap.size < w1.heap.size := Nat.lt_of_lt_of_le (by first | omega | (simp; done) | (simp; omega) | (simp [World.setCell]; omega)) hb1.size
      have bx1_paO_0 : w1.cell? ⟨w.heap.size, 0, none⟩ = some (.int .i64 vO.fPos) := (hb1.cell (p := ⟨w.heap.size, 0, none⟩) (by first | omega | (simp; done) | (simp; omega) | (simp [World.setCell]; omega))).trans (by go_simp)
      have bx1_paO_1 : w1.cell? ⟨w.heap.size, 1, none⟩ = some (.string vO.fName) := (hb1.cell (p := ⟨w.heap.size, 1, none⟩) (by first | omega | (simp; done) | (simp; omega) | (simp [World.setCell]; omega))).trans (by go_simp)
      have HS1_vList := Lib.hid (HS_vList.out.up hst1 (Nat.le_refl _))
      have HB1 := Lib.hid ((Below.refl w.heap.size w).trans (hst1.mono (Below.refl w.heap.size w).size))
      clear hb1 hst1
      go_wp2_with fail
      refine (HZ_vO.out 0 _).mono ?_
      rintro e w2 ⟨rfl, hb2⟩
      have hst2 : Below w1.heap.size w1 w2 := Below.trans (by repeat (first | (with_reducible exact Below.refl _ _) | (with_reducible apply Below.drew) | (with_reducible refine below_drewN ?_ _) | (refine Below.setCell ?_ (by simp <;> omega) _) | (refine Below.alloc ?_ (by simp <;> omega) _)) : Below w1.heap.size w1 _) (hb2.mono (Below.size (by repeat (first | (with_reducible exact Below.refl _ _) | (with_reducible apply Below.drew) | (with_reducible refine below_drewN ?_ _) | (refine Below.setCell ?_ (by simp <;> omega) _) | (refine Below.alloc ?_ (by simp <;> omega) _)) : Below w1.heap.size w1 _)))
      have sz2_paO : w.heap.size < w2.heap.size := Nat.lt_of_lt_of_le sz1_paO hst2.size
      have bx2_paO_0 : w2.cell? ⟨w.heap.size, 0, none⟩ = some (.int .i64 vO.fPos) := (hst2.cell (p := ⟨w.heap.size, 0, none⟩) sz1_paO).trans bx1_paO_0
      have bx2_paO_1 : w2.cell? ⟨w.heap.size, 1, none⟩ = some (.string vO.fName) := (hst2.cell (p := ⟨w.heap.size, 1, none⟩) sz1_paO).trans bx1_paO_1
      have HS2_vList := Lib.hid (HS1_vList.out.up hst2 (Nat.le_refl _))
      have HB2 := Lib.hid (HB1.out.trans (hst2.mono HB1.out.size))
      clear bx1_paO_0 bx1_paO_1 sz1_paO HS1_vList hb2 hst2 HB1
      go_wp2_with fail
      go_region_with ((first | (go_at_call 25; refine (laws_toOccurrenceS (cap := c_vList) vList hq_vList _ (Below.size (by repeat (first | (with_reducible exact Below.refl _ _) | (with_reducible apply Below.drew) | (with_reducible refine below_drewN ?_ _) | (refine Below.setCell ?_ (by simp <;> omega) _) | (refine Below.alloc ?_ (by simp <;> omega) _)) : Below w2.heap.size w2 _)) (HS2_vList.out.later (by repeat (first | (with_reducible exact Below.refl _ _) | (with_reducible apply Below.drew) | (with_reducible refine below_drewN ?_ _) | (refine Below.setCell ?_ (by simp <;> omega) _) | (refine Below.alloc ?_ (by simp <;> omega) _)) : Below w2.heap.size w2 _) (Nat.le_refl _))).mono ?_; rintro e w3 ⟨a_vList_3, c_vList_3, rfl, ho3, hb3⟩; have hst3 : Below w2.heap.size w2 w3 := Below.trans (by repeat (first | (with_reducible exact Below.refl _ _) | (with_reducible apply Below.drew) | (with_reducible refine below_drewN ?_ _) | (refine Below.setCell ?_ (by simp <;> omega) _) | (refine Below.alloc ?_ (by simp <;> omega) _)) : Below w2.heap.size w2 _) (hb3.mono (Below.size (by repeat (first | (with_reducible exact Below.refl _ _) | (with_reducible apply Below.drew) | (with_reducible refine below_drewN ?_ _) | (refine Below.setCell ?_ (by simp <;> omega) _) | (refine Below.alloc ?_ (by simp <;> omega) _)) : Below w2.heap.size w2 _))); have sz3_paO : w.heap.size < w3.heap.size := Nat.lt_of_lt_of_le sz2_paO hst3.size; have bx3_paO_0 : w3.cell? ⟨w.heap.size, 0, none⟩ = some (.int .i64 vO.fPos) := (hst3.cell (p := ⟨w.heap.size, 0, none⟩) sz2_paO).trans bx2_paO_0; have bx3_paO_1 : w3.cell? ⟨w.heap.size, 1, none⟩ = some (.string vO.fName) := (hst3.cell (p := ⟨w.heap.size, 1, none⟩) sz2_paO).trans bx2_paO_1; have HS3_vList := Lib.hid (HS2_vList.out.up hst3 (Nat.le_refl _)); have HS3_vList_3 := Lib.hid (show Sl 0 w3.heap.size w3 2 vList.length (fun k => DOccurrence.ct (vList.getD k default)) a_vList_3 from Sl.of (ho3.lies (lo := 0) (hi := w3.heap.size) (fun y hy => ⟨Nat.zero_le _, hy.2⟩))); have HB3 := Lib.hid (HB2.out.trans (hst3.mono HB2.out.size)); clear bx2_paO_0 bx2_paO_1 sz2_paO HS2_vList ho3 hb3 hst3 HB2) | (go_at_call 26; refine (laws_toOccurrence vO _).mono ?_; rintro e w4 ⟨rfl, hb4⟩; have hst4 : Below w3.heap.size w3 w4 := Below.trans (by repeat (first | (with_reducible exact Below.refl _ _) | (with_reducible apply Below.drew) | (with_reducible refine below_drewN ?_ _) | (refine Below.setCell ?_ (by simp <;> omega) _) | (refine Below.alloc ?_ (by simp <;> omega) _)) : Below w3.heap.size w3 _) (hb4.mono (Below.size (by repeat (first | (with_reducible exact Below.refl _ _) | (with_reducible apply Below.drew) | (with_reducible refine below_drewN ?_ _) | (refine Below.setCell ?_ (by simp <;> omega) _) | (refine Below.alloc ?_ (by simp <;> omega) _)) : Below w3.heap.size w3 _))); have sz4_paO : w.heap.size < w4.heap.size := Nat.lt_of_lt_of_le sz3_paO hst4.size; have bx4_paO_0 : w4.cell? ⟨w.heap.size, 0, none⟩ = some (.int .i64 vO.fPos) := (hst4.cell (p := ⟨w.heap.size, 0, none⟩) sz3_paO).trans bx3_paO_0; have bx4_paO_1 : w4.cell? ⟨w.heap.size, 1, none⟩ = some (.string vO.fName) := (hst4.cell (p := ⟨w.heap.size, 1, none⟩) sz3_paO).trans bx3_paO_1; have HS4_vList := Lib.hid (HS3_vList.out.up hst4 (Nat.le_refl _)); have HS4_vList_3 := Lib.hid (HS3_vList_3.out.up hst4 (Nat.le_refl _)); have HB4 := Lib.hid (HB3.out.trans (hst4.mono HB3.out.size)); clear bx3_paO_0 bx3_paO_1 sz3_paO HS3_vList HS3_vList_3 hb4 hst4 HB3) | (go_at_call 24; refine (spec_OccurrenceIndex (c0_0 := c_vList_3) vList OK_vList.out hq_vList vO OK_vO.out hq_vO _ (Below.size (by repeat (first | (with_reducible exact Below.refl _ _) | (with_reducible apply Below.drew) | (with_reducible refine below_drewN ?_ _) | (refine Below.setCell ?_ (by simp <;> omega) _) | (refine Below.alloc ?_ (by simp <;> omega) _)) : Below w4.heap.size w4 _)) (HS4_vList_3.out.later (by repeat (first | (with_reducible exact Below.refl _ _) | (with_reducible apply Below.drew) | (with_reducible refine below_drewN ?_ _) | (refine Below.setCell ?_ (by simp <;> omega) _) | (refine Below.alloc ?_ (by simp <;> omega) _)) : Below w4.heap.size w4 _) (Nat.le_refl _))).mono ?_; rintro e w5 ⟨rfl, hb5⟩; have hst5 : Below w4.heap.size w4 w5 := Below.trans (by repeat (first | (with_reducible exact Below.refl _ _) | (with_reducible apply Below.drew) | (with_reducible refine below_drewN ?_ _) | (refine Below.setCell ?_ (by simp <;> omega) _) | (refine Below.alloc ?_ (by simp <;> omega) _)) : Below w4.heap.size w4 _) (hb5.mono (Below.size (by repeat (first | (with_reducible exact Below.refl _ _) | (with_reducible apply Below.drew) | (with_reducible refine below_drewN ?_ _) | (refine Below.setCell ?_ (by simp <;> omega) _) | (refine Below.alloc ?_ (by simp <;> omega) _)) : Below w4.heap.size w4 _))); have sz5_paO : w.heap.size < w5.heap.size := Nat.lt_of_lt_of_le sz4_paO hst5.size; have bx5_paO_0 : w5.cell? ⟨w.heap.size, 0, none⟩ = some (.int .i64 vO.fPos) := (hst5.cell (p := ⟨w.heap.size, 0, none⟩) sz4_paO).trans bx4_paO_0; have bx5_paO_1 : w5.cell? ⟨w.heap.size, 1, none⟩ = some (.string vO.fName) := (hst5.cell (p := ⟨w.heap.size, 1, none⟩) sz4_paO).trans bx4_paO_1; have HS5_vList := Lib.hid (HS4_vList.out.up hst5 (Nat.le_refl _)); have HS5_vList_3 := Lib.hid (HS4_vList_3.out.up hst5 (Nat.le_refl _)); have HB5 := Lib.hid (HB4.out.trans (hst5.mono HB4.out.size)); clear bx4_paO_0 bx4_paO_1 sz4_paO HS4_vList HS4_vList_3 hb5 hst5 HB4)))
      all_goals
        go_wp2_with fail
        refine (laws_toOccurrenceS (cap := c_vList) vList hq_vList _ (Below.size (by repeat (first | (with_reducible exact Below.refl _ _) | (with_reducible apply Below.drew) | (with_reducible refine below_drewN ?_ _) | (refine Below.setCell ?_ (by simp <;> omega) _) | (refine Below.alloc ?_ (by simp <;> omega) _)) : Below w5.heap.size w5 _)) (HS5_vList.out.later (by repeat (first | (with_reducible exact Below.refl _ _) | (with_reducible apply Below.drew) | (with_reducible refine below_drewN ?_ _) | (refine Below.setCell ?_ (by simp <;> omega) _) | (refine Below.alloc ?_ (by simp <;> omega) _)) : Below w5.heap.size w5 _) (Nat.le_refl _))).mono ?_
        rintro e w6 ⟨a_vList_6, c_vList_6, rfl, ho6, hb6⟩
        have hst6 : Below w5.heap.size w5 w6 := Below.trans (by repeat (first | (with_reducible exact Below.refl _ _) | (with_reducible apply Below.drew) | (with_reducible refine below_drewN ?_ _) | (refine Below.setCell ?_ (by simp <;> omega) _) | (refine Below.alloc ?_ (by simp <;> omega) _)) : Below w5.heap.size w5 _) (hb6.mono (Below.size (by repeat (first | (with_reducible exact Below.refl _ _) | (with_reducible apply Below.drew) | (with_reducible refine below_drewN ?_ _) | (refine Below.setCell ?_ (by simp <;> omega) _) | (refine Below.alloc ?_ (by simp <;> omega) _)) : Below w5.heap.size w5 _)))
        have sz6_paO : w.heap.size < w6.heap.size := Nat.lt_of_lt_of_le sz5_paO hst6.size
        have bx6_paO_0 : w6.cell? ⟨w.heap.size, 0, none⟩ = some (.int .i64 vO.fPos) := (hst6.cell (p := ⟨w.heap.size, 0, none⟩) sz5_paO).trans bx5_paO_0
        have bx6_paO_1 : w6.cell? ⟨w.heap.size, 1, none⟩ = some (.string vO.fName) := (hst6.cell (p := ⟨w.heap.size, 1, none⟩) sz5_paO).trans bx5_paO_1
        have HS6_vList := Lib.hid (HS5_vList.out.up hst6 (Nat.le_refl _))
        have HS6_vList_3 := Lib.hid (HS5_vList_3.out.up hst6 (Nat.le_refl _))
        have HS6_vList_6 := Lib.hid (show Sl 0 w6.heap.size w6 2 vList.length (fun k => DOccurrence.ct (vList.getD k default)) a_vList_6 from Sl.of (ho6.lies (lo := 0) (hi := w6.heap.size) (fun y hy => ⟨Nat.zero_le _, hy.2⟩)))
        have HB6 := Lib.hid (HB5.out.trans (hst6.mono HB5.out.size))
        clear bx5_paO_0 bx5_paO_1 sz5_paO HS5_vList HS5_vList_3 ho6 hb6 hst6 HB5
        go_wp2_with fail
        refine (laws_toOccurrence vO _).mono ?_
        rintro e w7 ⟨rfl, hb7⟩
        have hst7 : Below w6.heap.size w6 w7 := Below.trans (by repeat (first | (with_reducible exact Below.refl _ _) | (with_reducible apply Below.drew) | (with_reducible refine below_drewN ?_ _) | (refine Below.setCell ?_ (by simp <;> omega) _) | (refine Below.alloc ?_ (by simp <;> omega) _)) : Below w6.heap.size w6 _) (hb7.mono (Below.size (by repeat (first | (with_reducible exact Below.refl _ _) | (with_reducible apply Below.drew) | (with_reducible refine below_drewN ?_ _) | (refine Below.setCell ?_ (by simp <;> omega) _) | (refine Below.alloc ?_ (by simp <;> omega) _)) : Below w6.heap.size w6 _)))
        have sz7_paO : w.heap.size < w7.heap.size := Nat.lt_of_lt_of_le sz6_paO hst7.size
        have bx7_paO_0 : w7.cell? ⟨w.heap.size, 0, none⟩ = some (.int .i64 vO.fPos) := (hst7.cell (p := ⟨w.heap.size, 0, none⟩) sz6_paO).trans bx6_paO_0
        have bx7_paO_1 : w7.cell? ⟨w.heap.size, 1, none⟩ = some (.string vO.fName) := (hst7.cell (p := ⟨w.heap.size, 1, none⟩) sz6_paO).trans bx6_paO_1
        have HS7_vList := Lib.hid (HS6_vList.out.up hst7 (Nat.le_refl _))
        have HS7_vList_3 := Lib.hid (HS6_vList_3.out.up hst7 (Nat.le_refl _))
        have HS7_vList_6 := Lib.hid (HS6_vList_6.out.up hst7 (Nat.le_refl _))
        have HB7 := Lib.hid (HB6.out.trans (hst7.mono HB6.out.size))
        clear bx6_paO_0 bx6_paO_1 sz6_paO HS6_vList HS6_vList_3 HS6_vList_6 hb7 hst7 HB6
        go_wp2_with fail
        refine (impl_OccurrenceIndex (c0_0 := c_vList_6) vList OK_vList.out hq_vList vO OK_vO.out hq_vO _ (Below.size (by repeat (first | (with_reducible exact Below.refl _ _) | (with_reducible apply Below.drew) | (with_reducible refine below_drewN ?_ _) | (refine Below.setCell ?_ (by simp <;> omega) _) | (refine Below.alloc ?_ (by simp <;> omega) _)) : Below w7.heap.size w7 _)) (HS7_vList_6.out.later (by repeat (first | (with_reducible exact Below.refl _ _) | (with_reducible apply Below.drew) | (with_reducible refine below_drewN ?_ _) | (refine Below.setCell ?_ (by simp <;> omega) _) | (refine Below.alloc ?_ (by simp <;> omega) _)) : Below w7.heap.size w7 _) (Nat.le_refl _))).mono ?_
        rintro e w8 ⟨rfl, hb8⟩
        have hst8 : Below w7.heap.size w7 w8 := Below.trans (by repeat (first | (with_reducible exact Below.refl _ _) | (with_reducible apply Below.drew) | (with_reducible refine below_drewN ?_ _) | (refine Below.setCell ?_ (by simp <;> omega) _) | (refine Below.alloc ?_ (by simp <;> omega) _)) : Below w7.heap.size w7 _) (hb8.mono (Below.size (by repeat (first | (with_reducible exact Below.refl _ _) | (with_reducible apply Below.drew) | (with_reducible refine below_drewN ?_ _) | (refine Below.setCell ?_ (by simp <;> omega) _) | (refine Below.alloc ?_ (by simp <;> omega) _)) : Below w7.heap.size w7 _)))
        have sz8_paO : w.heap.size < w8.heap.size := Nat.lt_of_lt_of_le sz7_paO hst8.size
        have bx8_paO_0 : w8.cell? ⟨w.heap.size, 0, none⟩ = some (.int .i64 vO.fPos) := (hst8.cell (p := ⟨w.heap.size, 0, none⟩) sz7_paO).trans bx7_paO_0
        have bx8_paO_1 : w8.cell? ⟨w.heap.size, 1, none⟩ = some (.string vO.fName) := (hst8.cell (p := ⟨w.heap.size, 1, none⟩) sz7_paO).trans bx7_paO_1
        have HS8_vList := Lib.hid (HS7_vList.out.up hst8 (Nat.le_refl _))
        have HS8_vList_3 := Lib.hid (HS7_vList_3.out.up hst8 (Nat.le_refl _))
        have HS8_vList_6 := Lib.hid (HS7_vList_6.out.up hst8 (Nat.le_refl _))
        have HB8 := Lib.hid (HB7.out.trans (hst8.mono HB7.out.size))
        clear bx7_paO_0 bx7_paO_1 sz7_paO HS7_vList HS7_vList_3 HS7_vList_6 hb8 hst8 HB7
        go_wp2_with fail
        refine (laws_toOccurrenceS (cap := c_vList) vList hq_vList _ (Below.size (by repeat (first | (with_reducible exact Below.refl _ _) | (with_reducible apply Below.drew) | (with_reducible refine below_drewN ?_ _) | (refine Below.setCell ?_ (by simp <;> omega) _) | (refine Below.alloc ?_ (by simp <;> omega) _)) : Below w8.heap.size w8 _)) (HS8_vList.out.later (by repeat (first | (with_reducible exact Below.refl _ _) | (with_reducible apply Below.drew) | (with_reducible refine below_drewN ?_ _) | (refine Below.setCell ?_ (by simp <;> omega) _) | (refine Below.alloc ?_ (by simp <;> omega) _)) : Below w8.heap.size w8 _) (Nat.le_refl _))).mono ?_
        rintro e w9 ⟨a_vList_9, c_vList_9, rfl, ho9, hb9⟩
        have hst9 : Below w8.heap.size w8 w9 := Below.trans (by repeat (first | (with_reducible exact Below.refl _ _) | (with_reducible apply Below.drew) | (with_reducible refine below_drewN ?_ _) | (refine Below.setCell ?_ (by simp <;> omega) _) | (refine Below.alloc ?_ (by simp <;> omega) _)) : Below w8.heap.size w8 _) (hb9.mono (Below.size (by repeat (first | (with_reducible exact Below.refl _ _) | (with_reducible apply Below.drew) | (with_reducible refine below_drewN ?_ _) | (refine Below.setCell ?_ (by simp <;> omega) _) | (refine Below.alloc ?_ (by simp <;> omega) _)) : Below w8.heap.size w8 _)))
        have sz9_paO : w.heap.size < w9.heap.size := Nat.lt_of_lt_of_le sz8_paO hst9.size
        have bx9_paO_0 : w9.cell? ⟨w.heap.size, 0, none⟩ = some (.int .i64 vO.fPos) := (hst9.cell (p := ⟨w.heap.size, 0, none⟩) sz8_paO).trans bx8_paO_0
        have bx9_paO_1 : w9.cell? ⟨w.heap.size, 1, none⟩ = some (.string vO.fName) := (hst9.cell (p := ⟨w.heap.size, 1, none⟩) sz8_paO).trans bx8_paO_1
        have HS9_vList := Lib.hid (HS8_vList.out.up hst9 (Nat.le_refl _))
        have HS9_vList_3 := Lib.hid (HS8_vList_3.out.up hst9 (Nat.le_refl _))
        have HS9_vList_6 := Lib.hid (HS8_vList_6.out.up hst9 (Nat.le_refl _))
        have HS9_vList_9 := Lib.hid (show Sl 0 w9.heap.size w9 2 vList.length (fun k => DOccurrence.ct (vList.getD k default)) a_vList_9 from Sl.of (ho9.lies (lo := 0) (hi := w9.heap.size) (fun y hy => ⟨Nat.zero_le _, hy.2⟩)))
        have HB9 := Lib.hid (HB8.out.trans (hst9.mono HB8.out.size))
        clear bx8_paO_0 bx8_paO_1 sz8_paO HS8_vList HS8_vList_3 HS8_vList_6 ho9 hb9 hst9 HB8
        go_wp2_with fail
        refine (laws_eqOccurrenceS (cap := c_vList_6) (cap2 := c_vList_9) vList hq_vList _ (Below.size (by repeat (first | (with_reducible exact Below.refl _ _) | (with_reducible apply Below.drew) | (with_reducible refine below_drewN ?_ _) | (refine Below.setCell ?_ (by simp <;> omega) _) | (refine Below.alloc ?_ (by simp <;> omega) _)) : Below w9.heap.size w9 _)) (Below.size (by repeat (first | (with_reducible exact Below.refl _ _) | (with_reducible apply Below.drew) | (with_reducible refine below_drewN ?_ _) | (refine Below.setCell ?_ (by simp <;> omega) _) | (refine Below.alloc ?_ (by simp <;> omega) _)) : Below w9.heap.size w9 _)) (HS9_vList_6.out.later (by repeat (first | (with_reducible exact Below.refl _ _) | (with_reducible apply Below.drew) | (with_reducible refine below_drewN ?_ _) | (refine Below.setCell ?_ (by simp <;> omega) _) | (refine Below.alloc ?_ (by simp <;> omega) _)) : Below w9.heap.size w9 _) (Nat.le_refl _)) (HS9_vList_9.out.later (by repeat (first | (with_reducible exact Below.refl _ _) | (with_reducible apply Below.drew) | (with_reducible refine below_drewN ?_ _) | (refine Below.setCell ?_ (by simp <;> omega) _) | (refine Below.alloc ?_ (by simp <;> omega) _)) : Below w9.heap.size w9 _) (Nat.le_refl _))).mono ?_
        rintro e w10 ⟨rfl, hb10⟩
        have hst10 : Below w9.heap.size w9 w10 := Below.trans (by repeat (first | (with_reducible exact Below.refl _ _) | (with_reducible apply Below.drew) | (with_reducible refine below_drewN ?_ _) | (refine Below.setCell ?_ (by simp <;> omega) _) | (refine Below.alloc ?_ (by simp <;> omega) _)) : Below w9.heap.size w9 _) (hb10.mono (Below.size (by repeat (first | (with_reducible exact Below.refl _ _) | (with_reducible apply Below.drew) | (with_reducible refine below_drewN ?_ _) | (refine Below.setCell ?_ (by simp <;> omega) _) | (refine Below.alloc ?_ (by simp <;> omega) _)) : Below w9.heap.size w9 _)))
        have sz10_paO : w.heap.size < w10.heap.size := Nat.lt_of_lt_of_le sz9_paO hst10.size
        have bx10_paO_0 : w10.cell? ⟨w.heap.size, 0, none⟩ = some (.int .i64 vO.fPos) := (hst10.cell (p := ⟨w.heap.size, 0, none⟩) sz9_paO).trans bx9_paO_0
        have bx10_paO_1 : w10.cell? ⟨w.heap.size, 1, none⟩ = some (.string vO.fName) := (hst10.cell (p := ⟨w.heap.size, 1, none⟩) sz9_paO).trans bx9_paO_1
        have HS10_vList := Lib.hid (HS9_vList.out.up hst10 (Nat.le_refl _))
        have HS10_vList_3 := Lib.hid (HS9_vList_3.out.up hst10 (Nat.le_refl _))
        have HS10_vList_6 := Lib.hid (HS9_vList_6.out.up hst10 (Nat.le_refl _))
        have HS10_vList_9 := Lib.hid (HS9_vList_9.out.up hst10 (Nat.le_refl _))
        have HB10 := Lib.hid (HB9.out.trans (hst10.mono HB9.out.size))
        clear bx9_paO_0 bx9_paO_1 sz9_paO HS9_vList HS9_vList_3 HS9_vList_6 HS9_vList_9 hb10 hst10 HB9
        go_wp2
        go_ret
        exact ⟨rfl, HB10.out⟩

set_option maxRecDepth 100000 in
theorem lifted (os : Os) (started : os.Started) (H : Type) (enc : TypeId × Value → H) :
    ReturnsInHanded {} Try.checked os 4 .any (Rows.fnExactOccurrenceIndexSpec.pre6 enc Try.prog Try.f4 Rows.fnExactOccurrenceIndexRow.domain false) (Rows.fnExactOccurrenceIndexSpec.post enc Try.prog Try.f4 false true false false) := by
  refine returnsInHanded_of_change_sized (C := Try.checked) own started (by kernel_rfl) Try.func4
    (ChangeSpec.witness6 (enc := enc) (C := Try.checked) false ⟨#[], #[.slice none 0 0, .agg #[.int .i64 0, .string ⟨#[]⟩]], []⟩ 8 (by kernel_rfl) (by kernel_rfl) (by kernel_rfl) (by kernel_rfl)) ?_
  intro W base args ds gs before hval0 hW _ hsz0 _
  have hval : ∀ (j : Nat) t v, Try.f4.params[j]? = some t → args[j]? = some v → Value.okWide Try.prog W .any base t v := hval0
  obtain ⟨p, q, hA0, hV, hps, hfz, hnd⟩ := id hW
  have hA : DataW.TrodAll enc Try.prog W 0 (fun _ => true) true Try.f4.params.toList args.toList ds p := hA0
  have hsz : (DataW.weightsEach Try.prog (Try.f4.params.toList ++ Rows.fnExactOccurrenceIndexSpec.plain.varTypes Try.prog) (ds ++ gs)).all (· ≤ reachBytes) = true := hsz0
  rw [Try.params4] at hA hval hsz
  obtain ⟨v0, vs0, d0, ds0, p0, q0, hargs, rfl, rfl, h0, r0⟩ := trodAll_cons hA
  obtain ⟨v1, vs1, d1, ds1, p1, q1, rfl, rfl, rfl, h1, r1⟩ := trodAll_cons r0
  obtain ⟨rfl, rfl, rfl⟩ := trodAll_nil r1
  obtain rfl : args = #[v0, v1] := by cases args; simp_all
  obtain ⟨ax0, lx0, cx0, hx0⟩ := okWide_slice Try.underlying34 (hval 0 34 v0 rfl rfl)
  obtain ⟨vList, a_vList, c_vList, rfl, ok_vList, hs_vList⟩ := arg_occurrenceS hx0 h0
  obtain ⟨vO, rfl, ok_vO⟩ := arg_occurrence (hval 1 36 v1 rfl rfl) h1
  refine (walk vList a_vList c_vList ok_vList vO ok_vO W hs_vList).mono fun e W' ⟨he, hg⟩ => ?_
  subst he
  exact ⟨_, rfl, law_post laidOut (by kernel_rfl) rfl Try.underlying4 rfl rfl hW hg⟩

theorem said : Rows.FnExactOccurrenceIndexSaid :=
  OpenClaim.holds_of_wide 4 Try.f4 rfl rfl rfl rfl rfl rfl rfl ⟨rfl, rfl, rfl, rfl, rfl⟩ rfl rfl rfl rfl rfl (by kernel_rfl) Try.func4 (by kernel_rfl)
    (of_decide_eq_true (by kernel_rfl)) (by unfold Func.isWrapper; first | (rw [if_pos (by decide +kernel)]; kernel_rfl) | (rw [if_neg (by decide +kernel)]; exact ⟨rfl, rfl⟩))
    (fun os started H enc _ => lifted os started H enc)
#print axioms said
end Go.Proofs.Ytjjbnbhcfhbfdaa.fnExactOccurrenceIndex
