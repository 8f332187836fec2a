/-
  The law FnExactInstanceIndex: for every list of instances and every instance the program's InstanceIndex answers as the model's. No condition.
-/
import Derived.Test.YtjjbnbhcfhbfdaaInstIndex
import Derived.SizedLaws
namespace Go.Proofs.Ytjjbnbhcfhbfdaa.fnExactInstanceIndex
open Go.ChangeShapes Go.WideShapes Go.ChangeAt Go.RowKit Go.WideMaps Go.WideElems
open Go.ChangeMaps (open_string)
open Go.Lib Go.Deep

set_option maxHeartbeats 1600000 in
set_option maxRecDepth 100000 in
theorem walk (vList : List (DInstance)) (a_vList : Option Addr) (c_vList : Nat) (ok_vList : (okL DInstance.ok) vList) (vX : DInstance) (ok_vX : DInstance.ok vX) (w : World) (hs_vList : Sl 0 w.heap.size w 2 vList.length (fun k => DInstance.ct (vList.getD k default)) a_vList) :
    Calls Try.prog 3 #[.slice a_vList vList.length c_vList, .agg #[.int .i64 vX.fNode, .string vX.fName]] w fun e w' => e = .returned (.bool true) ∧ Below w.heap.size w w' := by
  have HS_vList := Lib.hid hs_vList
  clear hs_vList
  have OK_vList := Lib.hid ok_vList
  clear ok_vList
  have OK_vX := Lib.hid ok_vX
  clear ok_vX
  by_cases h0 : 1048576 < (((lsz DInstance.sz) vList : Nat) : Int)
  · skip
    have hz := fun (hi : Nat) (w' : World) (hhi : hi ≤ w'.heap.size) (hs_vList : Sl 0 hi w' 2 vList.length (fun k => DInstance.ct (vList.getD k default)) a_vList) => laws_szInstanceS (cap := c_vList) vList 1048576 (by omega) (by omega) OK_vList.out w' hhi hs_vList
    rw [szR_gt (by omega)] at hz
    have HZ_vList := Lib.hid hz
    clear hz
    go_enter Try.func3, Try.ntmps3
    go_wp2_with fail
    refine (HZ_vList.out w.heap.size _ (Below.size (by repeat (first | (with_reducible exact Below.refl _ _) | (with_reducible apply Below.drew) | (with_reducible refine below_drewN ?_ _) | (refine Below.setCell ?_ (by simp <;> omega) _) | (refine Below.alloc ?_ (by simp <;> omega) _)) : Below w.heap.size w _)) (HS_vList.out.later (by repeat (first | (with_reducible exact Below.refl _ _) | (with_reducible apply Below.drew) | (with_reducible refine below_drewN ?_ _) | (refine Below.setCell ?_ (by simp <;> omega) _) | (refine Below.alloc ?_ (by simp <;> omega) _)) : Below w.heap.size w _) (Nat.le_refl _))).mono ?_
    rintro e w1 ⟨rfl, hb1⟩
    have hst1 : Below w.heap.size w w1 := Below.trans (by repeat (first | (with_reducible exact Below.refl _ _) | (with_reducible apply Below.drew) | (with_reducible refine below_drewN ?_ _) | (refine Below.setCell ?_ (by simp <;> omega) _) | (refine Below.alloc ?_ (by simp <;> omega) _)) : Below w.heap.size w _) (hb1.mono (Below.size (by repeat (first | (with_reducible exact Below.refl _ _) | (with_reducible apply Below.drew) | (with_reducible refine below_drewN ?_ _) | (refine Below.setCell ?_ (by simp <;> omega) _) | (refine Below.alloc ?_ (by simp <;> omega) _)) : Below w.heap.size w _)))
    have sz1_paX : w.heap.size < w1.heap.size := Nat.lt_of_lt_of_le (by first | omega | (simp; done) | (simp; omega) | (simp [World.setCell]; omega)) hb1.size
    have bx1_paX_0 : w1.cell? ⟨w.heap.size, 0, none⟩ = some (.int .i64 vX.fNode) := (hb1.cell (p := ⟨w.heap.size, 0, none⟩) (by first | omega | (simp; done) | (simp; omega) | (simp [World.setCell]; omega))).trans (by go_simp)
    have bx1_paX_1 : w1.cell? ⟨w.heap.size, 1, none⟩ = some (.string vX.fName) := (hb1.cell (p := ⟨w.heap.size, 1, none⟩) (by first | omega | (simp; done) | (simp; omega) | (simp [World.setCell]; omega))).trans (by go_simp)
    have HS1_vList := Lib.hid (HS_vList.out.up hst1 (Nat.le_refl _))
    have HB1 := Lib.hid ((Below.refl w.heap.size w).trans (hst1.mono (Below.refl w.heap.size w).size))
    clear hb1 hst1
    go_wp2
    go_ret
    exact ⟨rfl, HB1.out⟩
  · skip
    by_cases h1 : (1048576 - ((lsz DInstance.sz) vList : Nat)) < ((DInstance.sz vX : Nat) : Int)
    · skip
      have hz := fun (hi : Nat) (w' : World) (hhi : hi ≤ w'.heap.size) (hs_vList : Sl 0 hi w' 2 vList.length (fun k => DInstance.ct (vList.getD k default)) a_vList) => laws_szInstanceS (cap := c_vList) vList 1048576 (by omega) (by omega) OK_vList.out w' hhi hs_vList
      rw [szR_le (by omega)] at hz
      have HZ_vList := Lib.hid hz
      clear hz
      have hz := fun (hi : Nat) (w' : World) => laws_szInstance vX (1048576 - ((lsz DInstance.sz) vList : Nat)) (by omega) (by omega) OK_vX.out w'
      rw [szR_gt (by omega)] at hz
      have HZ_vX := Lib.hid hz
      clear hz
      go_enter Try.func3, Try.ntmps3
      go_wp2_with fail
      refine (HZ_vList.out w.heap.size _ (Below.size (by repeat (first | (with_reducible exact Below.refl _ _) | (with_reducible apply Below.drew) | (with_reducible refine below_drewN ?_ _) | (refine Below.setCell ?_ (by simp <;> omega) _) | (refine Below.alloc ?_ (by simp <;> omega) _)) : Below w.heap.size w _)) (HS_vList.out.later (by repeat (first | (with_reducible exact Below.refl _ _) | (with_reducible apply Below.drew) | (with_reducible refine below_drewN ?_ _) | (refine Below.setCell ?_ (by simp <;> omega) _) | (refine Below.alloc ?_ (by simp <;> omega) _)) : Below w.heap.size w _) (Nat.le_refl _))).mono ?_
      rintro e w1 ⟨rfl, hb1⟩
      have hst1 : Below w.heap.size w w1 := Below.trans (by repeat (first | (with_reducible exact Below.refl _ _) | (with_reducible apply Below.drew) | (with_reducible refine below_drewN ?_ _) | (refine Below.setCell ?_ (by simp <;> omega) _) | (refine Below.alloc ?_ (by simp <;> omega) _)) : Below w.heap.size w _) (hb1.mono (Below.size (by repeat (first | (with_reducible exact Below.refl _ _) | (with_reducible apply Below.drew) | (with_reducible refine below_drewN ?_ _) | (refine Below.setCell ?_ (by simp <;> omega) _) | (refine Below.alloc ?_ (by simp <;> omega) _)) : Below w.heap.size w _)))
      have sz1_paX : w.heap.size < w1.heap.size := Nat.lt_of_lt_of_le (by first | omega | (simp; done) | (simp; omega) | (simp [World.setCell]; omega)) hb1.size
      have bx1_paX_0 : w1.cell? ⟨w.heap.size, 0, none⟩ = some (.int .i64 vX.fNode) := (hb1.cell (p := ⟨w.heap.size, 0, none⟩) (by first | omega | (simp; done) | (simp; omega) | (simp [World.setCell]; omega))).trans (by go_simp)
      have bx1_paX_1 : w1.cell? ⟨w.heap.size, 1, none⟩ = some (.string vX.fName) := (hb1.cell (p := ⟨w.heap.size, 1, none⟩) (by first | omega | (simp; done) | (simp; omega) | (simp [World.setCell]; omega))).trans (by go_simp)
      have HS1_vList := Lib.hid (HS_vList.out.up hst1 (Nat.le_refl _))
      have HB1 := Lib.hid ((Below.refl w.heap.size w).trans (hst1.mono (Below.refl w.heap.size w).size))
      clear hb1 hst1
      go_wp2_with fail
      refine (HZ_vX.out 0 _).mono ?_
      rintro e w2 ⟨rfl, hb2⟩
      have hst2 : Below w1.heap.size w1 w2 := Below.trans (by repeat (first | (with_reducible exact Below.refl _ _) | (with_reducible apply Below.drew) | (with_reducible refine below_drewN ?_ _) | (refine Below.setCell ?_ (by simp <;> omega) _) | (refine Below.alloc ?_ (by simp <;> omega) _)) : Below w1.heap.size w1 _) (hb2.mono (Below.size (by repeat (first | (with_reducible exact Below.refl _ _) | (with_reducible apply Below.drew) | (with_reducible refine below_drewN ?_ _) | (refine Below.setCell ?_ (by simp <;> omega) _) | (refine Below.alloc ?_ (by simp <;> omega) _)) : Below w1.heap.size w1 _)))
      have sz2_paX : w.heap.size < w2.heap.size := Nat.lt_of_lt_of_le sz1_paX hst2.size
      have bx2_paX_0 : w2.cell? ⟨w.heap.size, 0, none⟩ = some (.int .i64 vX.fNode) := (hst2.cell (p := ⟨w.heap.size, 0, none⟩) sz1_paX).trans bx1_paX_0
      have bx2_paX_1 : w2.cell? ⟨w.heap.size, 1, none⟩ = some (.string vX.fName) := (hst2.cell (p := ⟨w.heap.size, 1, none⟩) sz1_paX).trans bx1_paX_1
      have HS2_vList := Lib.hid (HS1_vList.out.up hst2 (Nat.le_refl _))
      have HB2 := Lib.hid (HB1.out.trans (hst2.mono HB1.out.size))
      clear bx1_paX_0 bx1_paX_1 sz1_paX HS1_vList hb2 hst2 HB1
      go_wp2
      go_ret
      exact ⟨rfl, HB2.out⟩
    · skip
      have hz := fun (hi : Nat) (w' : World) (hhi : hi ≤ w'.heap.size) (hs_vList : Sl 0 hi w' 2 vList.length (fun k => DInstance.ct (vList.getD k default)) a_vList) => laws_szInstanceS (cap := c_vList) vList 1048576 (by omega) (by omega) OK_vList.out w' hhi hs_vList
      rw [szR_le (by omega)] at hz
      have HZ_vList := Lib.hid hz
      clear hz
      have hz := fun (hi : Nat) (w' : World) => laws_szInstance vX (1048576 - ((lsz DInstance.sz) vList : Nat)) (by omega) (by omega) OK_vX.out w'
      rw [szR_le (by omega)] at hz
      have HZ_vX := Lib.hid hz
      clear hz
      have hq_vList : (lsz DInstance.sz) vList ≤ 1048576 := by omega
      have hq_vX : DInstance.sz vX ≤ 1048576 := by omega
      go_enter Try.func3, Try.ntmps3
      go_wp2_with fail
      refine (HZ_vList.out w.heap.size _ (Below.size (by repeat (first | (with_reducible exact Below.refl _ _) | (with_reducible apply Below.drew) | (with_reducible refine below_drewN ?_ _) | (refine Below.setCell ?_ (by simp <;> omega) _) | (refine Below.alloc ?_ (by simp <;> omega) _)) : Below w.heap.size w _)) (HS_vList.out.later (by repeat (first | (with_reducible exact Below.refl _ _) | (with_reducible apply Below.drew) | (with_reducible refine below_drewN ?_ _) | (refine Below.setCell ?_ (by simp <;> omega) _) | (refine Below.alloc ?_ (by simp <;> omega) _)) : Below w.heap.size w _) (Nat.le_refl _))).mono ?_
      rintro e w1 ⟨rfl, hb1⟩
      have hst1 : Below w.heap.size w w1 := Below.trans (by repeat (first | (with_reducible exact Below.refl _ _) | (with_reducible apply Below.drew) | (with_reducible refine below_drewN ?_ _) | (refine Below.setCell ?_ (by simp <;> omega) _) | (refine Below.alloc ?_ (by simp <;> omega) _)) : Below w.heap.size w _) (hb1.mono (Below.size (by repeat (first | (with_reducible exact Below.refl _ _) | (with_reducible apply Below.drew) | (with_reducible refine below_drewN ?_ _) | (refine Below.setCell ?_ (by simp <;> omega) _) | (refine Below.alloc ?_ (by simp <;> omega) _)) : Below w.heap.size w _)))
      have sz1_paX : w.heap.size < w1.heap.size := Nat.lt_of_lt_of_le (by first | omega | (simp; done) | (simp; omega) | (simp [World.setCell]; omega)) hb1.size
      have bx1_paX_0 : w1.cell? ⟨w.heap.size, 0, none⟩ = some (.int .i64 vX.fNode) := (hb1.cell (p := ⟨w.heap.size, 0, none⟩) (by first | omega | (simp; done) | (simp; omega) | (simp [World.setCell]; omega))).trans (by go_simp)
      have bx1_paX_1 : w1.cell? ⟨w.heap.size, 1, none⟩ = some (.string vX.fName) := (hb1.cell (p := ⟨w.heap.size, 1, none⟩) (by first | omega | (simp; done) | (simp; omega) | (simp [World.setCell]; omega))).trans (by go_simp)
      have HS1_vList := Lib.hid (HS_vList.out.up hst1 (Nat.le_refl _))
      have HB1 := Lib.hid ((Below.refl w.heap.size w).trans (hst1.mono (Below.refl w.heap.size w).size))
      clear hb1 hst1
      go_wp2_with fail
      refine (HZ_vX.out 0 _).mono ?_
      rintro e w2 ⟨rfl, hb2⟩
      have hst2 : Below w1.heap.size w1 w2 := Below.trans (by repeat (first | (with_reducible exact Below.refl _ _) | (with_reducible apply Below.drew) | (with_reducible refine below_drewN ?_ _) | (refine Below.setCell ?_ (by simp <;> omega) _) | (refine Below.alloc ?_ (by simp <;> omega) _)) : Below w1.heap.size w1 _) (hb2.mono (Below.size (by repeat (first | (with_reducible exact Below.refl _ _) | (with_reducible apply Below.drew) | (with_reducible refine below_drewN ?_ _) | (refine Below.setCell ?_ (by simp <;> omega) _) | (refine Below.alloc ?_ (by simp <;> omega) _)) : Below w1.heap.size w1 _)))
      have sz2_paX : w.heap.size < w2.heap.size := Nat.lt_of_lt_of_le sz1_paX hst2.size
      have bx2_paX_0 : w2.cell? ⟨w.heap.size, 0, none⟩ = some (.int .i64 vX.fNode) := (hst2.cell (p := ⟨w.heap.size, 0, none⟩) sz1_paX).trans bx1_paX_0
      have bx2_paX_1 : w2.cell? ⟨w.heap.size, 1, none⟩ = some (.string vX.fName) := (hst2.cell (p := ⟨w.heap.size, 1, none⟩) sz1_paX).trans bx1_paX_1
      have HS2_vList := Lib.hid (HS1_vList.out.up hst2 (Nat.le_refl _))
      have HB2 := Lib.hid (HB1.out.trans (hst2.mono HB1.out.size))
      clear bx1_paX_0 bx1_paX_1 sz1_paX HS1_vList hb2 hst2 HB1
      go_wp2_with fail
      go_region_with ((first | (go_at_call 18; refine (laws_toInstanceS (cap := c_vList) vList hq_vList _ (Below.size (by repeat (first | (with_reducible exact Below.refl _ _) | (with_reducible apply Below.drew) | (with_reducible refine below_drewN ?_ _) | (refine Below.setCell ?_ (by simp <;> omega) _) | (refine Below.alloc ?_ (by simp <;> omega) _)) : Below w2.heap.size w2 _)) (HS2_vList.out.later (by repeat (first | (with_reducible exact Below.refl _ _) | (with_reducible apply Below.drew) | (with_reducible refine below_drewN ?_ _) | (refine Below.setCell ?_ (by simp <;> omega) _) | (refine Below.alloc ?_ (by simp <;> omega) _)) : Below w2.heap.size w2 _) (Nat.le_refl _))).mono ?_; rintro e w3 ⟨a_vList_3, c_vList_3, rfl, ho3, hb3⟩; have hst3 : Below w2.heap.size w2 w3 := Below.trans (by repeat (first | (with_reducible exact Below.refl _ _) | (with_reducible apply Below.drew) | (with_reducible refine below_drewN ?_ _) | (refine Below.setCell ?_ (by simp <;> omega) _) | (refine Below.alloc ?_ (by simp <;> omega) _)) : Below w2.heap.size w2 _) (hb3.mono (Below.size (by repeat (first | (with_reducible exact Below.refl _ _) | (with_reducible apply Below.drew) | (with_reducible refine below_drewN ?_ _) | (refine Below.setCell ?_ (by simp <;> omega) _) | (refine Below.alloc ?_ (by simp <;> omega) _)) : Below w2.heap.size w2 _))); have sz3_paX : w.heap.size < w3.heap.size := Nat.lt_of_lt_of_le sz2_paX hst3.size; have bx3_paX_0 : w3.cell? ⟨w.heap.size, 0, none⟩ = some (.int .i64 vX.fNode) := (hst3.cell (p := ⟨w.heap.size, 0, none⟩) sz2_paX).trans bx2_paX_0; have bx3_paX_1 : w3.cell? ⟨w.heap.size, 1, none⟩ = some (.string vX.fName) := (hst3.cell (p := ⟨w.heap.size, 1, none⟩) sz2_paX).trans bx2_paX_1; have HS3_vList := Lib.hid (HS2_vList.out.up hst3 (Nat.le_refl _)); have HS3_vList_3 := Lib.hid (show Sl 0 w3.heap.size w3 2 vList.length (fun k => DInstance.ct (vList.getD k default)) a_vList_3 from Sl.of (ho3.lies (lo := 0) (hi := w3.heap.size) (fun y hy => ⟨Nat.zero_le _, hy.2⟩))); have HB3 := Lib.hid (HB2.out.trans (hst3.mono HB2.out.size)); clear bx2_paX_0 bx2_paX_1 sz2_paX HS2_vList ho3 hb3 hst3 HB2) | (go_at_call 19; refine (laws_toInstance vX _).mono ?_; rintro e w4 ⟨rfl, hb4⟩; have hst4 : Below w3.heap.size w3 w4 := Below.trans (by repeat (first | (with_reducible exact Below.refl _ _) | (with_reducible apply Below.drew) | (with_reducible refine below_drewN ?_ _) | (refine Below.setCell ?_ (by simp <;> omega) _) | (refine Below.alloc ?_ (by simp <;> omega) _)) : Below w3.heap.size w3 _) (hb4.mono (Below.size (by repeat (first | (with_reducible exact Below.refl _ _) | (with_reducible apply Below.drew) | (with_reducible refine below_drewN ?_ _) | (refine Below.setCell ?_ (by simp <;> omega) _) | (refine Below.alloc ?_ (by simp <;> omega) _)) : Below w3.heap.size w3 _))); have sz4_paX : w.heap.size < w4.heap.size := Nat.lt_of_lt_of_le sz3_paX hst4.size; have bx4_paX_0 : w4.cell? ⟨w.heap.size, 0, none⟩ = some (.int .i64 vX.fNode) := (hst4.cell (p := ⟨w.heap.size, 0, none⟩) sz3_paX).trans bx3_paX_0; have bx4_paX_1 : w4.cell? ⟨w.heap.size, 1, none⟩ = some (.string vX.fName) := (hst4.cell (p := ⟨w.heap.size, 1, none⟩) sz3_paX).trans bx3_paX_1; have HS4_vList := Lib.hid (HS3_vList.out.up hst4 (Nat.le_refl _)); have HS4_vList_3 := Lib.hid (HS3_vList_3.out.up hst4 (Nat.le_refl _)); have HB4 := Lib.hid (HB3.out.trans (hst4.mono HB3.out.size)); clear bx3_paX_0 bx3_paX_1 sz3_paX HS3_vList HS3_vList_3 hb4 hst4 HB3) | (go_at_call 17; refine (spec_InstanceIndex (c0_0 := c_vList_3) vList OK_vList.out hq_vList vX OK_vX.out hq_vX _ (Below.size (by repeat (first | (with_reducible exact Below.refl _ _) | (with_reducible apply Below.drew) | (with_reducible refine below_drewN ?_ _) | (refine Below.setCell ?_ (by simp <;> omega) _) | (refine Below.alloc ?_ (by simp <;> omega) _)) : Below w4.heap.size w4 _)) (HS4_vList_3.out.later (by repeat (first | (with_reducible exact Below.refl _ _) | (with_reducible apply Below.drew) | (with_reducible refine below_drewN ?_ _) | (refine Below.setCell ?_ (by simp <;> omega) _) | (refine Below.alloc ?_ (by simp <;> omega) _)) : Below w4.heap.size w4 _) (Nat.le_refl _))).mono ?_; rintro e w5 ⟨rfl, hb5⟩; have hst5 : Below w4.heap.size w4 w5 := Below.trans (by repeat (first | (with_reducible exact Below.refl _ _) | (with_reducible apply Below.drew) | (with_reducible refine below_drewN ?_ _) | (refine Below.setCell ?_ (by simp <;> omega) _) | (refine Below.alloc ?_ (by simp <;> omega) _)) : Below w4.heap.size w4 _) (hb5.mono (Below.size (by repeat (first | (with_reducible exact Below.refl _ _) | (with_reducible apply Below.drew) | (with_reducible refine below_drewN ?_ _) | (refine Below.setCell ?_ (by simp <;> omega) _) | (refine Below.alloc ?_ (by simp <;> omega) _)) : Below w4.heap.size w4 _))); have sz5_paX : w.heap.size < w5.heap.size := Nat.lt_of_lt_of_le sz4_paX hst5.size; have bx5_paX_0 : w5.cell? ⟨w.heap.size, 0, none⟩ = some (.int .i64 vX.fNode) := (hst5.cell (p := ⟨w.heap.size, 0, none⟩) sz4_paX).trans bx4_paX_0; have bx5_paX_1 : w5.cell? ⟨w.heap.size, 1, none⟩ = some (.string vX.fName) := (hst5.cell (p := ⟨w.heap.size, 1, none⟩) sz4_paX).trans bx4_paX_1; have HS5_vList := Lib.hid (HS4_vList.out.up hst5 (Nat.le_refl _)); have HS5_vList_3 := Lib.hid (HS4_vList_3.out.up hst5 (Nat.le_refl _)); have HB5 := Lib.hid (HB4.out.trans (hst5.mono HB4.out.size)); clear bx4_paX_0 bx4_paX_1 sz4_paX HS4_vList HS4_vList_3 hb5 hst5 HB4)))
      all_goals
        go_wp2_with fail
        refine (laws_toInstanceS (cap := c_vList) vList hq_vList _ (Below.size (by repeat (first | (with_reducible exact Below.refl _ _) | (with_reducible apply Below.drew) | (with_reducible refine below_drewN ?_ _) | (refine Below.setCell ?_ (by simp <;> omega) _) | (refine Below.alloc ?_ (by simp <;> omega) _)) : Below w5.heap.size w5 _)) (HS5_vList.out.later (by repeat (first | (with_reducible exact Below.refl _ _) | (with_reducible apply Below.drew) | (with_reducible refine below_drewN ?_ _) | (refine Below.setCell ?_ (by simp <;> omega) _) | (refine Below.alloc ?_ (by simp <;> omega) _)) : Below w5.heap.size w5 _) (Nat.le_refl _))).mono ?_
        rintro e w6 ⟨a_vList_6, c_vList_6, rfl, ho6, hb6⟩
        have hst6 : Below w5.heap.size w5 w6 := Below.trans (by repeat (first | (with_reducible exact Below.refl _ _) | (with_reducible apply Below.drew) | (with_reducible refine below_drewN ?_ _) | (refine Below.setCell ?_ (by simp <;> omega) _) | (refine Below.alloc ?_ (by simp <;> omega) _)) : Below w5.heap.size w5 _) (hb6.mono (Below.size (by repeat (first | (with_reducible exact Below.refl _ _) | (with_reducible apply Below.drew) | (with_reducible refine below_drewN ?_ _) | (refine Below.setCell ?_ (by simp <;> omega) _) | (refine Below.alloc ?_ (by simp <;> omega) _)) : Below w5.heap.size w5 _)))
        have sz6_paX : w.heap.size < w6.heap.size := Nat.lt_of_lt_of_le sz5_paX hst6.size
        have bx6_paX_0 : w6.cell? ⟨w.heap.size, 0, none⟩ = some (.int .i64 vX.fNode) := (hst6.cell (p := ⟨w.heap.size, 0, none⟩) sz5_paX).trans bx5_paX_0
        have bx6_paX_1 : w6.cell? ⟨w.heap.size, 1, none⟩ = some (.string vX.fName) := (hst6.cell (p := ⟨w.heap.size, 1, none⟩) sz5_paX).trans bx5_paX_1
        have HS6_vList := Lib.hid (HS5_vList.out.up hst6 (Nat.le_refl _))
        have HS6_vList_3 := Lib.hid (HS5_vList_3.out.up hst6 (Nat.le_refl _))
        have HS6_vList_6 := Lib.hid (show Sl 0 w6.heap.size w6 2 vList.length (fun k => DInstance.ct (vList.getD k default)) a_vList_6 from Sl.of (ho6.lies (lo := 0) (hi := w6.heap.size) (fun y hy => ⟨Nat.zero_le _, hy.2⟩)))
        have HB6 := Lib.hid (HB5.out.trans (hst6.mono HB5.out.size))
        clear bx5_paX_0 bx5_paX_1 sz5_paX HS5_vList HS5_vList_3 ho6 hb6 hst6 HB5
        go_wp2_with fail
        refine (laws_toInstance vX _).mono ?_
        rintro e w7 ⟨rfl, hb7⟩
        have hst7 : Below w6.heap.size w6 w7 := Below.trans (by repeat (first | (with_reducible exact Below.refl _ _) | (with_reducible apply Below.drew) | (with_reducible refine below_drewN ?_ _) | (refine Below.setCell ?_ (by simp <;> omega) _) | (refine Below.alloc ?_ (by simp <;> omega) _)) : Below w6.heap.size w6 _) (hb7.mono (Below.size (by repeat (first | (with_reducible exact Below.refl _ _) | (with_reducible apply Below.drew) | (with_reducible refine below_drewN ?_ _) | (refine Below.setCell ?_ (by simp <;> omega) _) | (refine Below.alloc ?_ (by simp <;> omega) _)) : Below w6.heap.size w6 _)))
        have sz7_paX : w.heap.size < w7.heap.size := Nat.lt_of_lt_of_le sz6_paX hst7.size
        have bx7_paX_0 : w7.cell? ⟨w.heap.size, 0, none⟩ = some (.int .i64 vX.fNode) := (hst7.cell (p := ⟨w.heap.size, 0, none⟩) sz6_paX).trans bx6_paX_0
        have bx7_paX_1 : w7.cell? ⟨w.heap.size, 1, none⟩ = some (.string vX.fName) := (hst7.cell (p := ⟨w.heap.size, 1, none⟩) sz6_paX).trans bx6_paX_1
        have HS7_vList := Lib.hid (HS6_vList.out.up hst7 (Nat.le_refl _))
        have HS7_vList_3 := Lib.hid (HS6_vList_3.out.up hst7 (Nat.le_refl _))
        have HS7_vList_6 := Lib.hid (HS6_vList_6.out.up hst7 (Nat.le_refl _))
        have HB7 := Lib.hid (HB6.out.trans (hst7.mono HB6.out.size))
        clear bx6_paX_0 bx6_paX_1 sz6_paX HS6_vList HS6_vList_3 HS6_vList_6 hb7 hst7 HB6
        go_wp2_with fail
        refine (impl_InstanceIndex (c0_0 := c_vList_6) vList OK_vList.out hq_vList vX OK_vX.out hq_vX _ (Below.size (by repeat (first | (with_reducible exact Below.refl _ _) | (with_reducible apply Below.drew) | (with_reducible refine below_drewN ?_ _) | (refine Below.setCell ?_ (by simp <;> omega) _) | (refine Below.alloc ?_ (by simp <;> omega) _)) : Below w7.heap.size w7 _)) (HS7_vList_6.out.later (by repeat (first | (with_reducible exact Below.refl _ _) | (with_reducible apply Below.drew) | (with_reducible refine below_drewN ?_ _) | (refine Below.setCell ?_ (by simp <;> omega) _) | (refine Below.alloc ?_ (by simp <;> omega) _)) : Below w7.heap.size w7 _) (Nat.le_refl _))).mono ?_
        rintro e w8 ⟨rfl, hb8⟩
        have hst8 : Below w7.heap.size w7 w8 := Below.trans (by repeat (first | (with_reducible exact Below.refl _ _) | (with_reducible apply Below.drew) | (with_reducible refine below_drewN ?_ _) | (refine Below.setCell ?_ (by simp <;> omega) _) | (refine Below.alloc ?_ (by simp <;> omega) _)) : Below w7.heap.size w7 _) (hb8.mono (Below.size (by repeat (first | (with_reducible exact Below.refl _ _) | (with_reducible apply Below.drew) | (with_reducible refine below_drewN ?_ _) | (refine Below.setCell ?_ (by simp <;> omega) _) | (refine Below.alloc ?_ (by simp <;> omega) _)) : Below w7.heap.size w7 _)))
        have sz8_paX : w.heap.size < w8.heap.size := Nat.lt_of_lt_of_le sz7_paX hst8.size
        have bx8_paX_0 : w8.cell? ⟨w.heap.size, 0, none⟩ = some (.int .i64 vX.fNode) := (hst8.cell (p := ⟨w.heap.size, 0, none⟩) sz7_paX).trans bx7_paX_0
        have bx8_paX_1 : w8.cell? ⟨w.heap.size, 1, none⟩ = some (.string vX.fName) := (hst8.cell (p := ⟨w.heap.size, 1, none⟩) sz7_paX).trans bx7_paX_1
        have HS8_vList := Lib.hid (HS7_vList.out.up hst8 (Nat.le_refl _))
        have HS8_vList_3 := Lib.hid (HS7_vList_3.out.up hst8 (Nat.le_refl _))
        have HS8_vList_6 := Lib.hid (HS7_vList_6.out.up hst8 (Nat.le_refl _))
        have HB8 := Lib.hid (HB7.out.trans (hst8.mono HB7.out.size))
        clear bx7_paX_0 bx7_paX_1 sz7_paX HS7_vList HS7_vList_3 HS7_vList_6 hb8 hst8 HB7
        go_wp2_with fail
        refine (laws_toInstanceS (cap := c_vList) vList hq_vList _ (Below.size (by repeat (first | (with_reducible exact Below.refl _ _) | (with_reducible apply Below.drew) | (with_reducible refine below_drewN ?_ _) | (refine Below.setCell ?_ (by simp <;> omega) _) | (refine Below.alloc ?_ (by simp <;> omega) _)) : Below w8.heap.size w8 _)) (HS8_vList.out.later (by repeat (first | (with_reducible exact Below.refl _ _) | (with_reducible apply Below.drew) | (with_reducible refine below_drewN ?_ _) | (refine Below.setCell ?_ (by simp <;> omega) _) | (refine Below.alloc ?_ (by simp <;> omega) _)) : Below w8.heap.size w8 _) (Nat.le_refl _))).mono ?_
        rintro e w9 ⟨a_vList_9, c_vList_9, rfl, ho9, hb9⟩
        have hst9 : Below w8.heap.size w8 w9 := Below.trans (by repeat (first | (with_reducible exact Below.refl _ _) | (with_reducible apply Below.drew) | (with_reducible refine below_drewN ?_ _) | (refine Below.setCell ?_ (by simp <;> omega) _) | (refine Below.alloc ?_ (by simp <;> omega) _)) : Below w8.heap.size w8 _) (hb9.mono (Below.size (by repeat (first | (with_reducible exact Below.refl _ _) | (with_reducible apply Below.drew) | (with_reducible refine below_drewN ?_ _) | (refine Below.setCell ?_ (by simp <;> omega) _) | (refine Below.alloc ?_ (by simp <;> omega) _)) : Below w8.heap.size w8 _)))
        have sz9_paX : w.heap.size < w9.heap.size := Nat.lt_of_lt_of_le sz8_paX hst9.size
        have bx9_paX_0 : w9.cell? ⟨w.heap.size, 0, none⟩ = some (.int .i64 vX.fNode) := (hst9.cell (p := ⟨w.heap.size, 0, none⟩) sz8_paX).trans bx8_paX_0
        have bx9_paX_1 : w9.cell? ⟨w.heap.size, 1, none⟩ = some (.string vX.fName) := (hst9.cell (p := ⟨w.heap.size, 1, none⟩) sz8_paX).trans bx8_paX_1
        have HS9_vList := Lib.hid (HS8_vList.out.up hst9 (Nat.le_refl _))
        have HS9_vList_3 := Lib.hid (HS8_vList_3.out.up hst9 (Nat.le_refl _))
        have HS9_vList_6 := Lib.hid (HS8_vList_6.out.up hst9 (Nat.le_refl _))
        have HS9_vList_9 := Lib.hid (show Sl 0 w9.heap.size w9 2 vList.length (fun k => DInstance.ct (vList.getD k default)) a_vList_9 from Sl.of (ho9.lies (lo := 0) (hi := w9.heap.size) (fun y hy => ⟨Nat.zero_le _, hy.2⟩)))
        have HB9 := Lib.hid (HB8.out.trans (hst9.mono HB8.out.size))
        clear bx8_paX_0 bx8_paX_1 sz8_paX HS8_vList HS8_vList_3 HS8_vList_6 ho9 hb9 hst9 HB8
        go_wp2_with fail
        refine (laws_eqInstanceS (cap := c_vList_6) (cap2 := c_vList_9) vList hq_vList _ (Below.size (by repeat (first | (with_reducible exact Below.refl _ _) | (with_reducible apply Below.drew) | (with_reducible refine below_drewN ?_ _) | (refine Below.setCell ?_ (by simp <;> omega) _) | (refine Below.alloc ?_ (by simp <;> omega) _)) : Below w9.heap.size w9 _)) (Below.size (by repeat (first | (with_reducible exact Below.refl _ _) | (with_reducible apply Below.drew) | (with_reducible refine below_drewN ?_ _) | (refine Below.setCell ?_ (by simp <;> omega) _) | (refine Below.alloc ?_ (by simp <;> omega) _)) : Below w9.heap.size w9 _)) (HS9_vList_6.out.later (by repeat (first | (with_reducible exact Below.refl _ _) | (with_reducible apply Below.drew) | (with_reducible refine below_drewN ?_ _) | (refine Below.setCell ?_ (by simp <;> omega) _) | (refine Below.alloc ?_ (by simp <;> omega) _)) : Below w9.heap.size w9 _) (Nat.le_refl _)) (HS9_vList_9.out.later (by repeat (first | (with_reducible exact Below.refl _ _) | (with_reducible apply Below.drew) | (with_reducible refine below_drewN ?_ _) | (refine Below.setCell ?_ (by simp <;> omega) _) | (refine Below.alloc ?_ (by simp <;> omega) _)) : Below w9.heap.size w9 _) (Nat.le_refl _))).mono ?_
        rintro e w10 ⟨rfl, hb10⟩
        have hst10 : Below w9.heap.size w9 w10 := Below.trans (by repeat (first | (with_reducible exact Below.refl _ _) | (with_reducible apply Below.drew) | (with_reducible refine below_drewN ?_ _) | (refine Below.setCell ?_ (by simp <;> omega) _) | (refine Below.alloc ?_ (by simp <;> omega) _)) : Below w9.heap.size w9 _) (hb10.mono (Below.size (by repeat (first | (with_reducible exact Below.refl _ _) | (with_reducible apply Below.drew) | (with_reducible refine below_drewN ?_ _) | (refine Below.setCell ?_ (by simp <;> omega) _) | (refine Below.alloc ?_ (by simp <;> omega) _)) : Below w9.heap.size w9 _)))
        have sz10_paX : w.heap.size < w10.heap.size := Nat.lt_of_lt_of_le sz9_paX hst10.size
        have bx10_paX_0 : w10.cell? ⟨w.heap.size, 0, none⟩ = some (.int .i64 vX.fNode) := (hst10.cell (p := ⟨w.heap.size, 0, none⟩) sz9_paX).trans bx9_paX_0
        have bx10_paX_1 : w10.cell? ⟨w.heap.size, 1, none⟩ = some (.string vX.fName) := (hst10.cell (p := ⟨w.heap.size, 1, none⟩) sz9_paX).trans bx9_paX_1
        have HS10_vList := Lib.hid (HS9_vList.out.up hst10 (Nat.le_refl _))
        have HS10_vList_3 := Lib.hid (HS9_vList_3.out.up hst10 (Nat.le_refl _))
        have HS10_vList_6 := Lib.hid (HS9_vList_6.out.up hst10 (Nat.le_refl _))
        have HS10_vList_9 := Lib.hid (HS9_vList_9.out.up hst10 (Nat.le_refl _))
        have HB10 := Lib.hid (HB9.out.trans (hst10.mono HB9.out.size))
        clear bx9_paX_0 bx9_paX_1 sz9_paX HS9_vList HS9_vList_3 HS9_vList_6 HS9_vList_9 hb10 hst10 HB9
        go_wp2
        go_ret
        exact ⟨rfl, HB10.out⟩

set_option maxRecDepth 100000 in
theorem lifted (os : Os) (started : os.Started) (H : Type) (enc : TypeId × Value → H) :
    ReturnsInHanded {} Try.checked os 3 .any (Rows.fnExactInstanceIndexSpec.pre6 enc Try.prog Try.f3 Rows.fnExactInstanceIndexRow.domain false) (Rows.fnExactInstanceIndexSpec.post enc Try.prog Try.f3 false true false false) := by
  refine returnsInHanded_of_change_sized (C := Try.checked) own started (by kernel_rfl) Try.func3
    (ChangeSpec.witness6 (enc := enc) (C := Try.checked) false ⟨#[], #[.slice none 0 0, .agg #[.int .i64 0, .string ⟨#[]⟩]], []⟩ 8 (by kernel_rfl) (by kernel_rfl) (by kernel_rfl) (by kernel_rfl)) ?_
  intro W base args ds gs before hval0 hW _ hsz0 _
  have hval : ∀ (j : Nat) t v, Try.f3.params[j]? = some t → args[j]? = some v → Value.okWide Try.prog W .any base t v := hval0
  obtain ⟨p, q, hA0, hV, hps, hfz, hnd⟩ := id hW
  have hA : DataW.TrodAll enc Try.prog W 0 (fun _ => true) true Try.f3.params.toList args.toList ds p := hA0
  have hsz : (DataW.weightsEach Try.prog (Try.f3.params.toList ++ Rows.fnExactInstanceIndexSpec.plain.varTypes Try.prog) (ds ++ gs)).all (· ≤ reachBytes) = true := hsz0
  rw [Try.params3] at hA hval hsz
  obtain ⟨v0, vs0, d0, ds0, p0, q0, hargs, rfl, rfl, h0, r0⟩ := trodAll_cons hA
  obtain ⟨v1, vs1, d1, ds1, p1, q1, rfl, rfl, rfl, h1, r1⟩ := trodAll_cons r0
  obtain ⟨rfl, rfl, rfl⟩ := trodAll_nil r1
  obtain rfl : args = #[v0, v1] := by cases args; simp_all
  obtain ⟨ax0, lx0, cx0, hx0⟩ := okWide_slice Try.underlying22 (hval 0 22 v0 rfl rfl)
  obtain ⟨vList, a_vList, c_vList, rfl, ok_vList, hs_vList⟩ := arg_instanceS hx0 h0
  obtain ⟨vX, rfl, ok_vX⟩ := arg_instance (hval 1 24 v1 rfl rfl) h1
  refine (walk vList a_vList c_vList ok_vList vX ok_vX W hs_vList).mono fun e W' ⟨he, hg⟩ => ?_
  subst he
  exact ⟨_, rfl, law_post laidOut (by kernel_rfl) rfl Try.underlying4 rfl rfl hW hg⟩

theorem said : Rows.FnExactInstanceIndexSaid :=
  OpenClaim.holds_of_wide 3 Try.f3 rfl rfl rfl rfl rfl rfl rfl ⟨rfl, rfl, rfl, rfl, rfl⟩ rfl rfl rfl rfl rfl (by kernel_rfl) Try.func3 (by kernel_rfl)
    (of_decide_eq_true (by kernel_rfl)) (by unfold Func.isWrapper; first | (rw [if_pos (by decide +kernel)]; kernel_rfl) | (rw [if_neg (by decide +kernel)]; exact ⟨rfl, rfl⟩))
    (fun os started H enc _ => lifted os started H enc)
#print axioms said
end Go.Proofs.Ytjjbnbhcfhbfdaa.fnExactInstanceIndex
