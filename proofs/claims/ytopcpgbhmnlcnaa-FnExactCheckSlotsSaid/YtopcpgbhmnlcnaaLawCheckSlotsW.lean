/-
  The law FnExactCheckSlots: for every three lists the program's CheckSlots answers as the model's. No condition.
-/
import Derived.Test.YtopcpgbhmnlcnaaCheckSL
import Derived.Test.YtopcpgbhmnlcnaaTTraceStep
import Derived.Test.YtopcpgbhmnlcnaaTIntA
import Derived.SizedLaws
namespace Go.Proofs.Ytopcpgbhmnlcnaa.fnExactCheckSlots
open Go.ChangeShapes Go.WideShapes Go.ChangeAt Go.RowKit Go.WideMaps Go.WideElems
open Go.ChangeMaps (open_string)
open Go.Lib Go.Deep

set_option maxHeartbeats 6400000 in
set_option maxRecDepth 100000 in
theorem walk (vTrace : List (DTraceStep)) (a_vTrace : Option Addr) (c_vTrace : Nat) (ok_vTrace : (okL DTraceStep.ok) vTrace) (vKeep : List (DInstance)) (a_vKeep : Option Addr) (c_vKeep : Nat) (ok_vKeep : (okL DInstance.ok) vKeep) (vCells : List (Int)) (a_vCells : Option Addr) (c_vCells : Nat) (ok_vCells : (okL okI) vCells) (w : World) (hs_vTrace : Sl 0 w.heap.size w 3 vTrace.length (fun k => DTraceStep.ct (vTrace.getD k default)) a_vTrace) (hs_vKeep : Sl 0 w.heap.size w 2 vKeep.length (fun k => DInstance.ct (vKeep.getD k default)) a_vKeep) (hs_vCells : Sl 0 w.heap.size w 1 vCells.length (fun k => ictI (vCells.getD k default)) a_vCells) :
    Calls Try.prog 4 #[.slice a_vTrace vTrace.length c_vTrace, .slice a_vKeep vKeep.length c_vKeep, .slice a_vCells vCells.length c_vCells] w fun e w' => e = .returned (.bool true) ∧ Below w.heap.size w w' := by
  have HS_vTrace := Lib.hid hs_vTrace
  clear hs_vTrace
  have OK_vTrace := Lib.hid ok_vTrace
  clear ok_vTrace
  have HS_vKeep := Lib.hid hs_vKeep
  clear hs_vKeep
  have OK_vKeep := Lib.hid ok_vKeep
  clear ok_vKeep
  have HS_vCells := Lib.hid hs_vCells
  clear hs_vCells
  have OK_vCells := Lib.hid ok_vCells
  clear ok_vCells
  by_cases hl0 : (1048576 : Int) < ((vCells.length : Nat) : Int)
  · skip
    go_enter Try.func4, Try.ntmps4
    go_wp2
    go_ret
    exact ⟨rfl, (by repeat (first | (with_reducible exact Below.refl _ _) | (refine Below.alloc ?_ (by simp <;> omega) _)))⟩
  · have hq_vCells : (lsz (fun _ => 0)) vCells ≤ 1048576 := by have := lsz_zero vCells; omega
    clear hl0
    have hqn_vCells : vCells.length ≤ 1048576 := by have := lsz_zero vCells; omega
    by_cases h0 : 1048576 < (((lsz DTraceStep.sz) vTrace : Nat) : Int)
    · skip
      have hz := fun (hi : Nat) (w' : World) (hhi : hi ≤ w'.heap.size) (hs_vTrace : Sl 0 hi w' 3 vTrace.length (fun k => DTraceStep.ct (vTrace.getD k default)) a_vTrace) => laws_szTraceStepS (cap := c_vTrace) vTrace 1048576 (by omega) (by omega) OK_vTrace.out w' hhi hs_vTrace
      rw [szR_gt (by omega)] at hz
      have HZ_vTrace := Lib.hid hz
      clear hz
      go_enter Try.func4, Try.ntmps4
      go_wp2_with fail
      refine (HZ_vTrace.out w.heap.size _ (Below.size (by repeat (first | (with_reducible exact Below.refl _ _) | (with_reducible apply Below.drew) | (with_reducible refine below_drewN ?_ _) | (refine Below.setCell ?_ (by simp <;> omega) _) | (refine Below.alloc ?_ (by simp <;> omega) _)) : Below w.heap.size w _)) (HS_vTrace.out.later (by repeat (first | (with_reducible exact Below.refl _ _) | (with_reducible apply Below.drew) | (with_reducible refine below_drewN ?_ _) | (refine Below.setCell ?_ (by simp <;> omega) _) | (refine Below.alloc ?_ (by simp <;> omega) _)) : Below w.heap.size w _) (Nat.le_refl _))).mono ?_
      rintro e w1 ⟨rfl, hb1⟩
      have hst1 : Below w.heap.size w w1 := Below.trans (by repeat (first | (with_reducible exact Below.refl _ _) | (with_reducible apply Below.drew) | (with_reducible refine below_drewN ?_ _) | (refine Below.setCell ?_ (by simp <;> omega) _) | (refine Below.alloc ?_ (by simp <;> omega) _)) : Below w.heap.size w _) (hb1.mono (Below.size (by repeat (first | (with_reducible exact Below.refl _ _) | (with_reducible apply Below.drew) | (with_reducible refine below_drewN ?_ _) | (refine Below.setCell ?_ (by simp <;> omega) _) | (refine Below.alloc ?_ (by simp <;> omega) _)) : Below w.heap.size w _)))
      have HS1_vTrace := Lib.hid (HS_vTrace.out.up hst1 (Nat.le_refl _))
      have HS1_vKeep := Lib.hid (HS_vKeep.out.up hst1 (Nat.le_refl _))
      have HS1_vCells := Lib.hid (HS_vCells.out.up hst1 (Nat.le_refl _))
      have HB1 := Lib.hid ((Below.refl w.heap.size w).trans (hst1.mono (Below.refl w.heap.size w).size))
      clear hb1 hst1
      go_wp2
      go_ret
      exact ⟨rfl, HB1.out⟩
    · skip
      by_cases h1 : (1048576 - ((lsz DTraceStep.sz) vTrace : Nat)) < (((lsz DInstance.sz) vKeep : Nat) : Int)
      · skip
        have hz := fun (hi : Nat) (w' : World) (hhi : hi ≤ w'.heap.size) (hs_vTrace : Sl 0 hi w' 3 vTrace.length (fun k => DTraceStep.ct (vTrace.getD k default)) a_vTrace) => laws_szTraceStepS (cap := c_vTrace) vTrace 1048576 (by omega) (by omega) OK_vTrace.out w' hhi hs_vTrace
        rw [szR_le (by omega)] at hz
        have HZ_vTrace := Lib.hid hz
        clear hz
        have hz := fun (hi : Nat) (w' : World) (hhi : hi ≤ w'.heap.size) (hs_vKeep : Sl 0 hi w' 2 vKeep.length (fun k => DInstance.ct (vKeep.getD k default)) a_vKeep) => laws_szInstanceS (cap := c_vKeep) vKeep (1048576 - ((lsz DTraceStep.sz) vTrace : Nat)) (by omega) (by omega) OK_vKeep.out w' hhi hs_vKeep
        rw [szR_gt (by omega)] at hz
        have HZ_vKeep := Lib.hid hz
        clear hz
        go_enter Try.func4, Try.ntmps4
        go_wp2_with fail
        refine (HZ_vTrace.out w.heap.size _ (Below.size (by repeat (first | (with_reducible exact Below.refl _ _) | (with_reducible apply Below.drew) | (with_reducible refine below_drewN ?_ _) | (refine Below.setCell ?_ (by simp <;> omega) _) | (refine Below.alloc ?_ (by simp <;> omega) _)) : Below w.heap.size w _)) (HS_vTrace.out.later (by repeat (first | (with_reducible exact Below.refl _ _) | (with_reducible apply Below.drew) | (with_reducible refine below_drewN ?_ _) | (refine Below.setCell ?_ (by simp <;> omega) _) | (refine Below.alloc ?_ (by simp <;> omega) _)) : Below w.heap.size w _) (Nat.le_refl _))).mono ?_
        rintro e w1 ⟨rfl, hb1⟩
        have hst1 : Below w.heap.size w w1 := Below.trans (by repeat (first | (with_reducible exact Below.refl _ _) | (with_reducible apply Below.drew) | (with_reducible refine below_drewN ?_ _) | (refine Below.setCell ?_ (by simp <;> omega) _) | (refine Below.alloc ?_ (by simp <;> omega) _)) : Below w.heap.size w _) (hb1.mono (Below.size (by repeat (first | (with_reducible exact Below.refl _ _) | (with_reducible apply Below.drew) | (with_reducible refine below_drewN ?_ _) | (refine Below.setCell ?_ (by simp <;> omega) _) | (refine Below.alloc ?_ (by simp <;> omega) _)) : Below w.heap.size w _)))
        have HS1_vTrace := Lib.hid (HS_vTrace.out.up hst1 (Nat.le_refl _))
        have HS1_vKeep := Lib.hid (HS_vKeep.out.up hst1 (Nat.le_refl _))
        have HS1_vCells := Lib.hid (HS_vCells.out.up hst1 (Nat.le_refl _))
        have HB1 := Lib.hid ((Below.refl w.heap.size w).trans (hst1.mono (Below.refl w.heap.size w).size))
        clear hb1 hst1
        go_wp2_with fail
        refine (HZ_vKeep.out w1.heap.size _ (Below.size (by repeat (first | (with_reducible exact Below.refl _ _) | (with_reducible apply Below.drew) | (with_reducible refine below_drewN ?_ _) | (refine Below.setCell ?_ (by simp <;> omega) _) | (refine Below.alloc ?_ (by simp <;> omega) _)) : Below w1.heap.size w1 _)) (HS1_vKeep.out.later (by repeat (first | (with_reducible exact Below.refl _ _) | (with_reducible apply Below.drew) | (with_reducible refine below_drewN ?_ _) | (refine Below.setCell ?_ (by simp <;> omega) _) | (refine Below.alloc ?_ (by simp <;> omega) _)) : Below w1.heap.size w1 _) (Nat.le_refl _))).mono ?_
        rintro e w2 ⟨rfl, hb2⟩
        have hst2 : Below w1.heap.size w1 w2 := Below.trans (by repeat (first | (with_reducible exact Below.refl _ _) | (with_reducible apply Below.drew) | (with_reducible refine below_drewN ?_ _) | (refine Below.setCell ?_ (by simp <;> omega) _) | (refine Below.alloc ?_ (by simp <;> omega) _)) : Below w1.heap.size w1 _) (hb2.mono (Below.size (by repeat (first | (with_reducible exact Below.refl _ _) | (with_reducible apply Below.drew) | (with_reducible refine below_drewN ?_ _) | (refine Below.setCell ?_ (by simp <;> omega) _) | (refine Below.alloc ?_ (by simp <;> omega) _)) : Below w1.heap.size w1 _)))
        have HS2_vTrace := Lib.hid (HS1_vTrace.out.up hst2 (Nat.le_refl _))
        have HS2_vKeep := Lib.hid (HS1_vKeep.out.up hst2 (Nat.le_refl _))
        have HS2_vCells := Lib.hid (HS1_vCells.out.up hst2 (Nat.le_refl _))
        have HB2 := Lib.hid (HB1.out.trans (hst2.mono HB1.out.size))
        clear HS1_vTrace HS1_vKeep HS1_vCells hb2 hst2 HB1
        go_wp2
        go_ret
        exact ⟨rfl, HB2.out⟩
      · skip
        have hz := fun (hi : Nat) (w' : World) (hhi : hi ≤ w'.heap.size) (hs_vTrace : Sl 0 hi w' 3 vTrace.length (fun k => DTraceStep.ct (vTrace.getD k default)) a_vTrace) => laws_szTraceStepS (cap := c_vTrace) vTrace 1048576 (by omega) (by omega) OK_vTrace.out w' hhi hs_vTrace
        rw [szR_le (by omega)] at hz
        have HZ_vTrace := Lib.hid hz
        clear hz
        have hz := fun (hi : Nat) (w' : World) (hhi : hi ≤ w'.heap.size) (hs_vKeep : Sl 0 hi w' 2 vKeep.length (fun k => DInstance.ct (vKeep.getD k default)) a_vKeep) => laws_szInstanceS (cap := c_vKeep) vKeep (1048576 - ((lsz DTraceStep.sz) vTrace : Nat)) (by omega) (by omega) OK_vKeep.out w' hhi hs_vKeep
        rw [szR_le (by omega)] at hz
        have HZ_vKeep := Lib.hid hz
        clear hz
        have hq_vTrace : (lsz DTraceStep.sz) vTrace ≤ 1048576 := by omega
        have hq_vKeep : (lsz DInstance.sz) vKeep ≤ 1048576 := by omega
        go_enter Try.func4, Try.ntmps4
        go_wp2_with fail
        refine (HZ_vTrace.out w.heap.size _ (Below.size (by repeat (first | (with_reducible exact Below.refl _ _) | (with_reducible apply Below.drew) | (with_reducible refine below_drewN ?_ _) | (refine Below.setCell ?_ (by simp <;> omega) _) | (refine Below.alloc ?_ (by simp <;> omega) _)) : Below w.heap.size w _)) (HS_vTrace.out.later (by repeat (first | (with_reducible exact Below.refl _ _) | (with_reducible apply Below.drew) | (with_reducible refine below_drewN ?_ _) | (refine Below.setCell ?_ (by simp <;> omega) _) | (refine Below.alloc ?_ (by simp <;> omega) _)) : Below w.heap.size w _) (Nat.le_refl _))).mono ?_
        rintro e w1 ⟨rfl, hb1⟩
        have hst1 : Below w.heap.size w w1 := Below.trans (by repeat (first | (with_reducible exact Below.refl _ _) | (with_reducible apply Below.drew) | (with_reducible refine below_drewN ?_ _) | (refine Below.setCell ?_ (by simp <;> omega) _) | (refine Below.alloc ?_ (by simp <;> omega) _)) : Below w.heap.size w _) (hb1.mono (Below.size (by repeat (first | (with_reducible exact Below.refl _ _) | (with_reducible apply Below.drew) | (with_reducible refine below_drewN ?_ _) | (refine Below.setCell ?_ (by simp <;> omega) _) | (refine Below.alloc ?_ (by simp <;> omega) _)) : Below w.heap.size w _)))
        have HS1_vTrace := Lib.hid (HS_vTrace.out.up hst1 (Nat.le_refl _))
        have HS1_vKeep := Lib.hid (HS_vKeep.out.up hst1 (Nat.le_refl _))
        have HS1_vCells := Lib.hid (HS_vCells.out.up hst1 (Nat.le_refl _))
        have HB1 := Lib.hid ((Below.refl w.heap.size w).trans (hst1.mono (Below.refl w.heap.size w).size))
        clear hb1 hst1
        go_wp2_with fail
        refine (HZ_vKeep.out w1.heap.size _ (Below.size (by repeat (first | (with_reducible exact Below.refl _ _) | (with_reducible apply Below.drew) | (with_reducible refine below_drewN ?_ _) | (refine Below.setCell ?_ (by simp <;> omega) _) | (refine Below.alloc ?_ (by simp <;> omega) _)) : Below w1.heap.size w1 _)) (HS1_vKeep.out.later (by repeat (first | (with_reducible exact Below.refl _ _) | (with_reducible apply Below.drew) | (with_reducible refine below_drewN ?_ _) | (refine Below.setCell ?_ (by simp <;> omega) _) | (refine Below.alloc ?_ (by simp <;> omega) _)) : Below w1.heap.size w1 _) (Nat.le_refl _))).mono ?_
        rintro e w2 ⟨rfl, hb2⟩
        have hst2 : Below w1.heap.size w1 w2 := Below.trans (by repeat (first | (with_reducible exact Below.refl _ _) | (with_reducible apply Below.drew) | (with_reducible refine below_drewN ?_ _) | (refine Below.setCell ?_ (by simp <;> omega) _) | (refine Below.alloc ?_ (by simp <;> omega) _)) : Below w1.heap.size w1 _) (hb2.mono (Below.size (by repeat (first | (with_reducible exact Below.refl _ _) | (with_reducible apply Below.drew) | (with_reducible refine below_drewN ?_ _) | (refine Below.setCell ?_ (by simp <;> omega) _) | (refine Below.alloc ?_ (by simp <;> omega) _)) : Below w1.heap.size w1 _)))
        have HS2_vTrace := Lib.hid (HS1_vTrace.out.up hst2 (Nat.le_refl _))
        have HS2_vKeep := Lib.hid (HS1_vKeep.out.up hst2 (Nat.le_refl _))
        have HS2_vCells := Lib.hid (HS1_vCells.out.up hst2 (Nat.le_refl _))
        have HB2 := Lib.hid (HB1.out.trans (hst2.mono HB1.out.size))
        clear HS1_vTrace HS1_vKeep HS1_vCells hb2 hst2 HB1
        go_wp2_with fail
        refine (laws_toTraceStepS (cap := c_vTrace) vTrace hq_vTrace _ (Below.size (by repeat (first | (with_reducible exact Below.refl _ _) | (with_reducible apply Below.drew) | (with_reducible refine below_drewN ?_ _) | (refine Below.setCell ?_ (by simp <;> omega) _) | (refine Below.alloc ?_ (by simp <;> omega) _)) : Below w2.heap.size w2 _)) (HS2_vTrace.out.later (by repeat (first | (with_reducible exact Below.refl _ _) | (with_reducible apply Below.drew) | (with_reducible refine below_drewN ?_ _) | (refine Below.setCell ?_ (by simp <;> omega) _) | (refine Below.alloc ?_ (by simp <;> omega) _)) : Below w2.heap.size w2 _) (Nat.le_refl _))).mono ?_
        rintro e w3 ⟨a_vTrace_3, c_vTrace_3, rfl, ho3, hb3⟩
        have hst3 : Below w2.heap.size w2 w3 := Below.trans (by repeat (first | (with_reducible exact Below.refl _ _) | (with_reducible apply Below.drew) | (with_reducible refine below_drewN ?_ _) | (refine Below.setCell ?_ (by simp <;> omega) _) | (refine Below.alloc ?_ (by simp <;> omega) _)) : Below w2.heap.size w2 _) (hb3.mono (Below.size (by repeat (first | (with_reducible exact Below.refl _ _) | (with_reducible apply Below.drew) | (with_reducible refine below_drewN ?_ _) | (refine Below.setCell ?_ (by simp <;> omega) _) | (refine Below.alloc ?_ (by simp <;> omega) _)) : Below w2.heap.size w2 _)))
        have HS3_vTrace := Lib.hid (HS2_vTrace.out.up hst3 (Nat.le_refl _))
        have HS3_vKeep := Lib.hid (HS2_vKeep.out.up hst3 (Nat.le_refl _))
        have HS3_vCells := Lib.hid (HS2_vCells.out.up hst3 (Nat.le_refl _))
        have HS3_vTrace_3 := Lib.hid (show Sl 0 w3.heap.size w3 3 vTrace.length (fun k => DTraceStep.ct (vTrace.getD k default)) a_vTrace_3 from Sl.of (ho3.lies (lo := 0) (hi := w3.heap.size) (fun y hy => ⟨Nat.zero_le _, hy.2⟩)))
        have HB3 := Lib.hid (HB2.out.trans (hst3.mono HB2.out.size))
        clear HS2_vTrace HS2_vKeep HS2_vCells ho3 hb3 hst3 HB2
        go_wp2_with fail
        refine (laws_toInstanceS (cap := c_vKeep) vKeep hq_vKeep _ (Below.size (by repeat (first | (with_reducible exact Below.refl _ _) | (with_reducible apply Below.drew) | (with_reducible refine below_drewN ?_ _) | (refine Below.setCell ?_ (by simp <;> omega) _) | (refine Below.alloc ?_ (by simp <;> omega) _)) : Below w3.heap.size w3 _)) (HS3_vKeep.out.later (by repeat (first | (with_reducible exact Below.refl _ _) | (with_reducible apply Below.drew) | (with_reducible refine below_drewN ?_ _) | (refine Below.setCell ?_ (by simp <;> omega) _) | (refine Below.alloc ?_ (by simp <;> omega) _)) : Below w3.heap.size w3 _) (Nat.le_refl _))).mono ?_
        rintro e w4 ⟨a_vKeep_4, c_vKeep_4, rfl, ho4, hb4⟩
        have hst4 : Below w3.heap.size w3 w4 := Below.trans (by repeat (first | (with_reducible exact Below.refl _ _) | (with_reducible apply Below.drew) | (with_reducible refine below_drewN ?_ _) | (refine Below.setCell ?_ (by simp <;> omega) _) | (refine Below.alloc ?_ (by simp <;> omega) _)) : Below w3.heap.size w3 _) (hb4.mono (Below.size (by repeat (first | (with_reducible exact Below.refl _ _) | (with_reducible apply Below.drew) | (with_reducible refine below_drewN ?_ _) | (refine Below.setCell ?_ (by simp <;> omega) _) | (refine Below.alloc ?_ (by simp <;> omega) _)) : Below w3.heap.size w3 _)))
        have HS4_vTrace := Lib.hid (HS3_vTrace.out.up hst4 (Nat.le_refl _))
        have HS4_vKeep := Lib.hid (HS3_vKeep.out.up hst4 (Nat.le_refl _))
        have HS4_vCells := Lib.hid (HS3_vCells.out.up hst4 (Nat.le_refl _))
        have HS4_vTrace_3 := Lib.hid (HS3_vTrace_3.out.up hst4 (Nat.le_refl _))
        have HS4_vKeep_4 := Lib.hid (show Sl 0 w4.heap.size w4 2 vKeep.length (fun k => DInstance.ct (vKeep.getD k default)) a_vKeep_4 from Sl.of (ho4.lies (lo := 0) (hi := w4.heap.size) (fun y hy => ⟨Nat.zero_le _, hy.2⟩)))
        have HB4 := Lib.hid (HB3.out.trans (hst4.mono HB3.out.size))
        clear HS3_vTrace HS3_vKeep HS3_vCells HS3_vTrace_3 ho4 hb4 hst4 HB3
        go_wp2_with fail
        refine (laws_toIntS (cap := c_vCells) vCells hq_vCells _ (Below.size (by repeat (first | (with_reducible exact Below.refl _ _) | (with_reducible apply Below.drew) | (with_reducible refine below_drewN ?_ _) | (refine Below.setCell ?_ (by simp <;> omega) _) | (refine Below.alloc ?_ (by simp <;> omega) _)) : Below w4.heap.size w4 _)) (HS4_vCells.out.later (by repeat (first | (with_reducible exact Below.refl _ _) | (with_reducible apply Below.drew) | (with_reducible refine below_drewN ?_ _) | (refine Below.setCell ?_ (by simp <;> omega) _) | (refine Below.alloc ?_ (by simp <;> omega) _)) : Below w4.heap.size w4 _) (Nat.le_refl _))).mono ?_
        rintro e w5 ⟨a_vCells_5, c_vCells_5, rfl, ho5, hb5⟩
        have hst5 : Below w4.heap.size w4 w5 := Below.trans (by repeat (first | (with_reducible exact Below.refl _ _) | (with_reducible apply Below.drew) | (with_reducible refine below_drewN ?_ _) | (refine Below.setCell ?_ (by simp <;> omega) _) | (refine Below.alloc ?_ (by simp <;> omega) _)) : Below w4.heap.size w4 _) (hb5.mono (Below.size (by repeat (first | (with_reducible exact Below.refl _ _) | (with_reducible apply Below.drew) | (with_reducible refine below_drewN ?_ _) | (refine Below.setCell ?_ (by simp <;> omega) _) | (refine Below.alloc ?_ (by simp <;> omega) _)) : Below w4.heap.size w4 _)))
        have HS5_vTrace := Lib.hid (HS4_vTrace.out.up hst5 (Nat.le_refl _))
        have HS5_vKeep := Lib.hid (HS4_vKeep.out.up hst5 (Nat.le_refl _))
        have HS5_vCells := Lib.hid (HS4_vCells.out.up hst5 (Nat.le_refl _))
        have HS5_vTrace_3 := Lib.hid (HS4_vTrace_3.out.up hst5 (Nat.le_refl _))
        have HS5_vKeep_4 := Lib.hid (HS4_vKeep_4.out.up hst5 (Nat.le_refl _))
        have HS5_vCells_5 := Lib.hid (show Sl 0 w5.heap.size w5 1 vCells.length (fun k => ictI (vCells.getD k default)) a_vCells_5 from Sl.of (ho5.lies (lo := 0) (hi := w5.heap.size) (fun y hy => ⟨Nat.zero_le _, hy.2⟩)))
        have HB5 := Lib.hid (HB4.out.trans (hst5.mono HB4.out.size))
        clear HS4_vTrace HS4_vKeep HS4_vCells HS4_vTrace_3 HS4_vKeep_4 ho5 hb5 hst5 HB4
        go_wp2_with fail
        refine (spec_CheckSlots (c0_0 := c_vTrace_3) (c1_0 := c_vKeep_4) (c2_0 := c_vCells_5) vTrace OK_vTrace.out hq_vTrace vKeep OK_vKeep.out hq_vKeep vCells OK_vCells.out hq_vCells _ (Below.size (by repeat (first | (with_reducible exact Below.refl _ _) | (with_reducible apply Below.drew) | (with_reducible refine below_drewN ?_ _) | (refine Below.setCell ?_ (by simp <;> omega) _) | (refine Below.alloc ?_ (by simp <;> omega) _)) : Below w5.heap.size w5 _)) (HS5_vTrace_3.out.later (by repeat (first | (with_reducible exact Below.refl _ _) | (with_reducible apply Below.drew) | (with_reducible refine below_drewN ?_ _) | (refine Below.setCell ?_ (by simp <;> omega) _) | (refine Below.alloc ?_ (by simp <;> omega) _)) : Below w5.heap.size w5 _) (Nat.le_refl _)) (HS5_vKeep_4.out.later (by repeat (first | (with_reducible exact Below.refl _ _) | (with_reducible apply Below.drew) | (with_reducible refine below_drewN ?_ _) | (refine Below.setCell ?_ (by simp <;> omega) _) | (refine Below.alloc ?_ (by simp <;> omega) _)) : Below w5.heap.size w5 _) (Nat.le_refl _)) (HS5_vCells_5.out.later (by repeat (first | (with_reducible exact Below.refl _ _) | (with_reducible apply Below.drew) | (with_reducible refine below_drewN ?_ _) | (refine Below.setCell ?_ (by simp <;> omega) _) | (refine Below.alloc ?_ (by simp <;> omega) _)) : Below w5.heap.size w5 _) (Nat.le_refl _))).mono ?_
        rintro e w6 ⟨rfl, hb6⟩
        have hst6 : Below w5.heap.size w5 w6 := Below.trans (by repeat (first | (with_reducible exact Below.refl _ _) | (with_reducible apply Below.drew) | (with_reducible refine below_drewN ?_ _) | (refine Below.setCell ?_ (by simp <;> omega) _) | (refine Below.alloc ?_ (by simp <;> omega) _)) : Below w5.heap.size w5 _) (hb6.mono (Below.size (by repeat (first | (with_reducible exact Below.refl _ _) | (with_reducible apply Below.drew) | (with_reducible refine below_drewN ?_ _) | (refine Below.setCell ?_ (by simp <;> omega) _) | (refine Below.alloc ?_ (by simp <;> omega) _)) : Below w5.heap.size w5 _)))
        have HS6_vTrace := Lib.hid (HS5_vTrace.out.up hst6 (Nat.le_refl _))
        have HS6_vKeep := Lib.hid (HS5_vKeep.out.up hst6 (Nat.le_refl _))
        have HS6_vCells := Lib.hid (HS5_vCells.out.up hst6 (Nat.le_refl _))
        have HS6_vTrace_3 := Lib.hid (HS5_vTrace_3.out.up hst6 (Nat.le_refl _))
        have HS6_vKeep_4 := Lib.hid (HS5_vKeep_4.out.up hst6 (Nat.le_refl _))
        have HS6_vCells_5 := Lib.hid (HS5_vCells_5.out.up hst6 (Nat.le_refl _))
        have HB6 := Lib.hid (HB5.out.trans (hst6.mono HB5.out.size))
        clear HS5_vTrace HS5_vKeep HS5_vCells HS5_vTrace_3 HS5_vKeep_4 HS5_vCells_5 hb6 hst6 HB5
        go_wp2_with fail
        refine (laws_toTraceStepS (cap := c_vTrace) vTrace hq_vTrace _ (Below.size (by repeat (first | (with_reducible exact Below.refl _ _) | (with_reducible apply Below.drew) | (with_reducible refine below_drewN ?_ _) | (refine Below.setCell ?_ (by simp <;> omega) _) | (refine Below.alloc ?_ (by simp <;> omega) _)) : Below w6.heap.size w6 _)) (HS6_vTrace.out.later (by repeat (first | (with_reducible exact Below.refl _ _) | (with_reducible apply Below.drew) | (with_reducible refine below_drewN ?_ _) | (refine Below.setCell ?_ (by simp <;> omega) _) | (refine Below.alloc ?_ (by simp <;> omega) _)) : Below w6.heap.size w6 _) (Nat.le_refl _))).mono ?_
        rintro e w7 ⟨a_vTrace_7, c_vTrace_7, rfl, ho7, hb7⟩
        have hst7 : Below w6.heap.size w6 w7 := Below.trans (by repeat (first | (with_reducible exact Below.refl _ _) | (with_reducible apply Below.drew) | (with_reducible refine below_drewN ?_ _) | (refine Below.setCell ?_ (by simp <;> omega) _) | (refine Below.alloc ?_ (by simp <;> omega) _)) : Below w6.heap.size w6 _) (hb7.mono (Below.size (by repeat (first | (with_reducible exact Below.refl _ _) | (with_reducible apply Below.drew) | (with_reducible refine below_drewN ?_ _) | (refine Below.setCell ?_ (by simp <;> omega) _) | (refine Below.alloc ?_ (by simp <;> omega) _)) : Below w6.heap.size w6 _)))
        have HS7_vTrace := Lib.hid (HS6_vTrace.out.up hst7 (Nat.le_refl _))
        have HS7_vKeep := Lib.hid (HS6_vKeep.out.up hst7 (Nat.le_refl _))
        have HS7_vCells := Lib.hid (HS6_vCells.out.up hst7 (Nat.le_refl _))
        have HS7_vTrace_3 := Lib.hid (HS6_vTrace_3.out.up hst7 (Nat.le_refl _))
        have HS7_vKeep_4 := Lib.hid (HS6_vKeep_4.out.up hst7 (Nat.le_refl _))
        have HS7_vCells_5 := Lib.hid (HS6_vCells_5.out.up hst7 (Nat.le_refl _))
        have HS7_vTrace_7 := Lib.hid (show Sl 0 w7.heap.size w7 3 vTrace.length (fun k => DTraceStep.ct (vTrace.getD k default)) a_vTrace_7 from Sl.of (ho7.lies (lo := 0) (hi := w7.heap.size) (fun y hy => ⟨Nat.zero_le _, hy.2⟩)))
        have HB7 := Lib.hid (HB6.out.trans (hst7.mono HB6.out.size))
        clear HS6_vTrace HS6_vKeep HS6_vCells HS6_vTrace_3 HS6_vKeep_4 HS6_vCells_5 ho7 hb7 hst7 HB6
        go_wp2_with fail
        refine (laws_toInstanceS (cap := c_vKeep) vKeep hq_vKeep _ (Below.size (by repeat (first | (with_reducible exact Below.refl _ _) | (with_reducible apply Below.drew) | (with_reducible refine below_drewN ?_ _) | (refine Below.setCell ?_ (by simp <;> omega) _) | (refine Below.alloc ?_ (by simp <;> omega) _)) : Below w7.heap.size w7 _)) (HS7_vKeep.out.later (by repeat (first | (with_reducible exact Below.refl _ _) | (with_reducible apply Below.drew) | (with_reducible refine below_drewN ?_ _) | (refine Below.setCell ?_ (by simp <;> omega) _) | (refine Below.alloc ?_ (by simp <;> omega) _)) : Below w7.heap.size w7 _) (Nat.le_refl _))).mono ?_
        rintro e w8 ⟨a_vKeep_8, c_vKeep_8, rfl, ho8, hb8⟩
        have hst8 : Below w7.heap.size w7 w8 := Below.trans (by repeat (first | (with_reducible exact Below.refl _ _) | (with_reducible apply Below.drew) | (with_reducible refine below_drewN ?_ _) | (refine Below.setCell ?_ (by simp <;> omega) _) | (refine Below.alloc ?_ (by simp <;> omega) _)) : Below w7.heap.size w7 _) (hb8.mono (Below.size (by repeat (first | (with_reducible exact Below.refl _ _) | (with_reducible apply Below.drew) | (with_reducible refine below_drewN ?_ _) | (refine Below.setCell ?_ (by simp <;> omega) _) | (refine Below.alloc ?_ (by simp <;> omega) _)) : Below w7.heap.size w7 _)))
        have HS8_vTrace := Lib.hid (HS7_vTrace.out.up hst8 (Nat.le_refl _))
        have HS8_vKeep := Lib.hid (HS7_vKeep.out.up hst8 (Nat.le_refl _))
        have HS8_vCells := Lib.hid (HS7_vCells.out.up hst8 (Nat.le_refl _))
        have HS8_vTrace_3 := Lib.hid (HS7_vTrace_3.out.up hst8 (Nat.le_refl _))
        have HS8_vKeep_4 := Lib.hid (HS7_vKeep_4.out.up hst8 (Nat.le_refl _))
        have HS8_vCells_5 := Lib.hid (HS7_vCells_5.out.up hst8 (Nat.le_refl _))
        have HS8_vTrace_7 := Lib.hid (HS7_vTrace_7.out.up hst8 (Nat.le_refl _))
        have HS8_vKeep_8 := Lib.hid (show Sl 0 w8.heap.size w8 2 vKeep.length (fun k => DInstance.ct (vKeep.getD k default)) a_vKeep_8 from Sl.of (ho8.lies (lo := 0) (hi := w8.heap.size) (fun y hy => ⟨Nat.zero_le _, hy.2⟩)))
        have HB8 := Lib.hid (HB7.out.trans (hst8.mono HB7.out.size))
        clear HS7_vTrace HS7_vKeep HS7_vCells HS7_vTrace_3 HS7_vKeep_4 HS7_vCells_5 HS7_vTrace_7 ho8 hb8 hst8 HB7
        go_wp2_with fail
        refine (laws_toIntS (cap := c_vCells) vCells hq_vCells _ (Below.size (by repeat (first | (with_reducible exact Below.refl _ _) | (with_reducible apply Below.drew) | (with_reducible refine below_drewN ?_ _) | (refine Below.setCell ?_ (by simp <;> omega) _) | (refine Below.alloc ?_ (by simp <;> omega) _)) : Below w8.heap.size w8 _)) (HS8_vCells.out.later (by repeat (first | (with_reducible exact Below.refl _ _) | (with_reducible apply Below.drew) | (with_reducible refine below_drewN ?_ _) | (refine Below.setCell ?_ (by simp <;> omega) _) | (refine Below.alloc ?_ (by simp <;> omega) _)) : Below w8.heap.size w8 _) (Nat.le_refl _))).mono ?_
        rintro e w9 ⟨a_vCells_9, c_vCells_9, rfl, ho9, hb9⟩
        have hst9 : Below w8.heap.size w8 w9 := Below.trans (by repeat (first | (with_reducible exact Below.refl _ _) | (with_reducible apply Below.drew) | (with_reducible refine below_drewN ?_ _) | (refine Below.setCell ?_ (by simp <;> omega) _) | (refine Below.alloc ?_ (by simp <;> omega) _)) : Below w8.heap.size w8 _) (hb9.mono (Below.size (by repeat (first | (with_reducible exact Below.refl _ _) | (with_reducible apply Below.drew) | (with_reducible refine below_drewN ?_ _) | (refine Below.setCell ?_ (by simp <;> omega) _) | (refine Below.alloc ?_ (by simp <;> omega) _)) : Below w8.heap.size w8 _)))
        have HS9_vTrace := Lib.hid (HS8_vTrace.out.up hst9 (Nat.le_refl _))
        have HS9_vKeep := Lib.hid (HS8_vKeep.out.up hst9 (Nat.le_refl _))
        have HS9_vCells := Lib.hid (HS8_vCells.out.up hst9 (Nat.le_refl _))
        have HS9_vTrace_3 := Lib.hid (HS8_vTrace_3.out.up hst9 (Nat.le_refl _))
        have HS9_vKeep_4 := Lib.hid (HS8_vKeep_4.out.up hst9 (Nat.le_refl _))
        have HS9_vCells_5 := Lib.hid (HS8_vCells_5.out.up hst9 (Nat.le_refl _))
        have HS9_vTrace_7 := Lib.hid (HS8_vTrace_7.out.up hst9 (Nat.le_refl _))
        have HS9_vKeep_8 := Lib.hid (HS8_vKeep_8.out.up hst9 (Nat.le_refl _))
        have HS9_vCells_9 := Lib.hid (show Sl 0 w9.heap.size w9 1 vCells.length (fun k => ictI (vCells.getD k default)) a_vCells_9 from Sl.of (ho9.lies (lo := 0) (hi := w9.heap.size) (fun y hy => ⟨Nat.zero_le _, hy.2⟩)))
        have HB9 := Lib.hid (HB8.out.trans (hst9.mono HB8.out.size))
        clear HS8_vTrace HS8_vKeep HS8_vCells HS8_vTrace_3 HS8_vKeep_4 HS8_vCells_5 HS8_vTrace_7 HS8_vKeep_8 ho9 hb9 hst9 HB8
        go_wp2_with fail
        refine (impl_CheckSlots (c0_0 := c_vTrace_7) (c1_0 := c_vKeep_8) (c2_0 := c_vCells_9) vTrace OK_vTrace.out hq_vTrace vKeep OK_vKeep.out hq_vKeep vCells OK_vCells.out hq_vCells _ (Below.size (by repeat (first | (with_reducible exact Below.refl _ _) | (with_reducible apply Below.drew) | (with_reducible refine below_drewN ?_ _) | (refine Below.setCell ?_ (by simp <;> omega) _) | (refine Below.alloc ?_ (by simp <;> omega) _)) : Below w9.heap.size w9 _)) (HS9_vTrace_7.out.later (by repeat (first | (with_reducible exact Below.refl _ _) | (with_reducible apply Below.drew) | (with_reducible refine below_drewN ?_ _) | (refine Below.setCell ?_ (by simp <;> omega) _) | (refine Below.alloc ?_ (by simp <;> omega) _)) : Below w9.heap.size w9 _) (Nat.le_refl _)) (HS9_vKeep_8.out.later (by repeat (first | (with_reducible exact Below.refl _ _) | (with_reducible apply Below.drew) | (with_reducible refine below_drewN ?_ _) | (refine Below.setCell ?_ (by simp <;> omega) _) | (refine Below.alloc ?_ (by simp <;> omega) _)) : Below w9.heap.size w9 _) (Nat.le_refl _)) (HS9_vCells_9.out.later (by repeat (first | (with_reducible exact Below.refl _ _) | (with_reducible apply Below.drew) | (with_reducible refine below_drewN ?_ _) | (refine Below.setCell ?_ (by simp <;> omega) _) | (refine Below.alloc ?_ (by simp <;> omega) _)) : Below w9.heap.size w9 _) (Nat.le_refl _))).mono ?_
        rintro e w10 ⟨rfl, hb10⟩
        have hst10 : Below w9.heap.size w9 w10 := Below.trans (by repeat (first | (with_reducible exact Below.refl _ _) | (with_reducible apply Below.drew) | (with_reducible refine below_drewN ?_ _) | (refine Below.setCell ?_ (by simp <;> omega) _) | (refine Below.alloc ?_ (by simp <;> omega) _)) : Below w9.heap.size w9 _) (hb10.mono (Below.size (by repeat (first | (with_reducible exact Below.refl _ _) | (with_reducible apply Below.drew) | (with_reducible refine below_drewN ?_ _) | (refine Below.setCell ?_ (by simp <;> omega) _) | (refine Below.alloc ?_ (by simp <;> omega) _)) : Below w9.heap.size w9 _)))
        have HS10_vTrace := Lib.hid (HS9_vTrace.out.up hst10 (Nat.le_refl _))
        have HS10_vKeep := Lib.hid (HS9_vKeep.out.up hst10 (Nat.le_refl _))
        have HS10_vCells := Lib.hid (HS9_vCells.out.up hst10 (Nat.le_refl _))
        have HS10_vTrace_3 := Lib.hid (HS9_vTrace_3.out.up hst10 (Nat.le_refl _))
        have HS10_vKeep_4 := Lib.hid (HS9_vKeep_4.out.up hst10 (Nat.le_refl _))
        have HS10_vCells_5 := Lib.hid (HS9_vCells_5.out.up hst10 (Nat.le_refl _))
        have HS10_vTrace_7 := Lib.hid (HS9_vTrace_7.out.up hst10 (Nat.le_refl _))
        have HS10_vKeep_8 := Lib.hid (HS9_vKeep_8.out.up hst10 (Nat.le_refl _))
        have HS10_vCells_9 := Lib.hid (HS9_vCells_9.out.up hst10 (Nat.le_refl _))
        have HB10 := Lib.hid (HB9.out.trans (hst10.mono HB9.out.size))
        clear HS9_vTrace HS9_vKeep HS9_vCells HS9_vTrace_3 HS9_vKeep_4 HS9_vCells_5 HS9_vTrace_7 HS9_vKeep_8 HS9_vCells_9 hb10 hst10 HB9
        go_wp2_with fail
        refine (laws_toTraceStepS (cap := c_vTrace) vTrace hq_vTrace _ (Below.size (by repeat (first | (with_reducible exact Below.refl _ _) | (with_reducible apply Below.drew) | (with_reducible refine below_drewN ?_ _) | (refine Below.setCell ?_ (by simp <;> omega) _) | (refine Below.alloc ?_ (by simp <;> omega) _)) : Below w10.heap.size w10 _)) (HS10_vTrace.out.later (by repeat (first | (with_reducible exact Below.refl _ _) | (with_reducible apply Below.drew) | (with_reducible refine below_drewN ?_ _) | (refine Below.setCell ?_ (by simp <;> omega) _) | (refine Below.alloc ?_ (by simp <;> omega) _)) : Below w10.heap.size w10 _) (Nat.le_refl _))).mono ?_
        rintro e w11 ⟨a_vTrace_11, c_vTrace_11, rfl, ho11, hb11⟩
        have hst11 : Below w10.heap.size w10 w11 := Below.trans (by repeat (first | (with_reducible exact Below.refl _ _) | (with_reducible apply Below.drew) | (with_reducible refine below_drewN ?_ _) | (refine Below.setCell ?_ (by simp <;> omega) _) | (refine Below.alloc ?_ (by simp <;> omega) _)) : Below w10.heap.size w10 _) (hb11.mono (Below.size (by repeat (first | (with_reducible exact Below.refl _ _) | (with_reducible apply Below.drew) | (with_reducible refine below_drewN ?_ _) | (refine Below.setCell ?_ (by simp <;> omega) _) | (refine Below.alloc ?_ (by simp <;> omega) _)) : Below w10.heap.size w10 _)))
        have HS11_vTrace := Lib.hid (HS10_vTrace.out.up hst11 (Nat.le_refl _))
        have HS11_vKeep := Lib.hid (HS10_vKeep.out.up hst11 (Nat.le_refl _))
        have HS11_vCells := Lib.hid (HS10_vCells.out.up hst11 (Nat.le_refl _))
        have HS11_vTrace_3 := Lib.hid (HS10_vTrace_3.out.up hst11 (Nat.le_refl _))
        have HS11_vKeep_4 := Lib.hid (HS10_vKeep_4.out.up hst11 (Nat.le_refl _))
        have HS11_vCells_5 := Lib.hid (HS10_vCells_5.out.up hst11 (Nat.le_refl _))
        have HS11_vTrace_7 := Lib.hid (HS10_vTrace_7.out.up hst11 (Nat.le_refl _))
        have HS11_vKeep_8 := Lib.hid (HS10_vKeep_8.out.up hst11 (Nat.le_refl _))
        have HS11_vCells_9 := Lib.hid (HS10_vCells_9.out.up hst11 (Nat.le_refl _))
        have HS11_vTrace_11 := Lib.hid (show Sl 0 w11.heap.size w11 3 vTrace.length (fun k => DTraceStep.ct (vTrace.getD k default)) a_vTrace_11 from Sl.of (ho11.lies (lo := 0) (hi := w11.heap.size) (fun y hy => ⟨Nat.zero_le _, hy.2⟩)))
        have HB11 := Lib.hid (HB10.out.trans (hst11.mono HB10.out.size))
        clear HS10_vTrace HS10_vKeep HS10_vCells HS10_vTrace_3 HS10_vKeep_4 HS10_vCells_5 HS10_vTrace_7 HS10_vKeep_8 HS10_vCells_9 ho11 hb11 hst11 HB10
        go_wp2_with fail
        refine (laws_eqTraceStepS (cap := c_vTrace_7) (cap2 := c_vTrace_11) vTrace hq_vTrace _ (Below.size (by repeat (first | (with_reducible exact Below.refl _ _) | (with_reducible apply Below.drew) | (with_reducible refine below_drewN ?_ _) | (refine Below.setCell ?_ (by simp <;> omega) _) | (refine Below.alloc ?_ (by simp <;> omega) _)) : Below w11.heap.size w11 _)) (Below.size (by repeat (first | (with_reducible exact Below.refl _ _) | (with_reducible apply Below.drew) | (with_reducible refine below_drewN ?_ _) | (refine Below.setCell ?_ (by simp <;> omega) _) | (refine Below.alloc ?_ (by simp <;> omega) _)) : Below w11.heap.size w11 _)) (HS11_vTrace_7.out.later (by repeat (first | (with_reducible exact Below.refl _ _) | (with_reducible apply Below.drew) | (with_reducible refine below_drewN ?_ _) | (refine Below.setCell ?_ (by simp <;> omega) _) | (refine Below.alloc ?_ (by simp <;> omega) _)) : Below w11.heap.size w11 _) (Nat.le_refl _)) (HS11_vTrace_11.out.later (by repeat (first | (with_reducible exact Below.refl _ _) | (with_reducible apply Below.drew) | (with_reducible refine below_drewN ?_ _) | (refine Below.setCell ?_ (by simp <;> omega) _) | (refine Below.alloc ?_ (by simp <;> omega) _)) : Below w11.heap.size w11 _) (Nat.le_refl _))).mono ?_
        rintro e w12 ⟨rfl, hb12⟩
        have hst12 : Below w11.heap.size w11 w12 := Below.trans (by repeat (first | (with_reducible exact Below.refl _ _) | (with_reducible apply Below.drew) | (with_reducible refine below_drewN ?_ _) | (refine Below.setCell ?_ (by simp <;> omega) _) | (refine Below.alloc ?_ (by simp <;> omega) _)) : Below w11.heap.size w11 _) (hb12.mono (Below.size (by repeat (first | (with_reducible exact Below.refl _ _) | (with_reducible apply Below.drew) | (with_reducible refine below_drewN ?_ _) | (refine Below.setCell ?_ (by simp <;> omega) _) | (refine Below.alloc ?_ (by simp <;> omega) _)) : Below w11.heap.size w11 _)))
        have HS12_vTrace := Lib.hid (HS11_vTrace.out.up hst12 (Nat.le_refl _))
        have HS12_vKeep := Lib.hid (HS11_vKeep.out.up hst12 (Nat.le_refl _))
        have HS12_vCells := Lib.hid (HS11_vCells.out.up hst12 (Nat.le_refl _))
        have HS12_vTrace_3 := Lib.hid (HS11_vTrace_3.out.up hst12 (Nat.le_refl _))
        have HS12_vKeep_4 := Lib.hid (HS11_vKeep_4.out.up hst12 (Nat.le_refl _))
        have HS12_vCells_5 := Lib.hid (HS11_vCells_5.out.up hst12 (Nat.le_refl _))
        have HS12_vTrace_7 := Lib.hid (HS11_vTrace_7.out.up hst12 (Nat.le_refl _))
        have HS12_vKeep_8 := Lib.hid (HS11_vKeep_8.out.up hst12 (Nat.le_refl _))
        have HS12_vCells_9 := Lib.hid (HS11_vCells_9.out.up hst12 (Nat.le_refl _))
        have HS12_vTrace_11 := Lib.hid (HS11_vTrace_11.out.up hst12 (Nat.le_refl _))
        have HB12 := Lib.hid (HB11.out.trans (hst12.mono HB11.out.size))
        clear HS11_vTrace HS11_vKeep HS11_vCells HS11_vTrace_3 HS11_vKeep_4 HS11_vCells_5 HS11_vTrace_7 HS11_vKeep_8 HS11_vCells_9 HS11_vTrace_11 hb12 hst12 HB11
        go_wp2_with fail
        refine (laws_toInstanceS (cap := c_vKeep) vKeep hq_vKeep _ (Below.size (by repeat (first | (with_reducible exact Below.refl _ _) | (with_reducible apply Below.drew) | (with_reducible refine below_drewN ?_ _) | (refine Below.setCell ?_ (by simp <;> omega) _) | (refine Below.alloc ?_ (by simp <;> omega) _)) : Below w12.heap.size w12 _)) (HS12_vKeep.out.later (by repeat (first | (with_reducible exact Below.refl _ _) | (with_reducible apply Below.drew) | (with_reducible refine below_drewN ?_ _) | (refine Below.setCell ?_ (by simp <;> omega) _) | (refine Below.alloc ?_ (by simp <;> omega) _)) : Below w12.heap.size w12 _) (Nat.le_refl _))).mono ?_
        rintro e w13 ⟨a_vKeep_13, c_vKeep_13, rfl, ho13, hb13⟩
        have hst13 : Below w12.heap.size w12 w13 := Below.trans (by repeat (first | (with_reducible exact Below.refl _ _) | (with_reducible apply Below.drew) | (with_reducible refine below_drewN ?_ _) | (refine Below.setCell ?_ (by simp <;> omega) _) | (refine Below.alloc ?_ (by simp <;> omega) _)) : Below w12.heap.size w12 _) (hb13.mono (Below.size (by repeat (first | (with_reducible exact Below.refl _ _) | (with_reducible apply Below.drew) | (with_reducible refine below_drewN ?_ _) | (refine Below.setCell ?_ (by simp <;> omega) _) | (refine Below.alloc ?_ (by simp <;> omega) _)) : Below w12.heap.size w12 _)))
        have HS13_vTrace := Lib.hid (HS12_vTrace.out.up hst13 (Nat.le_refl _))
        have HS13_vKeep := Lib.hid (HS12_vKeep.out.up hst13 (Nat.le_refl _))
        have HS13_vCells := Lib.hid (HS12_vCells.out.up hst13 (Nat.le_refl _))
        have HS13_vTrace_3 := Lib.hid (HS12_vTrace_3.out.up hst13 (Nat.le_refl _))
        have HS13_vKeep_4 := Lib.hid (HS12_vKeep_4.out.up hst13 (Nat.le_refl _))
        have HS13_vCells_5 := Lib.hid (HS12_vCells_5.out.up hst13 (Nat.le_refl _))
        have HS13_vTrace_7 := Lib.hid (HS12_vTrace_7.out.up hst13 (Nat.le_refl _))
        have HS13_vKeep_8 := Lib.hid (HS12_vKeep_8.out.up hst13 (Nat.le_refl _))
        have HS13_vCells_9 := Lib.hid (HS12_vCells_9.out.up hst13 (Nat.le_refl _))
        have HS13_vTrace_11 := Lib.hid (HS12_vTrace_11.out.up hst13 (Nat.le_refl _))
        have HS13_vKeep_13 := Lib.hid (show Sl 0 w13.heap.size w13 2 vKeep.length (fun k => DInstance.ct (vKeep.getD k default)) a_vKeep_13 from Sl.of (ho13.lies (lo := 0) (hi := w13.heap.size) (fun y hy => ⟨Nat.zero_le _, hy.2⟩)))
        have HB13 := Lib.hid (HB12.out.trans (hst13.mono HB12.out.size))
        clear HS12_vTrace HS12_vKeep HS12_vCells HS12_vTrace_3 HS12_vKeep_4 HS12_vCells_5 HS12_vTrace_7 HS12_vKeep_8 HS12_vCells_9 HS12_vTrace_11 ho13 hb13 hst13 HB12
        go_wp2_with fail
        refine (laws_eqInstanceS (cap := c_vKeep_8) (cap2 := c_vKeep_13) vKeep hq_vKeep _ (Below.size (by repeat (first | (with_reducible exact Below.refl _ _) | (with_reducible apply Below.drew) | (with_reducible refine below_drewN ?_ _) | (refine Below.setCell ?_ (by simp <;> omega) _) | (refine Below.alloc ?_ (by simp <;> omega) _)) : Below w13.heap.size w13 _)) (Below.size (by repeat (first | (with_reducible exact Below.refl _ _) | (with_reducible apply Below.drew) | (with_reducible refine below_drewN ?_ _) | (refine Below.setCell ?_ (by simp <;> omega) _) | (refine Below.alloc ?_ (by simp <;> omega) _)) : Below w13.heap.size w13 _)) (HS13_vKeep_8.out.later (by repeat (first | (with_reducible exact Below.refl _ _) | (with_reducible apply Below.drew) | (with_reducible refine below_drewN ?_ _) | (refine Below.setCell ?_ (by simp <;> omega) _) | (refine Below.alloc ?_ (by simp <;> omega) _)) : Below w13.heap.size w13 _) (Nat.le_refl _)) (HS13_vKeep_13.out.later (by repeat (first | (with_reducible exact Below.refl _ _) | (with_reducible apply Below.drew) | (with_reducible refine below_drewN ?_ _) | (refine Below.setCell ?_ (by simp <;> omega) _) | (refine Below.alloc ?_ (by simp <;> omega) _)) : Below w13.heap.size w13 _) (Nat.le_refl _))).mono ?_
        rintro e w14 ⟨rfl, hb14⟩
        have hst14 : Below w13.heap.size w13 w14 := Below.trans (by repeat (first | (with_reducible exact Below.refl _ _) | (with_reducible apply Below.drew) | (with_reducible refine below_drewN ?_ _) | (refine Below.setCell ?_ (by simp <;> omega) _) | (refine Below.alloc ?_ (by simp <;> omega) _)) : Below w13.heap.size w13 _) (hb14.mono (Below.size (by repeat (first | (with_reducible exact Below.refl _ _) | (with_reducible apply Below.drew) | (with_reducible refine below_drewN ?_ _) | (refine Below.setCell ?_ (by simp <;> omega) _) | (refine Below.alloc ?_ (by simp <;> omega) _)) : Below w13.heap.size w13 _)))
        have HS14_vTrace := Lib.hid (HS13_vTrace.out.up hst14 (Nat.le_refl _))
        have HS14_vKeep := Lib.hid (HS13_vKeep.out.up hst14 (Nat.le_refl _))
        have HS14_vCells := Lib.hid (HS13_vCells.out.up hst14 (Nat.le_refl _))
        have HS14_vTrace_3 := Lib.hid (HS13_vTrace_3.out.up hst14 (Nat.le_refl _))
        have HS14_vKeep_4 := Lib.hid (HS13_vKeep_4.out.up hst14 (Nat.le_refl _))
        have HS14_vCells_5 := Lib.hid (HS13_vCells_5.out.up hst14 (Nat.le_refl _))
        have HS14_vTrace_7 := Lib.hid (HS13_vTrace_7.out.up hst14 (Nat.le_refl _))
        have HS14_vKeep_8 := Lib.hid (HS13_vKeep_8.out.up hst14 (Nat.le_refl _))
        have HS14_vCells_9 := Lib.hid (HS13_vCells_9.out.up hst14 (Nat.le_refl _))
        have HS14_vTrace_11 := Lib.hid (HS13_vTrace_11.out.up hst14 (Nat.le_refl _))
        have HS14_vKeep_13 := Lib.hid (HS13_vKeep_13.out.up hst14 (Nat.le_refl _))
        have HB14 := Lib.hid (HB13.out.trans (hst14.mono HB13.out.size))
        clear HS13_vTrace HS13_vKeep HS13_vCells HS13_vTrace_3 HS13_vKeep_4 HS13_vCells_5 HS13_vTrace_7 HS13_vKeep_8 HS13_vCells_9 HS13_vTrace_11 HS13_vKeep_13 hb14 hst14 HB13
        go_wp2_with fail
        refine (laws_toIntS (cap := c_vCells) vCells hq_vCells _ (Below.size (by repeat (first | (with_reducible exact Below.refl _ _) | (with_reducible apply Below.drew) | (with_reducible refine below_drewN ?_ _) | (refine Below.setCell ?_ (by simp <;> omega) _) | (refine Below.alloc ?_ (by simp <;> omega) _)) : Below w14.heap.size w14 _)) (HS14_vCells.out.later (by repeat (first | (with_reducible exact Below.refl _ _) | (with_reducible apply Below.drew) | (with_reducible refine below_drewN ?_ _) | (refine Below.setCell ?_ (by simp <;> omega) _) | (refine Below.alloc ?_ (by simp <;> omega) _)) : Below w14.heap.size w14 _) (Nat.le_refl _))).mono ?_
        rintro e w15 ⟨a_vCells_15, c_vCells_15, rfl, ho15, hb15⟩
        have hst15 : Below w14.heap.size w14 w15 := Below.trans (by repeat (first | (with_reducible exact Below.refl _ _) | (with_reducible apply Below.drew) | (with_reducible refine below_drewN ?_ _) | (refine Below.setCell ?_ (by simp <;> omega) _) | (refine Below.alloc ?_ (by simp <;> omega) _)) : Below w14.heap.size w14 _) (hb15.mono (Below.size (by repeat (first | (with_reducible exact Below.refl _ _) | (with_reducible apply Below.drew) | (with_reducible refine below_drewN ?_ _) | (refine Below.setCell ?_ (by simp <;> omega) _) | (refine Below.alloc ?_ (by simp <;> omega) _)) : Below w14.heap.size w14 _)))
        have HS15_vTrace := Lib.hid (HS14_vTrace.out.up hst15 (Nat.le_refl _))
        have HS15_vKeep := Lib.hid (HS14_vKeep.out.up hst15 (Nat.le_refl _))
        have HS15_vCells := Lib.hid (HS14_vCells.out.up hst15 (Nat.le_refl _))
        have HS15_vTrace_3 := Lib.hid (HS14_vTrace_3.out.up hst15 (Nat.le_refl _))
        have HS15_vKeep_4 := Lib.hid (HS14_vKeep_4.out.up hst15 (Nat.le_refl _))
        have HS15_vCells_5 := Lib.hid (HS14_vCells_5.out.up hst15 (Nat.le_refl _))
        have HS15_vTrace_7 := Lib.hid (HS14_vTrace_7.out.up hst15 (Nat.le_refl _))
        have HS15_vKeep_8 := Lib.hid (HS14_vKeep_8.out.up hst15 (Nat.le_refl _))
        have HS15_vCells_9 := Lib.hid (HS14_vCells_9.out.up hst15 (Nat.le_refl _))
        have HS15_vTrace_11 := Lib.hid (HS14_vTrace_11.out.up hst15 (Nat.le_refl _))
        have HS15_vKeep_13 := Lib.hid (HS14_vKeep_13.out.up hst15 (Nat.le_refl _))
        have HS15_vCells_15 := Lib.hid (show Sl 0 w15.heap.size w15 1 vCells.length (fun k => ictI (vCells.getD k default)) a_vCells_15 from Sl.of (ho15.lies (lo := 0) (hi := w15.heap.size) (fun y hy => ⟨Nat.zero_le _, hy.2⟩)))
        have HB15 := Lib.hid (HB14.out.trans (hst15.mono HB14.out.size))
        clear HS14_vTrace HS14_vKeep HS14_vCells HS14_vTrace_3 HS14_vKeep_4 HS14_vCells_5 HS14_vTrace_7 HS14_vKeep_8 HS14_vCells_9 HS14_vTrace_11 HS14_vKeep_13 ho15 hb15 hst15 HB14
        go_wp2_with fail
        refine (laws_eqIntS (cap := c_vCells_9) (cap2 := c_vCells_15) vCells hq_vCells _ (Below.size (by repeat (first | (with_reducible exact Below.refl _ _) | (with_reducible apply Below.drew) | (with_reducible refine below_drewN ?_ _) | (refine Below.setCell ?_ (by simp <;> omega) _) | (refine Below.alloc ?_ (by simp <;> omega) _)) : Below w15.heap.size w15 _)) (Below.size (by repeat (first | (with_reducible exact Below.refl _ _) | (with_reducible apply Below.drew) | (with_reducible refine below_drewN ?_ _) | (refine Below.setCell ?_ (by simp <;> omega) _) | (refine Below.alloc ?_ (by simp <;> omega) _)) : Below w15.heap.size w15 _)) (HS15_vCells_9.out.later (by repeat (first | (with_reducible exact Below.refl _ _) | (with_reducible apply Below.drew) | (with_reducible refine below_drewN ?_ _) | (refine Below.setCell ?_ (by simp <;> omega) _) | (refine Below.alloc ?_ (by simp <;> omega) _)) : Below w15.heap.size w15 _) (Nat.le_refl _)) (HS15_vCells_15.out.later (by repeat (first | (with_reducible exact Below.refl _ _) | (with_reducible apply Below.drew) | (with_reducible refine below_drewN ?_ _) | (refine Below.setCell ?_ (by simp <;> omega) _) | (refine Below.alloc ?_ (by simp <;> omega) _)) : Below w15.heap.size w15 _) (Nat.le_refl _))).mono ?_
        rintro e w16 ⟨rfl, hb16⟩
        have hst16 : Below w15.heap.size w15 w16 := Below.trans (by repeat (first | (with_reducible exact Below.refl _ _) | (with_reducible apply Below.drew) | (with_reducible refine below_drewN ?_ _) | (refine Below.setCell ?_ (by simp <;> omega) _) | (refine Below.alloc ?_ (by simp <;> omega) _)) : Below w15.heap.size w15 _) (hb16.mono (Below.size (by repeat (first | (with_reducible exact Below.refl _ _) | (with_reducible apply Below.drew) | (with_reducible refine below_drewN ?_ _) | (refine Below.setCell ?_ (by simp <;> omega) _) | (refine Below.alloc ?_ (by simp <;> omega) _)) : Below w15.heap.size w15 _)))
        have HS16_vTrace := Lib.hid (HS15_vTrace.out.up hst16 (Nat.le_refl _))
        have HS16_vKeep := Lib.hid (HS15_vKeep.out.up hst16 (Nat.le_refl _))
        have HS16_vCells := Lib.hid (HS15_vCells.out.up hst16 (Nat.le_refl _))
        have HS16_vTrace_3 := Lib.hid (HS15_vTrace_3.out.up hst16 (Nat.le_refl _))
        have HS16_vKeep_4 := Lib.hid (HS15_vKeep_4.out.up hst16 (Nat.le_refl _))
        have HS16_vCells_5 := Lib.hid (HS15_vCells_5.out.up hst16 (Nat.le_refl _))
        have HS16_vTrace_7 := Lib.hid (HS15_vTrace_7.out.up hst16 (Nat.le_refl _))
        have HS16_vKeep_8 := Lib.hid (HS15_vKeep_8.out.up hst16 (Nat.le_refl _))
        have HS16_vCells_9 := Lib.hid (HS15_vCells_9.out.up hst16 (Nat.le_refl _))
        have HS16_vTrace_11 := Lib.hid (HS15_vTrace_11.out.up hst16 (Nat.le_refl _))
        have HS16_vKeep_13 := Lib.hid (HS15_vKeep_13.out.up hst16 (Nat.le_refl _))
        have HS16_vCells_15 := Lib.hid (HS15_vCells_15.out.up hst16 (Nat.le_refl _))
        have HB16 := Lib.hid (HB15.out.trans (hst16.mono HB15.out.size))
        clear HS15_vTrace HS15_vKeep HS15_vCells HS15_vTrace_3 HS15_vKeep_4 HS15_vCells_5 HS15_vTrace_7 HS15_vKeep_8 HS15_vCells_9 HS15_vTrace_11 HS15_vKeep_13 HS15_vCells_15 hb16 hst16 HB15
        go_wp2
        go_ret
        exact ⟨rfl, HB16.out⟩
end Go.Proofs.Ytopcpgbhmnlcnaa.fnExactCheckSlots
