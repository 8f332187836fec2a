/-
  The law FnExactAssignSlots: for every list of steps and every list of instances the program's AssignSlots answers as the model's, and its answer owns its memory. No condition.
-/
import Derived.Test.YtopcpgbhmnlcnaaAssL
import Derived.Test.YtopcpgbhmnlcnaaMkTraceStep
import Derived.Test.YtopcpgbhmnlcnaaMkInstance
import Derived.Test.YtopcpgbhmnlcnaaMkI
import Derived.Test.YtopcpgbhmnlcnaaFree
import Derived.SizedLaws
namespace Go.Proofs.Ytopcpgbhmnlcnaa.fnExactAssignSlots
open Go.ChangeShapes Go.WideShapes Go.ChangeAt Go.RowKit Go.WideMaps Go.WideElems
open Go.ChangeMaps (open_string)
open Go.Lib Go.Deep

set_option maxHeartbeats 6400000 in
set_option maxRecDepth 100000 in
theorem walk (vTrace : List (DTraceStep)) (a_vTrace : Option Addr) (c_vTrace : Nat) (ok_vTrace : (okL DTraceStep.ok) vTrace) (vKeep : List (DInstance)) (a_vKeep : Option Addr) (c_vKeep : Nat) (ok_vKeep : (okL DInstance.ok) vKeep) (w : World) (hs_vTrace : Sl 0 w.heap.size w 3 vTrace.length (fun k => DTraceStep.ct (vTrace.getD k default)) a_vTrace) (hs_vKeep : Sl 0 w.heap.size w 2 vKeep.length (fun k => DInstance.ct (vKeep.getD k default)) a_vKeep) :
    Calls Try.prog 5 #[.slice a_vTrace vTrace.length c_vTrace, .slice a_vKeep vKeep.length c_vKeep] w fun e w' => e = .returned (.bool true) ∧ Below w.heap.size w w' := by
  have HS_vTrace := Lib.hid hs_vTrace
  clear hs_vTrace
  have OK_vTrace := Lib.hid ok_vTrace
  clear ok_vTrace
  have HS_vKeep := Lib.hid hs_vKeep
  clear hs_vKeep
  have OK_vKeep := Lib.hid ok_vKeep
  clear ok_vKeep
  by_cases h0 : 1048576 < (((lsz DTraceStep.sz) vTrace : Nat) : Int)
  · skip
    have hz := fun (hi : Nat) (w' : World) (hhi : hi ≤ w'.heap.size) (hs_vTrace : Sl 0 hi w' 3 vTrace.length (fun k => DTraceStep.ct (vTrace.getD k default)) a_vTrace) => laws_szTraceStepS (cap := c_vTrace) vTrace 1048576 (by omega) (by omega) OK_vTrace.out w' hhi hs_vTrace
    rw [szR_gt (by omega)] at hz
    have HZ_vTrace := Lib.hid hz
    clear hz
    go_enter Try.func5, Try.ntmps5
    go_wp2_with fail
    refine (HZ_vTrace.out w.heap.size _ (Below.size (by repeat (first | (with_reducible exact Below.refl _ _) | (with_reducible apply Below.drew) | (with_reducible refine below_drewN ?_ _) | (refine Below.setCell ?_ (by simp <;> omega) _) | (refine Below.alloc ?_ (by simp <;> omega) _)) : Below w.heap.size w _)) ((HS_vTrace.out.later ((Below.refl w.heap.size w).trans ((by repeat (first | (with_reducible exact Below.refl _ _) | (with_reducible apply Below.drew) | (with_reducible refine below_drewN ?_ _) | (refine Below.setCell ?_ (by simp <;> omega) _) | (refine Below.alloc ?_ (by simp <;> omega) _)) : Below w.heap.size w _).mono (Below.refl w.heap.size w).size)) (Nat.le_refl _)).mono (Nat.le_refl _) (Below.refl w.heap.size w).size)).mono ?_
    rintro e w1 ⟨rfl, hb1⟩
    have hst1 : Below w.heap.size w w1 := Below.trans (by repeat (first | (with_reducible exact Below.refl _ _) | (with_reducible apply Below.drew) | (with_reducible refine below_drewN ?_ _) | (refine Below.setCell ?_ (by simp <;> omega) _) | (refine Below.alloc ?_ (by simp <;> omega) _)) : Below w.heap.size w _) (hb1.mono (Below.size (by repeat (first | (with_reducible exact Below.refl _ _) | (with_reducible apply Below.drew) | (with_reducible refine below_drewN ?_ _) | (refine Below.setCell ?_ (by simp <;> omega) _) | (refine Below.alloc ?_ (by simp <;> omega) _)) : Below w.heap.size w _)))
    have hr1 : w.heap.size ≤ w1.heap.size := Nat.le_trans (by first | exact Nat.le_refl _ | (simp; done) | (simp; omega) | (simp [World.setCell]; done) | (simp [World.setCell]; omega)) hb1.size
    have HB1 := Lib.hid ((Below.refl w.heap.size w).trans (hst1.mono (Below.refl w.heap.size w).size))
    clear hb1 hst1
    go_wp2
    go_ret
    exact ⟨rfl, HB1.out⟩
  · skip
    by_cases h1 : (1048576 - ((lsz DTraceStep.sz) vTrace : Nat)) < (((lsz DInstance.sz) vKeep : Nat) : Int)
    · skip
      have hz := fun (hi : Nat) (w' : World) (hhi : hi ≤ w'.heap.size) (hs_vTrace : Sl 0 hi w' 3 vTrace.length (fun k => DTraceStep.ct (vTrace.getD k default)) a_vTrace) => laws_szTraceStepS (cap := c_vTrace) vTrace 1048576 (by omega) (by omega) OK_vTrace.out w' hhi hs_vTrace
      rw [szR_le (by omega)] at hz
      have HZ_vTrace := Lib.hid hz
      clear hz
      have hz := fun (hi : Nat) (w' : World) (hhi : hi ≤ w'.heap.size) (hs_vKeep : Sl 0 hi w' 2 vKeep.length (fun k => DInstance.ct (vKeep.getD k default)) a_vKeep) => laws_szInstanceS (cap := c_vKeep) vKeep (1048576 - ((lsz DTraceStep.sz) vTrace : Nat)) (by omega) (by omega) OK_vKeep.out w' hhi hs_vKeep
      rw [szR_gt (by omega)] at hz
      have HZ_vKeep := Lib.hid hz
      clear hz
      go_enter Try.func5, Try.ntmps5
      go_wp2_with fail
      refine (HZ_vTrace.out w.heap.size _ (Below.size (by repeat (first | (with_reducible exact Below.refl _ _) | (with_reducible apply Below.drew) | (with_reducible refine below_drewN ?_ _) | (refine Below.setCell ?_ (by simp <;> omega) _) | (refine Below.alloc ?_ (by simp <;> omega) _)) : Below w.heap.size w _)) ((HS_vTrace.out.later ((Below.refl w.heap.size w).trans ((by repeat (first | (with_reducible exact Below.refl _ _) | (with_reducible apply Below.drew) | (with_reducible refine below_drewN ?_ _) | (refine Below.setCell ?_ (by simp <;> omega) _) | (refine Below.alloc ?_ (by simp <;> omega) _)) : Below w.heap.size w _).mono (Below.refl w.heap.size w).size)) (Nat.le_refl _)).mono (Nat.le_refl _) (Below.refl w.heap.size w).size)).mono ?_
      rintro e w1 ⟨rfl, hb1⟩
      have hst1 : Below w.heap.size w w1 := Below.trans (by repeat (first | (with_reducible exact Below.refl _ _) | (with_reducible apply Below.drew) | (with_reducible refine below_drewN ?_ _) | (refine Below.setCell ?_ (by simp <;> omega) _) | (refine Below.alloc ?_ (by simp <;> omega) _)) : Below w.heap.size w _) (hb1.mono (Below.size (by repeat (first | (with_reducible exact Below.refl _ _) | (with_reducible apply Below.drew) | (with_reducible refine below_drewN ?_ _) | (refine Below.setCell ?_ (by simp <;> omega) _) | (refine Below.alloc ?_ (by simp <;> omega) _)) : Below w.heap.size w _)))
      have hr1 : w.heap.size ≤ w1.heap.size := Nat.le_trans (by first | exact Nat.le_refl _ | (simp; done) | (simp; omega) | (simp [World.setCell]; done) | (simp [World.setCell]; omega)) hb1.size
      have HB1 := Lib.hid ((Below.refl w.heap.size w).trans (hst1.mono (Below.refl w.heap.size w).size))
      clear hb1 hst1
      go_wp2_with fail
      refine (HZ_vKeep.out w1.heap.size _ (Below.size (by repeat (first | (with_reducible exact Below.refl _ _) | (with_reducible apply Below.drew) | (with_reducible refine below_drewN ?_ _) | (refine Below.setCell ?_ (by simp <;> omega) _) | (refine Below.alloc ?_ (by simp <;> omega) _)) : Below w1.heap.size w1 _)) ((HS_vKeep.out.later (HB1.out.trans ((by repeat (first | (with_reducible exact Below.refl _ _) | (with_reducible apply Below.drew) | (with_reducible refine below_drewN ?_ _) | (refine Below.setCell ?_ (by simp <;> omega) _) | (refine Below.alloc ?_ (by simp <;> omega) _)) : Below w1.heap.size w1 _).mono HB1.out.size)) (Nat.le_refl _)).mono (Nat.le_refl _) HB1.out.size)).mono ?_
      rintro e w2 ⟨rfl, hb2⟩
      have hst2 : Below w1.heap.size w1 w2 := Below.trans (by repeat (first | (with_reducible exact Below.refl _ _) | (with_reducible apply Below.drew) | (with_reducible refine below_drewN ?_ _) | (refine Below.setCell ?_ (by simp <;> omega) _) | (refine Below.alloc ?_ (by simp <;> omega) _)) : Below w1.heap.size w1 _) (hb2.mono (Below.size (by repeat (first | (with_reducible exact Below.refl _ _) | (with_reducible apply Below.drew) | (with_reducible refine below_drewN ?_ _) | (refine Below.setCell ?_ (by simp <;> omega) _) | (refine Below.alloc ?_ (by simp <;> omega) _)) : Below w1.heap.size w1 _)))
      have hr2 : w1.heap.size ≤ w2.heap.size := Nat.le_trans (by first | exact Nat.le_refl _ | (simp; done) | (simp; omega) | (simp [World.setCell]; done) | (simp [World.setCell]; omega)) hb2.size
      have HB2 := Lib.hid (HB1.out.trans (hst2.mono HB1.out.size))
      clear hb2 hst2 HB1
      go_wp2
      go_ret
      exact ⟨rfl, HB2.out⟩
    · skip
      have hz := fun (hi : Nat) (w' : World) (hhi : hi ≤ w'.heap.size) (hs_vTrace : Sl 0 hi w' 3 vTrace.length (fun k => DTraceStep.ct (vTrace.getD k default)) a_vTrace) => laws_szTraceStepS (cap := c_vTrace) vTrace 1048576 (by omega) (by omega) OK_vTrace.out w' hhi hs_vTrace
      rw [szR_le (by omega)] at hz
      have HZ_vTrace := Lib.hid hz
      clear hz
      have hz := fun (hi : Nat) (w' : World) (hhi : hi ≤ w'.heap.size) (hs_vKeep : Sl 0 hi w' 2 vKeep.length (fun k => DInstance.ct (vKeep.getD k default)) a_vKeep) => laws_szInstanceS (cap := c_vKeep) vKeep (1048576 - ((lsz DTraceStep.sz) vTrace : Nat)) (by omega) (by omega) OK_vKeep.out w' hhi hs_vKeep
      rw [szR_le (by omega)] at hz
      have HZ_vKeep := Lib.hid hz
      clear hz
      have hq_vTrace : (lsz DTraceStep.sz) vTrace ≤ 1048576 := by omega
      have hq_vKeep : (lsz DInstance.sz) vKeep ≤ 1048576 := by omega
      have hq_R : (lsz (fun _ => 0)) (asgCells vTrace vKeep) ≤ 1048576 := asgCells_sz hq_vTrace vKeep
      go_enter Try.func5, Try.ntmps5
      go_wp2_with fail
      refine (HZ_vTrace.out w.heap.size _ (Below.size (by repeat (first | (with_reducible exact Below.refl _ _) | (with_reducible apply Below.drew) | (with_reducible refine below_drewN ?_ _) | (refine Below.setCell ?_ (by simp <;> omega) _) | (refine Below.alloc ?_ (by simp <;> omega) _)) : Below w.heap.size w _)) ((HS_vTrace.out.later ((Below.refl w.heap.size w).trans ((by repeat (first | (with_reducible exact Below.refl _ _) | (with_reducible apply Below.drew) | (with_reducible refine below_drewN ?_ _) | (refine Below.setCell ?_ (by simp <;> omega) _) | (refine Below.alloc ?_ (by simp <;> omega) _)) : Below w.heap.size w _).mono (Below.refl w.heap.size w).size)) (Nat.le_refl _)).mono (Nat.le_refl _) (Below.refl w.heap.size w).size)).mono ?_
      rintro e w1 ⟨rfl, hb1⟩
      have hst1 : Below w.heap.size w w1 := Below.trans (by repeat (first | (with_reducible exact Below.refl _ _) | (with_reducible apply Below.drew) | (with_reducible refine below_drewN ?_ _) | (refine Below.setCell ?_ (by simp <;> omega) _) | (refine Below.alloc ?_ (by simp <;> omega) _)) : Below w.heap.size w _) (hb1.mono (Below.size (by repeat (first | (with_reducible exact Below.refl _ _) | (with_reducible apply Below.drew) | (with_reducible refine below_drewN ?_ _) | (refine Below.setCell ?_ (by simp <;> omega) _) | (refine Below.alloc ?_ (by simp <;> omega) _)) : Below w.heap.size w _)))
      have hr1 : w.heap.size ≤ w1.heap.size := Nat.le_trans (by first | exact Nat.le_refl _ | (simp; done) | (simp; omega) | (simp [World.setCell]; done) | (simp [World.setCell]; omega)) hb1.size
      have HB1 := Lib.hid ((Below.refl w.heap.size w).trans (hst1.mono (Below.refl w.heap.size w).size))
      clear hb1 hst1
      go_wp2_with fail
      refine (HZ_vKeep.out w1.heap.size _ (Below.size (by repeat (first | (with_reducible exact Below.refl _ _) | (with_reducible apply Below.drew) | (with_reducible refine below_drewN ?_ _) | (refine Below.setCell ?_ (by simp <;> omega) _) | (refine Below.alloc ?_ (by simp <;> omega) _)) : Below w1.heap.size w1 _)) ((HS_vKeep.out.later (HB1.out.trans ((by repeat (first | (with_reducible exact Below.refl _ _) | (with_reducible apply Below.drew) | (with_reducible refine below_drewN ?_ _) | (refine Below.setCell ?_ (by simp <;> omega) _) | (refine Below.alloc ?_ (by simp <;> omega) _)) : Below w1.heap.size w1 _).mono HB1.out.size)) (Nat.le_refl _)).mono (Nat.le_refl _) HB1.out.size)).mono ?_
      rintro e w2 ⟨rfl, hb2⟩
      have hst2 : Below w1.heap.size w1 w2 := Below.trans (by repeat (first | (with_reducible exact Below.refl _ _) | (with_reducible apply Below.drew) | (with_reducible refine below_drewN ?_ _) | (refine Below.setCell ?_ (by simp <;> omega) _) | (refine Below.alloc ?_ (by simp <;> omega) _)) : Below w1.heap.size w1 _) (hb2.mono (Below.size (by repeat (first | (with_reducible exact Below.refl _ _) | (with_reducible apply Below.drew) | (with_reducible refine below_drewN ?_ _) | (refine Below.setCell ?_ (by simp <;> omega) _) | (refine Below.alloc ?_ (by simp <;> omega) _)) : Below w1.heap.size w1 _)))
      have hr2 : w1.heap.size ≤ w2.heap.size := Nat.le_trans (by first | exact Nat.le_refl _ | (simp; done) | (simp; omega) | (simp [World.setCell]; done) | (simp [World.setCell]; omega)) hb2.size
      have HB2 := Lib.hid (HB1.out.trans (hst2.mono HB1.out.size))
      clear hb2 hst2 HB1
      go_wp2_with fail
      refine (laws_toTraceStepS (cap := c_vTrace) vTrace hq_vTrace _ (Below.size (by repeat (first | (with_reducible exact Below.refl _ _) | (with_reducible apply Below.drew) | (with_reducible refine below_drewN ?_ _) | (refine Below.setCell ?_ (by simp <;> omega) _) | (refine Below.alloc ?_ (by simp <;> omega) _)) : Below w2.heap.size w2 _)) ((HS_vTrace.out.later (HB2.out.trans ((by repeat (first | (with_reducible exact Below.refl _ _) | (with_reducible apply Below.drew) | (with_reducible refine below_drewN ?_ _) | (refine Below.setCell ?_ (by simp <;> omega) _) | (refine Below.alloc ?_ (by simp <;> omega) _)) : Below w2.heap.size w2 _).mono HB2.out.size)) (Nat.le_refl _)).mono (Nat.le_refl _) HB2.out.size)).mono ?_
      rintro e w3 ⟨a_vTrace_3, c_vTrace_3, rfl, ho3, hb3⟩
      have hst3 : Below w2.heap.size w2 w3 := Below.trans (by repeat (first | (with_reducible exact Below.refl _ _) | (with_reducible apply Below.drew) | (with_reducible refine below_drewN ?_ _) | (refine Below.setCell ?_ (by simp <;> omega) _) | (refine Below.alloc ?_ (by simp <;> omega) _)) : Below w2.heap.size w2 _) (hb3.mono (Below.size (by repeat (first | (with_reducible exact Below.refl _ _) | (with_reducible apply Below.drew) | (with_reducible refine below_drewN ?_ _) | (refine Below.setCell ?_ (by simp <;> omega) _) | (refine Below.alloc ?_ (by simp <;> omega) _)) : Below w2.heap.size w2 _)))
      have hr3 : w2.heap.size ≤ w3.heap.size := Nat.le_trans (by first | exact Nat.le_refl _ | (simp; done) | (simp; omega) | (simp [World.setCell]; done) | (simp [World.setCell]; omega)) hb3.size
      have HO3_vTrace_3 := Lib.hid (show Own w3 (fun y => w2.heap.size ≤ y ∧ y < w3.heap.size) (.sl 3 vTrace.length (fun k => DTraceStep.ct (vTrace.getD k default))) (.slice a_vTrace_3 vTrace.length c_vTrace_3) from Own.sub (F := fun y => _ ≤ y ∧ y < _) ho3 (fun y hy => ⟨Nat.le_trans (by first | exact Nat.le_refl _ | (simp; done) | (simp; omega) | (simp [World.setCell]; done) | (simp [World.setCell]; omega)) hy.1, hy.2⟩))
      have HB3 := Lib.hid (HB2.out.trans (hst3.mono HB2.out.size))
      clear ho3 hb3 hst3 HB2
      go_wp2_with fail
      refine (laws_toInstanceS (cap := c_vKeep) vKeep hq_vKeep _ (Below.size (by repeat (first | (with_reducible exact Below.refl _ _) | (with_reducible apply Below.drew) | (with_reducible refine below_drewN ?_ _) | (refine Below.setCell ?_ (by simp <;> omega) _) | (refine Below.alloc ?_ (by simp <;> omega) _)) : Below w3.heap.size w3 _)) ((HS_vKeep.out.later (HB3.out.trans ((by repeat (first | (with_reducible exact Below.refl _ _) | (with_reducible apply Below.drew) | (with_reducible refine below_drewN ?_ _) | (refine Below.setCell ?_ (by simp <;> omega) _) | (refine Below.alloc ?_ (by simp <;> omega) _)) : Below w3.heap.size w3 _).mono HB3.out.size)) (Nat.le_refl _)).mono (Nat.le_refl _) HB3.out.size)).mono ?_
      rintro e w4 ⟨a_vKeep_4, c_vKeep_4, rfl, ho4, hb4⟩
      have hst4 : Below w3.heap.size w3 w4 := Below.trans (by repeat (first | (with_reducible exact Below.refl _ _) | (with_reducible apply Below.drew) | (with_reducible refine below_drewN ?_ _) | (refine Below.setCell ?_ (by simp <;> omega) _) | (refine Below.alloc ?_ (by simp <;> omega) _)) : Below w3.heap.size w3 _) (hb4.mono (Below.size (by repeat (first | (with_reducible exact Below.refl _ _) | (with_reducible apply Below.drew) | (with_reducible refine below_drewN ?_ _) | (refine Below.setCell ?_ (by simp <;> omega) _) | (refine Below.alloc ?_ (by simp <;> omega) _)) : Below w3.heap.size w3 _)))
      have hr4 : w3.heap.size ≤ w4.heap.size := Nat.le_trans (by first | exact Nat.le_refl _ | (simp; done) | (simp; omega) | (simp [World.setCell]; done) | (simp [World.setCell]; omega)) hb4.size
      have HO4_vTrace_3 := Lib.hid (HO3_vTrace_3.out.kept (Kept.of_below_all hst4))
      have HO4_vKeep_4 := Lib.hid (show Own w4 (fun y => w3.heap.size ≤ y ∧ y < w4.heap.size) (.sl 2 vKeep.length (fun k => DInstance.ct (vKeep.getD k default))) (.slice a_vKeep_4 vKeep.length c_vKeep_4) from Own.sub (F := fun y => _ ≤ y ∧ y < _) ho4 (fun y hy => ⟨Nat.le_trans (by first | exact Nat.le_refl _ | (simp; done) | (simp; omega) | (simp [World.setCell]; done) | (simp [World.setCell]; omega)) hy.1, hy.2⟩))
      have HB4 := Lib.hid (HB3.out.trans (hst4.mono HB3.out.size))
      clear HO3_vTrace_3 ho4 hb4 hst4 HB3
      go_wp2_with fail
      refine (spec_AssignSlots (c0_0 := c_vTrace_3) (c1_0 := c_vKeep_4) vTrace OK_vTrace.out hq_vTrace vKeep OK_vKeep.out hq_vKeep _ (Below.size (by repeat (first | (with_reducible exact Below.refl _ _) | (with_reducible apply Below.drew) | (with_reducible refine below_drewN ?_ _) | (refine Below.setCell ?_ (by simp <;> omega) _) | (refine Below.alloc ?_ (by simp <;> omega) _)) : Below w4.heap.size w4 _)) ((Sl.of (HO4_vTrace_3.out.lies (lo := 0) (hi := w4.heap.size) (fun y hy => ⟨Nat.zero_le _, by have := hy.2; omega⟩))).later (by repeat (first | (with_reducible exact Below.refl _ _) | (with_reducible apply Below.drew) | (with_reducible refine below_drewN ?_ _) | (refine Below.setCell ?_ (by simp <;> omega) _) | (refine Below.alloc ?_ (by simp <;> omega) _)) : Below w4.heap.size w4 _) (Nat.le_refl _)) ((Sl.of (HO4_vKeep_4.out.lies (lo := 0) (hi := w4.heap.size) (fun y hy => ⟨Nat.zero_le _, by have := hy.2; omega⟩))).later (by repeat (first | (with_reducible exact Below.refl _ _) | (with_reducible apply Below.drew) | (with_reducible refine below_drewN ?_ _) | (refine Below.setCell ?_ (by simp <;> omega) _) | (refine Below.alloc ?_ (by simp <;> omega) _)) : Below w4.heap.size w4 _) (Nat.le_refl _))).mono ?_
      rintro e w5 ⟨a_R_5, c_R_5, rfl, ho5, hb5⟩
      have hst5 : Below w4.heap.size w4 w5 := Below.trans (by repeat (first | (with_reducible exact Below.refl _ _) | (with_reducible apply Below.drew) | (with_reducible refine below_drewN ?_ _) | (refine Below.setCell ?_ (by simp <;> omega) _) | (refine Below.alloc ?_ (by simp <;> omega) _)) : Below w4.heap.size w4 _) (hb5.mono (Below.size (by repeat (first | (with_reducible exact Below.refl _ _) | (with_reducible apply Below.drew) | (with_reducible refine below_drewN ?_ _) | (refine Below.setCell ?_ (by simp <;> omega) _) | (refine Below.alloc ?_ (by simp <;> omega) _)) : Below w4.heap.size w4 _)))
      have hr5 : w4.heap.size ≤ w5.heap.size := Nat.le_trans (by first | exact Nat.le_refl _ | (simp; done) | (simp; omega) | (simp [World.setCell]; done) | (simp [World.setCell]; omega)) hb5.size
      have HO5_vTrace_3 := Lib.hid (HO4_vTrace_3.out.kept (Kept.of_below_all hst5))
      have HO5_vKeep_4 := Lib.hid (HO4_vKeep_4.out.kept (Kept.of_below_all hst5))
      have HO5_R_5 := Lib.hid (show Own w5 (fun y => w4.heap.size ≤ y ∧ y < w5.heap.size) (.sl 1 (asgCells vTrace vKeep).length (fun k => ictI ((asgCells vTrace vKeep).getD k default))) (.slice a_R_5 (asgCells vTrace vKeep).length c_R_5) from Own.sub (F := fun y => _ ≤ y ∧ y < _) ho5 (fun y hy => ⟨Nat.le_trans (by first | exact Nat.le_refl _ | (simp; done) | (simp; omega) | (simp [World.setCell]; done) | (simp [World.setCell]; omega)) hy.1, hy.2⟩))
      have HB5 := Lib.hid (HB4.out.trans (hst5.mono HB4.out.size))
      clear HO4_vTrace_3 HO4_vKeep_4 ho5 hb5 hst5 HB4
      go_wp2_with fail
      refine (laws_toTraceStepS (cap := c_vTrace) vTrace hq_vTrace _ (Below.size (by repeat (first | (with_reducible exact Below.refl _ _) | (with_reducible apply Below.drew) | (with_reducible refine below_drewN ?_ _) | (refine Below.setCell ?_ (by simp <;> omega) _) | (refine Below.alloc ?_ (by simp <;> omega) _)) : Below w5.heap.size w5 _)) ((HS_vTrace.out.later (HB5.out.trans ((by repeat (first | (with_reducible exact Below.refl _ _) | (with_reducible apply Below.drew) | (with_reducible refine below_drewN ?_ _) | (refine Below.setCell ?_ (by simp <;> omega) _) | (refine Below.alloc ?_ (by simp <;> omega) _)) : Below w5.heap.size w5 _).mono HB5.out.size)) (Nat.le_refl _)).mono (Nat.le_refl _) HB5.out.size)).mono ?_
      rintro e w6 ⟨a_vTrace_6, c_vTrace_6, rfl, ho6, hb6⟩
      have hst6 : Below w5.heap.size w5 w6 := Below.trans (by repeat (first | (with_reducible exact Below.refl _ _) | (with_reducible apply Below.drew) | (with_reducible refine below_drewN ?_ _) | (refine Below.setCell ?_ (by simp <;> omega) _) | (refine Below.alloc ?_ (by simp <;> omega) _)) : Below w5.heap.size w5 _) (hb6.mono (Below.size (by repeat (first | (with_reducible exact Below.refl _ _) | (with_reducible apply Below.drew) | (with_reducible refine below_drewN ?_ _) | (refine Below.setCell ?_ (by simp <;> omega) _) | (refine Below.alloc ?_ (by simp <;> omega) _)) : Below w5.heap.size w5 _)))
      have hr6 : w5.heap.size ≤ w6.heap.size := Nat.le_trans (by first | exact Nat.le_refl _ | (simp; done) | (simp; omega) | (simp [World.setCell]; done) | (simp [World.setCell]; omega)) hb6.size
      have HO6_vTrace_3 := Lib.hid (HO5_vTrace_3.out.kept (Kept.of_below_all hst6))
      have HO6_vKeep_4 := Lib.hid (HO5_vKeep_4.out.kept (Kept.of_below_all hst6))
      have HO6_R_5 := Lib.hid (HO5_R_5.out.kept (Kept.of_below_all hst6))
      have HO6_vTrace_6 := Lib.hid (show Own w6 (fun y => w5.heap.size ≤ y ∧ y < w6.heap.size) (.sl 3 vTrace.length (fun k => DTraceStep.ct (vTrace.getD k default))) (.slice a_vTrace_6 vTrace.length c_vTrace_6) from Own.sub (F := fun y => _ ≤ y ∧ y < _) ho6 (fun y hy => ⟨Nat.le_trans (by first | exact Nat.le_refl _ | (simp; done) | (simp; omega) | (simp [World.setCell]; done) | (simp [World.setCell]; omega)) hy.1, hy.2⟩))
      have HB6 := Lib.hid (HB5.out.trans (hst6.mono HB5.out.size))
      clear HO5_vTrace_3 HO5_vKeep_4 HO5_R_5 ho6 hb6 hst6 HB5
      go_wp2_with fail
      refine (laws_toInstanceS (cap := c_vKeep) vKeep hq_vKeep _ (Below.size (by repeat (first | (with_reducible exact Below.refl _ _) | (with_reducible apply Below.drew) | (with_reducible refine below_drewN ?_ _) | (refine Below.setCell ?_ (by simp <;> omega) _) | (refine Below.alloc ?_ (by simp <;> omega) _)) : Below w6.heap.size w6 _)) ((HS_vKeep.out.later (HB6.out.trans ((by repeat (first | (with_reducible exact Below.refl _ _) | (with_reducible apply Below.drew) | (with_reducible refine below_drewN ?_ _) | (refine Below.setCell ?_ (by simp <;> omega) _) | (refine Below.alloc ?_ (by simp <;> omega) _)) : Below w6.heap.size w6 _).mono HB6.out.size)) (Nat.le_refl _)).mono (Nat.le_refl _) HB6.out.size)).mono ?_
      rintro e w7 ⟨a_vKeep_7, c_vKeep_7, rfl, ho7, hb7⟩
      have hst7 : Below w6.heap.size w6 w7 := Below.trans (by repeat (first | (with_reducible exact Below.refl _ _) | (with_reducible apply Below.drew) | (with_reducible refine below_drewN ?_ _) | (refine Below.setCell ?_ (by simp <;> omega) _) | (refine Below.alloc ?_ (by simp <;> omega) _)) : Below w6.heap.size w6 _) (hb7.mono (Below.size (by repeat (first | (with_reducible exact Below.refl _ _) | (with_reducible apply Below.drew) | (with_reducible refine below_drewN ?_ _) | (refine Below.setCell ?_ (by simp <;> omega) _) | (refine Below.alloc ?_ (by simp <;> omega) _)) : Below w6.heap.size w6 _)))
      have hr7 : w6.heap.size ≤ w7.heap.size := Nat.le_trans (by first | exact Nat.le_refl _ | (simp; done) | (simp; omega) | (simp [World.setCell]; done) | (simp [World.setCell]; omega)) hb7.size
      have HO7_vTrace_3 := Lib.hid (HO6_vTrace_3.out.kept (Kept.of_below_all hst7))
      have HO7_vKeep_4 := Lib.hid (HO6_vKeep_4.out.kept (Kept.of_below_all hst7))
      have HO7_R_5 := Lib.hid (HO6_R_5.out.kept (Kept.of_below_all hst7))
      have HO7_vTrace_6 := Lib.hid (HO6_vTrace_6.out.kept (Kept.of_below_all hst7))
      have HO7_vKeep_7 := Lib.hid (show Own w7 (fun y => w6.heap.size ≤ y ∧ y < w7.heap.size) (.sl 2 vKeep.length (fun k => DInstance.ct (vKeep.getD k default))) (.slice a_vKeep_7 vKeep.length c_vKeep_7) from Own.sub (F := fun y => _ ≤ y ∧ y < _) ho7 (fun y hy => ⟨Nat.le_trans (by first | exact Nat.le_refl _ | (simp; done) | (simp; omega) | (simp [World.setCell]; done) | (simp [World.setCell]; omega)) hy.1, hy.2⟩))
      have HB7 := Lib.hid (HB6.out.trans (hst7.mono HB6.out.size))
      clear HO6_vTrace_3 HO6_vKeep_4 HO6_R_5 HO6_vTrace_6 ho7 hb7 hst7 HB6
      go_wp2_with fail
      refine (impl_AssignSlots (c0_0 := c_vTrace_6) (c1_0 := c_vKeep_7) vTrace OK_vTrace.out hq_vTrace vKeep OK_vKeep.out hq_vKeep _ (Below.size (by repeat (first | (with_reducible exact Below.refl _ _) | (with_reducible apply Below.drew) | (with_reducible refine below_drewN ?_ _) | (refine Below.setCell ?_ (by simp <;> omega) _) | (refine Below.alloc ?_ (by simp <;> omega) _)) : Below w7.heap.size w7 _)) ((Sl.of (HO7_vTrace_6.out.lies (lo := 0) (hi := w7.heap.size) (fun y hy => ⟨Nat.zero_le _, by have := hy.2; omega⟩))).later (by repeat (first | (with_reducible exact Below.refl _ _) | (with_reducible apply Below.drew) | (with_reducible refine below_drewN ?_ _) | (refine Below.setCell ?_ (by simp <;> omega) _) | (refine Below.alloc ?_ (by simp <;> omega) _)) : Below w7.heap.size w7 _) (Nat.le_refl _)) ((Sl.of (HO7_vKeep_7.out.lies (lo := 0) (hi := w7.heap.size) (fun y hy => ⟨Nat.zero_le _, by have := hy.2; omega⟩))).later (by repeat (first | (with_reducible exact Below.refl _ _) | (with_reducible apply Below.drew) | (with_reducible refine below_drewN ?_ _) | (refine Below.setCell ?_ (by simp <;> omega) _) | (refine Below.alloc ?_ (by simp <;> omega) _)) : Below w7.heap.size w7 _) (Nat.le_refl _))).mono ?_
      rintro e w8 ⟨a_R_8, c_R_8, rfl, ho8, hb8⟩
      have hst8 : Below w7.heap.size w7 w8 := Below.trans (by repeat (first | (with_reducible exact Below.refl _ _) | (with_reducible apply Below.drew) | (with_reducible refine below_drewN ?_ _) | (refine Below.setCell ?_ (by simp <;> omega) _) | (refine Below.alloc ?_ (by simp <;> omega) _)) : Below w7.heap.size w7 _) (hb8.mono (Below.size (by repeat (first | (with_reducible exact Below.refl _ _) | (with_reducible apply Below.drew) | (with_reducible refine below_drewN ?_ _) | (refine Below.setCell ?_ (by simp <;> omega) _) | (refine Below.alloc ?_ (by simp <;> omega) _)) : Below w7.heap.size w7 _)))
      have hr8 : w7.heap.size ≤ w8.heap.size := Nat.le_trans (by first | exact Nat.le_refl _ | (simp; done) | (simp; omega) | (simp [World.setCell]; done) | (simp [World.setCell]; omega)) hb8.size
      have HO8_vTrace_3 := Lib.hid (HO7_vTrace_3.out.kept (Kept.of_below_all hst8))
      have HO8_vKeep_4 := Lib.hid (HO7_vKeep_4.out.kept (Kept.of_below_all hst8))
      have HO8_R_5 := Lib.hid (HO7_R_5.out.kept (Kept.of_below_all hst8))
      have HO8_vTrace_6 := Lib.hid (HO7_vTrace_6.out.kept (Kept.of_below_all hst8))
      have HO8_vKeep_7 := Lib.hid (HO7_vKeep_7.out.kept (Kept.of_below_all hst8))
      have HO8_R_8 := Lib.hid (show Own w8 (fun y => w7.heap.size ≤ y ∧ y < w8.heap.size) (.sl 1 (asgCells vTrace vKeep).length (fun k => ictI ((asgCells vTrace vKeep).getD k default))) (.slice a_R_8 (asgCells vTrace vKeep).length c_R_8) from Own.sub (F := fun y => _ ≤ y ∧ y < _) ho8 (fun y hy => ⟨Nat.le_trans (by first | exact Nat.le_refl _ | (simp; done) | (simp; omega) | (simp [World.setCell]; done) | (simp [World.setCell]; omega)) hy.1, hy.2⟩))
      have HB8 := Lib.hid (HB7.out.trans (hst8.mono HB7.out.size))
      clear HO7_vTrace_3 HO7_vKeep_4 HO7_R_5 HO7_vTrace_6 HO7_vKeep_7 ho8 hb8 hst8 HB7
      go_wp2_with fail
      refine (laws_eqIntS (cap := c_R_8) (cap2 := c_R_5) (asgCells vTrace vKeep) hq_R _ (Below.size (by repeat (first | (with_reducible exact Below.refl _ _) | (with_reducible apply Below.drew) | (with_reducible refine below_drewN ?_ _) | (refine Below.setCell ?_ (by simp <;> omega) _) | (refine Below.alloc ?_ (by simp <;> omega) _)) : Below w8.heap.size w8 _)) (Below.size (by repeat (first | (with_reducible exact Below.refl _ _) | (with_reducible apply Below.drew) | (with_reducible refine below_drewN ?_ _) | (refine Below.setCell ?_ (by simp <;> omega) _) | (refine Below.alloc ?_ (by simp <;> omega) _)) : Below w8.heap.size w8 _)) ((Sl.of (HO8_R_8.out.lies (lo := 0) (hi := w8.heap.size) (fun y hy => ⟨Nat.zero_le _, by have := hy.2; omega⟩))).later (by repeat (first | (with_reducible exact Below.refl _ _) | (with_reducible apply Below.drew) | (with_reducible refine below_drewN ?_ _) | (refine Below.setCell ?_ (by simp <;> omega) _) | (refine Below.alloc ?_ (by simp <;> omega) _)) : Below w8.heap.size w8 _) (Nat.le_refl _)) ((Sl.of (HO8_R_5.out.lies (lo := 0) (hi := w8.heap.size) (fun y hy => ⟨Nat.zero_le _, by have := hy.2; omega⟩))).later (by repeat (first | (with_reducible exact Below.refl _ _) | (with_reducible apply Below.drew) | (with_reducible refine below_drewN ?_ _) | (refine Below.setCell ?_ (by simp <;> omega) _) | (refine Below.alloc ?_ (by simp <;> omega) _)) : Below w8.heap.size w8 _) (Nat.le_refl _))).mono ?_
      rintro e w9 ⟨rfl, hb9⟩
      have hst9 : Below w8.heap.size w8 w9 := Below.trans (by repeat (first | (with_reducible exact Below.refl _ _) | (with_reducible apply Below.drew) | (with_reducible refine below_drewN ?_ _) | (refine Below.setCell ?_ (by simp <;> omega) _) | (refine Below.alloc ?_ (by simp <;> omega) _)) : Below w8.heap.size w8 _) (hb9.mono (Below.size (by repeat (first | (with_reducible exact Below.refl _ _) | (with_reducible apply Below.drew) | (with_reducible refine below_drewN ?_ _) | (refine Below.setCell ?_ (by simp <;> omega) _) | (refine Below.alloc ?_ (by simp <;> omega) _)) : Below w8.heap.size w8 _)))
      have hr9 : w8.heap.size ≤ w9.heap.size := Nat.le_trans (by first | exact Nat.le_refl _ | (simp; done) | (simp; omega) | (simp [World.setCell]; done) | (simp [World.setCell]; omega)) hb9.size
      have HO9_vTrace_3 := Lib.hid (HO8_vTrace_3.out.kept (Kept.of_below_all hst9))
      have HO9_vKeep_4 := Lib.hid (HO8_vKeep_4.out.kept (Kept.of_below_all hst9))
      have HO9_R_5 := Lib.hid (HO8_R_5.out.kept (Kept.of_below_all hst9))
      have HO9_vTrace_6 := Lib.hid (HO8_vTrace_6.out.kept (Kept.of_below_all hst9))
      have HO9_vKeep_7 := Lib.hid (HO8_vKeep_7.out.kept (Kept.of_below_all hst9))
      have HO9_R_8 := Lib.hid (HO8_R_8.out.kept (Kept.of_below_all hst9))
      have HB9 := Lib.hid (HB8.out.trans (hst9.mono HB8.out.size))
      clear HO8_vTrace_3 HO8_vKeep_4 HO8_R_5 HO8_vTrace_6 HO8_vKeep_7 HO8_R_8 hb9 hst9 HB8
      go_wp2_with fail
      refine (laws_toTraceStepS (cap := c_vTrace) vTrace hq_vTrace _ (Below.size (by repeat (first | (with_reducible exact Below.refl _ _) | (with_reducible apply Below.drew) | (with_reducible refine below_drewN ?_ _) | (refine Below.setCell ?_ (by simp <;> omega) _) | (refine Below.alloc ?_ (by simp <;> omega) _)) : Below w9.heap.size w9 _)) ((HS_vTrace.out.later (HB9.out.trans ((by repeat (first | (with_reducible exact Below.refl _ _) | (with_reducible apply Below.drew) | (with_reducible refine below_drewN ?_ _) | (refine Below.setCell ?_ (by simp <;> omega) _) | (refine Below.alloc ?_ (by simp <;> omega) _)) : Below w9.heap.size w9 _).mono HB9.out.size)) (Nat.le_refl _)).mono (Nat.le_refl _) HB9.out.size)).mono ?_
      rintro e w10 ⟨a_vTrace_10, c_vTrace_10, rfl, ho10, hb10⟩
      have hst10 : Below w9.heap.size w9 w10 := Below.trans (by repeat (first | (with_reducible exact Below.refl _ _) | (with_reducible apply Below.drew) | (with_reducible refine below_drewN ?_ _) | (refine Below.setCell ?_ (by simp <;> omega) _) | (refine Below.alloc ?_ (by simp <;> omega) _)) : Below w9.heap.size w9 _) (hb10.mono (Below.size (by repeat (first | (with_reducible exact Below.refl _ _) | (with_reducible apply Below.drew) | (with_reducible refine below_drewN ?_ _) | (refine Below.setCell ?_ (by simp <;> omega) _) | (refine Below.alloc ?_ (by simp <;> omega) _)) : Below w9.heap.size w9 _)))
      have hr10 : w9.heap.size ≤ w10.heap.size := Nat.le_trans (by first | exact Nat.le_refl _ | (simp; done) | (simp; omega) | (simp [World.setCell]; done) | (simp [World.setCell]; omega)) hb10.size
      have HO10_vTrace_3 := Lib.hid (HO9_vTrace_3.out.kept (Kept.of_below_all hst10))
      have HO10_vKeep_4 := Lib.hid (HO9_vKeep_4.out.kept (Kept.of_below_all hst10))
      have HO10_R_5 := Lib.hid (HO9_R_5.out.kept (Kept.of_below_all hst10))
      have HO10_vTrace_6 := Lib.hid (HO9_vTrace_6.out.kept (Kept.of_below_all hst10))
      have HO10_vKeep_7 := Lib.hid (HO9_vKeep_7.out.kept (Kept.of_below_all hst10))
      have HO10_R_8 := Lib.hid (HO9_R_8.out.kept (Kept.of_below_all hst10))
      have HO10_vTrace_10 := Lib.hid (show Own w10 (fun y => w9.heap.size ≤ y ∧ y < w10.heap.size) (.sl 3 vTrace.length (fun k => DTraceStep.ct (vTrace.getD k default))) (.slice a_vTrace_10 vTrace.length c_vTrace_10) from Own.sub (F := fun y => _ ≤ y ∧ y < _) ho10 (fun y hy => ⟨Nat.le_trans (by first | exact Nat.le_refl _ | (simp; done) | (simp; omega) | (simp [World.setCell]; done) | (simp [World.setCell]; omega)) hy.1, hy.2⟩))
      have HB10 := Lib.hid (HB9.out.trans (hst10.mono HB9.out.size))
      clear HO9_vTrace_3 HO9_vKeep_4 HO9_R_5 HO9_vTrace_6 HO9_vKeep_7 HO9_R_8 ho10 hb10 hst10 HB9
      go_wp2_with fail
      refine (laws_eqTraceStepS (cap := c_vTrace_6) (cap2 := c_vTrace_10) vTrace hq_vTrace _ (Below.size (by repeat (first | (with_reducible exact Below.refl _ _) | (with_reducible apply Below.drew) | (with_reducible refine below_drewN ?_ _) | (refine Below.setCell ?_ (by simp <;> omega) _) | (refine Below.alloc ?_ (by simp <;> omega) _)) : Below w10.heap.size w10 _)) (Below.size (by repeat (first | (with_reducible exact Below.refl _ _) | (with_reducible apply Below.drew) | (with_reducible refine below_drewN ?_ _) | (refine Below.setCell ?_ (by simp <;> omega) _) | (refine Below.alloc ?_ (by simp <;> omega) _)) : Below w10.heap.size w10 _)) ((Sl.of (HO10_vTrace_6.out.lies (lo := 0) (hi := w10.heap.size) (fun y hy => ⟨Nat.zero_le _, by have := hy.2; omega⟩))).later (by repeat (first | (with_reducible exact Below.refl _ _) | (with_reducible apply Below.drew) | (with_reducible refine below_drewN ?_ _) | (refine Below.setCell ?_ (by simp <;> omega) _) | (refine Below.alloc ?_ (by simp <;> omega) _)) : Below w10.heap.size w10 _) (Nat.le_refl _)) ((Sl.of (HO10_vTrace_10.out.lies (lo := 0) (hi := w10.heap.size) (fun y hy => ⟨Nat.zero_le _, by have := hy.2; omega⟩))).later (by repeat (first | (with_reducible exact Below.refl _ _) | (with_reducible apply Below.drew) | (with_reducible refine below_drewN ?_ _) | (refine Below.setCell ?_ (by simp <;> omega) _) | (refine Below.alloc ?_ (by simp <;> omega) _)) : Below w10.heap.size w10 _) (Nat.le_refl _))).mono ?_
      rintro e w11 ⟨rfl, hb11⟩
      have hst11 : Below w10.heap.size w10 w11 := Below.trans (by repeat (first | (with_reducible exact Below.refl _ _) | (with_reducible apply Below.drew) | (with_reducible refine below_drewN ?_ _) | (refine Below.setCell ?_ (by simp <;> omega) _) | (refine Below.alloc ?_ (by simp <;> omega) _)) : Below w10.heap.size w10 _) (hb11.mono (Below.size (by repeat (first | (with_reducible exact Below.refl _ _) | (with_reducible apply Below.drew) | (with_reducible refine below_drewN ?_ _) | (refine Below.setCell ?_ (by simp <;> omega) _) | (refine Below.alloc ?_ (by simp <;> omega) _)) : Below w10.heap.size w10 _)))
      have hr11 : w10.heap.size ≤ w11.heap.size := Nat.le_trans (by first | exact Nat.le_refl _ | (simp; done) | (simp; omega) | (simp [World.setCell]; done) | (simp [World.setCell]; omega)) hb11.size
      have HO11_vTrace_3 := Lib.hid (HO10_vTrace_3.out.kept (Kept.of_below_all hst11))
      have HO11_vKeep_4 := Lib.hid (HO10_vKeep_4.out.kept (Kept.of_below_all hst11))
      have HO11_R_5 := Lib.hid (HO10_R_5.out.kept (Kept.of_below_all hst11))
      have HO11_vTrace_6 := Lib.hid (HO10_vTrace_6.out.kept (Kept.of_below_all hst11))
      have HO11_vKeep_7 := Lib.hid (HO10_vKeep_7.out.kept (Kept.of_below_all hst11))
      have HO11_R_8 := Lib.hid (HO10_R_8.out.kept (Kept.of_below_all hst11))
      have HO11_vTrace_10 := Lib.hid (HO10_vTrace_10.out.kept (Kept.of_below_all hst11))
      have HB11 := Lib.hid (HB10.out.trans (hst11.mono HB10.out.size))
      clear HO10_vTrace_3 HO10_vKeep_4 HO10_R_5 HO10_vTrace_6 HO10_vKeep_7 HO10_R_8 HO10_vTrace_10 hb11 hst11 HB10
      go_wp2_with fail
      refine (laws_toInstanceS (cap := c_vKeep) vKeep hq_vKeep _ (Below.size (by repeat (first | (with_reducible exact Below.refl _ _) | (with_reducible apply Below.drew) | (with_reducible refine below_drewN ?_ _) | (refine Below.setCell ?_ (by simp <;> omega) _) | (refine Below.alloc ?_ (by simp <;> omega) _)) : Below w11.heap.size w11 _)) ((HS_vKeep.out.later (HB11.out.trans ((by repeat (first | (with_reducible exact Below.refl _ _) | (with_reducible apply Below.drew) | (with_reducible refine below_drewN ?_ _) | (refine Below.setCell ?_ (by simp <;> omega) _) | (refine Below.alloc ?_ (by simp <;> omega) _)) : Below w11.heap.size w11 _).mono HB11.out.size)) (Nat.le_refl _)).mono (Nat.le_refl _) HB11.out.size)).mono ?_
      rintro e w12 ⟨a_vKeep_12, c_vKeep_12, rfl, ho12, hb12⟩
      have hst12 : Below w11.heap.size w11 w12 := Below.trans (by repeat (first | (with_reducible exact Below.refl _ _) | (with_reducible apply Below.drew) | (with_reducible refine below_drewN ?_ _) | (refine Below.setCell ?_ (by simp <;> omega) _) | (refine Below.alloc ?_ (by simp <;> omega) _)) : Below w11.heap.size w11 _) (hb12.mono (Below.size (by repeat (first | (with_reducible exact Below.refl _ _) | (with_reducible apply Below.drew) | (with_reducible refine below_drewN ?_ _) | (refine Below.setCell ?_ (by simp <;> omega) _) | (refine Below.alloc ?_ (by simp <;> omega) _)) : Below w11.heap.size w11 _)))
      have hr12 : w11.heap.size ≤ w12.heap.size := Nat.le_trans (by first | exact Nat.le_refl _ | (simp; done) | (simp; omega) | (simp [World.setCell]; done) | (simp [World.setCell]; omega)) hb12.size
      have HO12_vTrace_3 := Lib.hid (HO11_vTrace_3.out.kept (Kept.of_below_all hst12))
      have HO12_vKeep_4 := Lib.hid (HO11_vKeep_4.out.kept (Kept.of_below_all hst12))
      have HO12_R_5 := Lib.hid (HO11_R_5.out.kept (Kept.of_below_all hst12))
      have HO12_vTrace_6 := Lib.hid (HO11_vTrace_6.out.kept (Kept.of_below_all hst12))
      have HO12_vKeep_7 := Lib.hid (HO11_vKeep_7.out.kept (Kept.of_below_all hst12))
      have HO12_R_8 := Lib.hid (HO11_R_8.out.kept (Kept.of_below_all hst12))
      have HO12_vTrace_10 := Lib.hid (HO11_vTrace_10.out.kept (Kept.of_below_all hst12))
      have HO12_vKeep_12 := Lib.hid (show Own w12 (fun y => w11.heap.size ≤ y ∧ y < w12.heap.size) (.sl 2 vKeep.length (fun k => DInstance.ct (vKeep.getD k default))) (.slice a_vKeep_12 vKeep.length c_vKeep_12) from Own.sub (F := fun y => _ ≤ y ∧ y < _) ho12 (fun y hy => ⟨Nat.le_trans (by first | exact Nat.le_refl _ | (simp; done) | (simp; omega) | (simp [World.setCell]; done) | (simp [World.setCell]; omega)) hy.1, hy.2⟩))
      have HB12 := Lib.hid (HB11.out.trans (hst12.mono HB11.out.size))
      clear HO11_vTrace_3 HO11_vKeep_4 HO11_R_5 HO11_vTrace_6 HO11_vKeep_7 HO11_R_8 HO11_vTrace_10 ho12 hb12 hst12 HB11
      go_wp2_with fail
      refine (laws_eqInstanceS (cap := c_vKeep_7) (cap2 := c_vKeep_12) vKeep hq_vKeep _ (Below.size (by repeat (first | (with_reducible exact Below.refl _ _) | (with_reducible apply Below.drew) | (with_reducible refine below_drewN ?_ _) | (refine Below.setCell ?_ (by simp <;> omega) _) | (refine Below.alloc ?_ (by simp <;> omega) _)) : Below w12.heap.size w12 _)) (Below.size (by repeat (first | (with_reducible exact Below.refl _ _) | (with_reducible apply Below.drew) | (with_reducible refine below_drewN ?_ _) | (refine Below.setCell ?_ (by simp <;> omega) _) | (refine Below.alloc ?_ (by simp <;> omega) _)) : Below w12.heap.size w12 _)) ((Sl.of (HO12_vKeep_7.out.lies (lo := 0) (hi := w12.heap.size) (fun y hy => ⟨Nat.zero_le _, by have := hy.2; omega⟩))).later (by repeat (first | (with_reducible exact Below.refl _ _) | (with_reducible apply Below.drew) | (with_reducible refine below_drewN ?_ _) | (refine Below.setCell ?_ (by simp <;> omega) _) | (refine Below.alloc ?_ (by simp <;> omega) _)) : Below w12.heap.size w12 _) (Nat.le_refl _)) ((Sl.of (HO12_vKeep_12.out.lies (lo := 0) (hi := w12.heap.size) (fun y hy => ⟨Nat.zero_le _, by have := hy.2; omega⟩))).later (by repeat (first | (with_reducible exact Below.refl _ _) | (with_reducible apply Below.drew) | (with_reducible refine below_drewN ?_ _) | (refine Below.setCell ?_ (by simp <;> omega) _) | (refine Below.alloc ?_ (by simp <;> omega) _)) : Below w12.heap.size w12 _) (Nat.le_refl _))).mono ?_
      rintro e w13 ⟨rfl, hb13⟩
      have hst13 : Below w12.heap.size w12 w13 := Below.trans (by repeat (first | (with_reducible exact Below.refl _ _) | (with_reducible apply Below.drew) | (with_reducible refine below_drewN ?_ _) | (refine Below.setCell ?_ (by simp <;> omega) _) | (refine Below.alloc ?_ (by simp <;> omega) _)) : Below w12.heap.size w12 _) (hb13.mono (Below.size (by repeat (first | (with_reducible exact Below.refl _ _) | (with_reducible apply Below.drew) | (with_reducible refine below_drewN ?_ _) | (refine Below.setCell ?_ (by simp <;> omega) _) | (refine Below.alloc ?_ (by simp <;> omega) _)) : Below w12.heap.size w12 _)))
      have hr13 : w12.heap.size ≤ w13.heap.size := Nat.le_trans (by first | exact Nat.le_refl _ | (simp; done) | (simp; omega) | (simp [World.setCell]; done) | (simp [World.setCell]; omega)) hb13.size
      have HO13_vTrace_3 := Lib.hid (HO12_vTrace_3.out.kept (Kept.of_below_all hst13))
      have HO13_vKeep_4 := Lib.hid (HO12_vKeep_4.out.kept (Kept.of_below_all hst13))
      have HO13_R_5 := Lib.hid (HO12_R_5.out.kept (Kept.of_below_all hst13))
      have HO13_vTrace_6 := Lib.hid (HO12_vTrace_6.out.kept (Kept.of_below_all hst13))
      have HO13_vKeep_7 := Lib.hid (HO12_vKeep_7.out.kept (Kept.of_below_all hst13))
      have HO13_R_8 := Lib.hid (HO12_R_8.out.kept (Kept.of_below_all hst13))
      have HO13_vTrace_10 := Lib.hid (HO12_vTrace_10.out.kept (Kept.of_below_all hst13))
      have HO13_vKeep_12 := Lib.hid (HO12_vKeep_12.out.kept (Kept.of_below_all hst13))
      have HB13 := Lib.hid (HB12.out.trans (hst13.mono HB12.out.size))
      clear HO12_vTrace_3 HO12_vKeep_4 HO12_R_5 HO12_vTrace_6 HO12_vKeep_7 HO12_R_8 HO12_vTrace_10 HO12_vKeep_12 hb13 hst13 HB12
      go_wp2_with fail
      refine (wmark_TraceStepS (cap := c_vTrace_6) vTrace hq_vTrace 1 (by omega) (by omega) _ (HO13_vTrace_6.out.kept (Kept.of_below (by repeat (first | (with_reducible exact Below.refl _ _) | (with_reducible apply Below.drew) | (with_reducible refine below_drewN ?_ _) | (refine Below.setCell ?_ (by simp <;> omega) _) | (refine Below.alloc ?_ (by simp <;> omega) _)) : Below w13.heap.size w13 _) (fun y hy => by have := hy.2; omega)))).mono ?_
      rintro e w14 ⟨k14, rfl, hka14, hkb14, hw14⟩
      have hkz14 : 1 ≤ k14 ∧ k14 ≤ 4294967296 := by omega
      have hst14 : WritesF (fun y => w5.heap.size ≤ y ∧ y < w6.heap.size) w13 w14 := hw14.of_below (by repeat (first | (with_reducible exact Below.refl _ _) | (with_reducible apply Below.drew) | (with_reducible refine below_drewN ?_ _) | (refine Below.setCell ?_ (by simp <;> omega) _) | (refine Below.alloc ?_ (by simp <;> omega) _)) : Below w13.heap.size w13 _)
      have hr14 : w13.heap.size ≤ w14.heap.size := Nat.le_trans (by first | exact Nat.le_refl _ | (simp; done) | (simp; omega) | (simp [World.setCell]; done) | (simp [World.setCell]; omega)) hw14.size
      have HO14_vTrace_3 := Lib.hid (HO13_vTrace_3.out.kept (hst14.kept (fun y hy hf => by have h1 := hy.1; have h2 := hy.2; have h3 := hf.1; have h4 := hf.2; omega)))
      have HO14_vKeep_4 := Lib.hid (HO13_vKeep_4.out.kept (hst14.kept (fun y hy hf => by have h1 := hy.1; have h2 := hy.2; have h3 := hf.1; have h4 := hf.2; omega)))
      have HO14_R_5 := Lib.hid (HO13_R_5.out.kept (hst14.kept (fun y hy hf => by have h1 := hy.1; have h2 := hy.2; have h3 := hf.1; have h4 := hf.2; omega)))
      have HO14_vKeep_7 := Lib.hid (HO13_vKeep_7.out.kept (hst14.kept (fun y hy hf => by have h1 := hy.1; have h2 := hy.2; have h3 := hf.1; have h4 := hf.2; omega)))
      have HO14_R_8 := Lib.hid (HO13_R_8.out.kept (hst14.kept (fun y hy hf => by have h1 := hy.1; have h2 := hy.2; have h3 := hf.1; have h4 := hf.2; omega)))
      have HO14_vTrace_10 := Lib.hid (HO13_vTrace_10.out.kept (hst14.kept (fun y hy hf => by have h1 := hy.1; have h2 := hy.2; have h3 := hf.1; have h4 := hf.2; omega)))
      have HO14_vKeep_12 := Lib.hid (HO13_vKeep_12.out.kept (hst14.kept (fun y hy hf => by have h1 := hy.1; have h2 := hy.2; have h3 := hf.1; have h4 := hf.2; omega)))
      have HB14 := Lib.hid (HB13.out.trans (hst14.below (fun y hy => by have := hy.1; omega) HB13.out.size))
      clear HO13_vTrace_6 HO13_vTrace_3 HO13_vKeep_4 HO13_R_5 HO13_vKeep_7 HO13_R_8 HO13_vTrace_10 HO13_vKeep_12 hw14 hst14 HB13
      go_wp2_with fail
      refine (wmark_InstanceS (cap := c_vKeep_7) vKeep hq_vKeep k14 (by omega) (by omega) _ (HO14_vKeep_7.out.kept (Kept.of_below (by repeat (first | (with_reducible exact Below.refl _ _) | (with_reducible apply Below.drew) | (with_reducible refine below_drewN ?_ _) | (refine Below.setCell ?_ (by simp <;> omega) _) | (refine Below.alloc ?_ (by simp <;> omega) _)) : Below w14.heap.size w14 _) (fun y hy => by have := hy.2; omega)))).mono ?_
      rintro e w15 ⟨k15, rfl, hka15, hkb15, hw15⟩
      have hkz15 : 1 ≤ k15 ∧ k15 ≤ 4294967296 := by omega
      have hst15 : WritesF (fun y => w6.heap.size ≤ y ∧ y < w7.heap.size) w14 w15 := hw15.of_below (by repeat (first | (with_reducible exact Below.refl _ _) | (with_reducible apply Below.drew) | (with_reducible refine below_drewN ?_ _) | (refine Below.setCell ?_ (by simp <;> omega) _) | (refine Below.alloc ?_ (by simp <;> omega) _)) : Below w14.heap.size w14 _)
      have hr15 : w14.heap.size ≤ w15.heap.size := Nat.le_trans (by first | exact Nat.le_refl _ | (simp; done) | (simp; omega) | (simp [World.setCell]; done) | (simp [World.setCell]; omega)) hw15.size
      have HO15_vTrace_3 := Lib.hid (HO14_vTrace_3.out.kept (hst15.kept (fun y hy hf => by have h1 := hy.1; have h2 := hy.2; have h3 := hf.1; have h4 := hf.2; omega)))
      have HO15_vKeep_4 := Lib.hid (HO14_vKeep_4.out.kept (hst15.kept (fun y hy hf => by have h1 := hy.1; have h2 := hy.2; have h3 := hf.1; have h4 := hf.2; omega)))
      have HO15_R_5 := Lib.hid (HO14_R_5.out.kept (hst15.kept (fun y hy hf => by have h1 := hy.1; have h2 := hy.2; have h3 := hf.1; have h4 := hf.2; omega)))
      have HO15_R_8 := Lib.hid (HO14_R_8.out.kept (hst15.kept (fun y hy hf => by have h1 := hy.1; have h2 := hy.2; have h3 := hf.1; have h4 := hf.2; omega)))
      have HO15_vTrace_10 := Lib.hid (HO14_vTrace_10.out.kept (hst15.kept (fun y hy hf => by have h1 := hy.1; have h2 := hy.2; have h3 := hf.1; have h4 := hf.2; omega)))
      have HO15_vKeep_12 := Lib.hid (HO14_vKeep_12.out.kept (hst15.kept (fun y hy hf => by have h1 := hy.1; have h2 := hy.2; have h3 := hf.1; have h4 := hf.2; omega)))
      have HB15 := Lib.hid (HB14.out.trans (hst15.below (fun y hy => by have := hy.1; omega) HB14.out.size))
      clear HO14_vKeep_7 HO14_vTrace_3 HO14_vKeep_4 HO14_R_5 HO14_R_8 HO14_vTrace_10 HO14_vKeep_12 hw15 hst15 HB14
      go_wp2_with fail
      refine (laws_eqIntS (cap := c_R_8) (cap2 := c_R_5) (asgCells vTrace vKeep) hq_R _ (Below.size (by repeat (first | (with_reducible exact Below.refl _ _) | (with_reducible apply Below.drew) | (with_reducible refine below_drewN ?_ _) | (refine Below.setCell ?_ (by simp <;> omega) _) | (refine Below.alloc ?_ (by simp <;> omega) _)) : Below w15.heap.size w15 _)) (Below.size (by repeat (first | (with_reducible exact Below.refl _ _) | (with_reducible apply Below.drew) | (with_reducible refine below_drewN ?_ _) | (refine Below.setCell ?_ (by simp <;> omega) _) | (refine Below.alloc ?_ (by simp <;> omega) _)) : Below w15.heap.size w15 _)) ((Sl.of (HO15_R_8.out.lies (lo := 0) (hi := w15.heap.size) (fun y hy => ⟨Nat.zero_le _, by have := hy.2; omega⟩))).later (by repeat (first | (with_reducible exact Below.refl _ _) | (with_reducible apply Below.drew) | (with_reducible refine below_drewN ?_ _) | (refine Below.setCell ?_ (by simp <;> omega) _) | (refine Below.alloc ?_ (by simp <;> omega) _)) : Below w15.heap.size w15 _) (Nat.le_refl _)) ((Sl.of (HO15_R_5.out.lies (lo := 0) (hi := w15.heap.size) (fun y hy => ⟨Nat.zero_le _, by have := hy.2; omega⟩))).later (by repeat (first | (with_reducible exact Below.refl _ _) | (with_reducible apply Below.drew) | (with_reducible refine below_drewN ?_ _) | (refine Below.setCell ?_ (by simp <;> omega) _) | (refine Below.alloc ?_ (by simp <;> omega) _)) : Below w15.heap.size w15 _) (Nat.le_refl _))).mono ?_
      rintro e w16 ⟨rfl, hb16⟩
      have hst16 : Below w15.heap.size w15 w16 := Below.trans (by repeat (first | (with_reducible exact Below.refl _ _) | (with_reducible apply Below.drew) | (with_reducible refine below_drewN ?_ _) | (refine Below.setCell ?_ (by simp <;> omega) _) | (refine Below.alloc ?_ (by simp <;> omega) _)) : Below w15.heap.size w15 _) (hb16.mono (Below.size (by repeat (first | (with_reducible exact Below.refl _ _) | (with_reducible apply Below.drew) | (with_reducible refine below_drewN ?_ _) | (refine Below.setCell ?_ (by simp <;> omega) _) | (refine Below.alloc ?_ (by simp <;> omega) _)) : Below w15.heap.size w15 _)))
      have hr16 : w15.heap.size ≤ w16.heap.size := Nat.le_trans (by first | exact Nat.le_refl _ | (simp; done) | (simp; omega) | (simp [World.setCell]; done) | (simp [World.setCell]; omega)) hb16.size
      have HO16_vTrace_3 := Lib.hid (HO15_vTrace_3.out.kept (Kept.of_below_all hst16))
      have HO16_vKeep_4 := Lib.hid (HO15_vKeep_4.out.kept (Kept.of_below_all hst16))
      have HO16_R_5 := Lib.hid (HO15_R_5.out.kept (Kept.of_below_all hst16))
      have HO16_R_8 := Lib.hid (HO15_R_8.out.kept (Kept.of_below_all hst16))
      have HO16_vTrace_10 := Lib.hid (HO15_vTrace_10.out.kept (Kept.of_below_all hst16))
      have HO16_vKeep_12 := Lib.hid (HO15_vKeep_12.out.kept (Kept.of_below_all hst16))
      have HB16 := Lib.hid (HB15.out.trans (hst16.mono HB15.out.size))
      clear HO15_vTrace_3 HO15_vKeep_4 HO15_R_5 HO15_R_8 HO15_vTrace_10 HO15_vKeep_12 hb16 hst16 HB15
      go_wp2_with fail
      refine (laws_markIntS (cap := c_R_8) (asgCells vTrace vKeep) (by have h1 := asgCells_len hq_vTrace vKeep; omega) 1 (by have h1 := asgCells_len hq_vTrace vKeep; omega) _ (HO16_R_8.out.kept (Kept.of_below (by repeat (first | (with_reducible exact Below.refl _ _) | (with_reducible apply Below.drew) | (with_reducible refine below_drewN ?_ _) | (refine Below.setCell ?_ (by simp <;> omega) _) | (refine Below.alloc ?_ (by simp <;> omega) _)) : Below w16.heap.size w16 _) (fun y hy => by have := hy.2; omega)))).mono ?_
      rintro e w17 ⟨rfl, ho17, hw17⟩
      have hst17 : WritesF (fun y => w7.heap.size ≤ y ∧ y < w8.heap.size) w16 w17 := hw17.of_below (by repeat (first | (with_reducible exact Below.refl _ _) | (with_reducible apply Below.drew) | (with_reducible refine below_drewN ?_ _) | (refine Below.setCell ?_ (by simp <;> omega) _) | (refine Below.alloc ?_ (by simp <;> omega) _)) : Below w16.heap.size w16 _)
      have hr17 : w16.heap.size ≤ w17.heap.size := Nat.le_trans (by first | exact Nat.le_refl _ | (simp; done) | (simp; omega) | (simp [World.setCell]; done) | (simp [World.setCell]; omega)) hw17.size
      have HO17_vTrace_3 := Lib.hid (HO16_vTrace_3.out.kept (hst17.kept (fun y hy hf => by have h1 := hy.1; have h2 := hy.2; have h3 := hf.1; have h4 := hf.2; omega)))
      have HO17_vKeep_4 := Lib.hid (HO16_vKeep_4.out.kept (hst17.kept (fun y hy hf => by have h1 := hy.1; have h2 := hy.2; have h3 := hf.1; have h4 := hf.2; omega)))
      have HO17_R_5 := Lib.hid (HO16_R_5.out.kept (hst17.kept (fun y hy hf => by have h1 := hy.1; have h2 := hy.2; have h3 := hf.1; have h4 := hf.2; omega)))
      have HO17_R_8 := Lib.hid ho17
      have HO17_vTrace_10 := Lib.hid (HO16_vTrace_10.out.kept (hst17.kept (fun y hy hf => by have h1 := hy.1; have h2 := hy.2; have h3 := hf.1; have h4 := hf.2; omega)))
      have HO17_vKeep_12 := Lib.hid (HO16_vKeep_12.out.kept (hst17.kept (fun y hy hf => by have h1 := hy.1; have h2 := hy.2; have h3 := hf.1; have h4 := hf.2; omega)))
      have HB17 := Lib.hid (HB16.out.trans (hst17.below (fun y hy => by have := hy.1; omega) HB16.out.size))
      clear HO16_vTrace_3 HO16_vKeep_4 HO16_R_5 ho17 HO16_R_8 HO16_vTrace_10 HO16_vKeep_12 hw17 hst17 HB16
      go_wp2_with fail
      refine (laws_heldIntS (cap := c_R_8) (asgCells vTrace vKeep).length (by have h1 := asgCells_len hq_vTrace vKeep; omega) 1 (by have h1 := asgCells_len hq_vTrace vKeep; omega) _ (HO17_R_8.out.kept (Kept.of_below (by repeat (first | (with_reducible exact Below.refl _ _) | (with_reducible apply Below.drew) | (with_reducible refine below_drewN ?_ _) | (refine Below.setCell ?_ (by simp <;> omega) _) | (refine Below.alloc ?_ (by simp <;> omega) _)) : Below w17.heap.size w17 _) (fun y hy => by have := hy.2; omega)))).mono ?_
      rintro e w18 ⟨rfl, hb18⟩
      have hst18 : Below w17.heap.size w17 w18 := Below.trans (by repeat (first | (with_reducible exact Below.refl _ _) | (with_reducible apply Below.drew) | (with_reducible refine below_drewN ?_ _) | (refine Below.setCell ?_ (by simp <;> omega) _) | (refine Below.alloc ?_ (by simp <;> omega) _)) : Below w17.heap.size w17 _) (hb18.mono (Below.size (by repeat (first | (with_reducible exact Below.refl _ _) | (with_reducible apply Below.drew) | (with_reducible refine below_drewN ?_ _) | (refine Below.setCell ?_ (by simp <;> omega) _) | (refine Below.alloc ?_ (by simp <;> omega) _)) : Below w17.heap.size w17 _)))
      have hr18 : w17.heap.size ≤ w18.heap.size := Nat.le_trans (by first | exact Nat.le_refl _ | (simp; done) | (simp; omega) | (simp [World.setCell]; done) | (simp [World.setCell]; omega)) hb18.size
      have HO18_vTrace_3 := Lib.hid (HO17_vTrace_3.out.kept (Kept.of_below_all hst18))
      have HO18_vKeep_4 := Lib.hid (HO17_vKeep_4.out.kept (Kept.of_below_all hst18))
      have HO18_R_5 := Lib.hid (HO17_R_5.out.kept (Kept.of_below_all hst18))
      have HO18_R_8 := Lib.hid (HO17_R_8.out.kept (Kept.of_below_all hst18))
      have HO18_vTrace_10 := Lib.hid (HO17_vTrace_10.out.kept (Kept.of_below_all hst18))
      have HO18_vKeep_12 := Lib.hid (HO17_vKeep_12.out.kept (Kept.of_below_all hst18))
      have HB18 := Lib.hid (HB17.out.trans (hst18.mono HB17.out.size))
      clear HO17_vTrace_3 HO17_vKeep_4 HO17_R_5 HO17_R_8 HO17_vTrace_10 HO17_vKeep_12 hb18 hst18 HB17
      go_wp2_with fail
      refine (laws_toTraceStepS (cap := c_vTrace) vTrace hq_vTrace _ (Below.size (by repeat (first | (with_reducible exact Below.refl _ _) | (with_reducible apply Below.drew) | (with_reducible refine below_drewN ?_ _) | (refine Below.setCell ?_ (by simp <;> omega) _) | (refine Below.alloc ?_ (by simp <;> omega) _)) : Below w18.heap.size w18 _)) ((HS_vTrace.out.later (HB18.out.trans ((by repeat (first | (with_reducible exact Below.refl _ _) | (with_reducible apply Below.drew) | (with_reducible refine below_drewN ?_ _) | (refine Below.setCell ?_ (by simp <;> omega) _) | (refine Below.alloc ?_ (by simp <;> omega) _)) : Below w18.heap.size w18 _).mono HB18.out.size)) (Nat.le_refl _)).mono (Nat.le_refl _) HB18.out.size)).mono ?_
      rintro e w19 ⟨a_vTrace_19, c_vTrace_19, rfl, ho19, hb19⟩
      have hst19 : Below w18.heap.size w18 w19 := Below.trans (by repeat (first | (with_reducible exact Below.refl _ _) | (with_reducible apply Below.drew) | (with_reducible refine below_drewN ?_ _) | (refine Below.setCell ?_ (by simp <;> omega) _) | (refine Below.alloc ?_ (by simp <;> omega) _)) : Below w18.heap.size w18 _) (hb19.mono (Below.size (by repeat (first | (with_reducible exact Below.refl _ _) | (with_reducible apply Below.drew) | (with_reducible refine below_drewN ?_ _) | (refine Below.setCell ?_ (by simp <;> omega) _) | (refine Below.alloc ?_ (by simp <;> omega) _)) : Below w18.heap.size w18 _)))
      have hr19 : w18.heap.size ≤ w19.heap.size := Nat.le_trans (by first | exact Nat.le_refl _ | (simp; done) | (simp; omega) | (simp [World.setCell]; done) | (simp [World.setCell]; omega)) hb19.size
      have HO19_vTrace_3 := Lib.hid (HO18_vTrace_3.out.kept (Kept.of_below_all hst19))
      have HO19_vKeep_4 := Lib.hid (HO18_vKeep_4.out.kept (Kept.of_below_all hst19))
      have HO19_R_5 := Lib.hid (HO18_R_5.out.kept (Kept.of_below_all hst19))
      have HO19_R_8 := Lib.hid (HO18_R_8.out.kept (Kept.of_below_all hst19))
      have HO19_vTrace_10 := Lib.hid (HO18_vTrace_10.out.kept (Kept.of_below_all hst19))
      have HO19_vKeep_12 := Lib.hid (HO18_vKeep_12.out.kept (Kept.of_below_all hst19))
      have HO19_vTrace_19 := Lib.hid (show Own w19 (fun y => w18.heap.size ≤ y ∧ y < w19.heap.size) (.sl 3 vTrace.length (fun k => DTraceStep.ct (vTrace.getD k default))) (.slice a_vTrace_19 vTrace.length c_vTrace_19) from Own.sub (F := fun y => _ ≤ y ∧ y < _) ho19 (fun y hy => ⟨Nat.le_trans (by first | exact Nat.le_refl _ | (simp; done) | (simp; omega) | (simp [World.setCell]; done) | (simp [World.setCell]; omega)) hy.1, hy.2⟩))
      have HB19 := Lib.hid (HB18.out.trans (hst19.mono HB18.out.size))
      clear HO18_vTrace_3 HO18_vKeep_4 HO18_R_5 HO18_R_8 HO18_vTrace_10 HO18_vKeep_12 ho19 hb19 hst19 HB18
      go_wp2_with fail
      refine (laws_toInstanceS (cap := c_vKeep) vKeep hq_vKeep _ (Below.size (by repeat (first | (with_reducible exact Below.refl _ _) | (with_reducible apply Below.drew) | (with_reducible refine below_drewN ?_ _) | (refine Below.setCell ?_ (by simp <;> omega) _) | (refine Below.alloc ?_ (by simp <;> omega) _)) : Below w19.heap.size w19 _)) ((HS_vKeep.out.later (HB19.out.trans ((by repeat (first | (with_reducible exact Below.refl _ _) | (with_reducible apply Below.drew) | (with_reducible refine below_drewN ?_ _) | (refine Below.setCell ?_ (by simp <;> omega) _) | (refine Below.alloc ?_ (by simp <;> omega) _)) : Below w19.heap.size w19 _).mono HB19.out.size)) (Nat.le_refl _)).mono (Nat.le_refl _) HB19.out.size)).mono ?_
      rintro e w20 ⟨a_vKeep_20, c_vKeep_20, rfl, ho20, hb20⟩
      have hst20 : Below w19.heap.size w19 w20 := Below.trans (by repeat (first | (with_reducible exact Below.refl _ _) | (with_reducible apply Below.drew) | (with_reducible refine below_drewN ?_ _) | (refine Below.setCell ?_ (by simp <;> omega) _) | (refine Below.alloc ?_ (by simp <;> omega) _)) : Below w19.heap.size w19 _) (hb20.mono (Below.size (by repeat (first | (with_reducible exact Below.refl _ _) | (with_reducible apply Below.drew) | (with_reducible refine below_drewN ?_ _) | (refine Below.setCell ?_ (by simp <;> omega) _) | (refine Below.alloc ?_ (by simp <;> omega) _)) : Below w19.heap.size w19 _)))
      have hr20 : w19.heap.size ≤ w20.heap.size := Nat.le_trans (by first | exact Nat.le_refl _ | (simp; done) | (simp; omega) | (simp [World.setCell]; done) | (simp [World.setCell]; omega)) hb20.size
      have HO20_vTrace_3 := Lib.hid (HO19_vTrace_3.out.kept (Kept.of_below_all hst20))
      have HO20_vKeep_4 := Lib.hid (HO19_vKeep_4.out.kept (Kept.of_below_all hst20))
      have HO20_R_5 := Lib.hid (HO19_R_5.out.kept (Kept.of_below_all hst20))
      have HO20_R_8 := Lib.hid (HO19_R_8.out.kept (Kept.of_below_all hst20))
      have HO20_vTrace_10 := Lib.hid (HO19_vTrace_10.out.kept (Kept.of_below_all hst20))
      have HO20_vKeep_12 := Lib.hid (HO19_vKeep_12.out.kept (Kept.of_below_all hst20))
      have HO20_vTrace_19 := Lib.hid (HO19_vTrace_19.out.kept (Kept.of_below_all hst20))
      have HO20_vKeep_20 := Lib.hid (show Own w20 (fun y => w19.heap.size ≤ y ∧ y < w20.heap.size) (.sl 2 vKeep.length (fun k => DInstance.ct (vKeep.getD k default))) (.slice a_vKeep_20 vKeep.length c_vKeep_20) from Own.sub (F := fun y => _ ≤ y ∧ y < _) ho20 (fun y hy => ⟨Nat.le_trans (by first | exact Nat.le_refl _ | (simp; done) | (simp; omega) | (simp [World.setCell]; done) | (simp [World.setCell]; omega)) hy.1, hy.2⟩))
      have HB20 := Lib.hid (HB19.out.trans (hst20.mono HB19.out.size))
      clear HO19_vTrace_3 HO19_vKeep_4 HO19_R_5 HO19_R_8 HO19_vTrace_10 HO19_vKeep_12 HO19_vTrace_19 ho20 hb20 hst20 HB19
      go_wp2_with fail
      refine (impl_AssignSlots (c0_0 := c_vTrace_19) (c1_0 := c_vKeep_20) vTrace OK_vTrace.out hq_vTrace vKeep OK_vKeep.out hq_vKeep _ (Below.size (by repeat (first | (with_reducible exact Below.refl _ _) | (with_reducible apply Below.drew) | (with_reducible refine below_drewN ?_ _) | (refine Below.setCell ?_ (by simp <;> omega) _) | (refine Below.alloc ?_ (by simp <;> omega) _)) : Below w20.heap.size w20 _)) ((Sl.of (HO20_vTrace_19.out.lies (lo := 0) (hi := w20.heap.size) (fun y hy => ⟨Nat.zero_le _, by have := hy.2; omega⟩))).later (by repeat (first | (with_reducible exact Below.refl _ _) | (with_reducible apply Below.drew) | (with_reducible refine below_drewN ?_ _) | (refine Below.setCell ?_ (by simp <;> omega) _) | (refine Below.alloc ?_ (by simp <;> omega) _)) : Below w20.heap.size w20 _) (Nat.le_refl _)) ((Sl.of (HO20_vKeep_20.out.lies (lo := 0) (hi := w20.heap.size) (fun y hy => ⟨Nat.zero_le _, by have := hy.2; omega⟩))).later (by repeat (first | (with_reducible exact Below.refl _ _) | (with_reducible apply Below.drew) | (with_reducible refine below_drewN ?_ _) | (refine Below.setCell ?_ (by simp <;> omega) _) | (refine Below.alloc ?_ (by simp <;> omega) _)) : Below w20.heap.size w20 _) (Nat.le_refl _))).mono ?_
      rintro e w21 ⟨a_R_21, c_R_21, rfl, ho21, hb21⟩
      have hst21 : Below w20.heap.size w20 w21 := Below.trans (by repeat (first | (with_reducible exact Below.refl _ _) | (with_reducible apply Below.drew) | (with_reducible refine below_drewN ?_ _) | (refine Below.setCell ?_ (by simp <;> omega) _) | (refine Below.alloc ?_ (by simp <;> omega) _)) : Below w20.heap.size w20 _) (hb21.mono (Below.size (by repeat (first | (with_reducible exact Below.refl _ _) | (with_reducible apply Below.drew) | (with_reducible refine below_drewN ?_ _) | (refine Below.setCell ?_ (by simp <;> omega) _) | (refine Below.alloc ?_ (by simp <;> omega) _)) : Below w20.heap.size w20 _)))
      have hr21 : w20.heap.size ≤ w21.heap.size := Nat.le_trans (by first | exact Nat.le_refl _ | (simp; done) | (simp; omega) | (simp [World.setCell]; done) | (simp [World.setCell]; omega)) hb21.size
      have HO21_vTrace_3 := Lib.hid (HO20_vTrace_3.out.kept (Kept.of_below_all hst21))
      have HO21_vKeep_4 := Lib.hid (HO20_vKeep_4.out.kept (Kept.of_below_all hst21))
      have HO21_R_5 := Lib.hid (HO20_R_5.out.kept (Kept.of_below_all hst21))
      have HO21_R_8 := Lib.hid (HO20_R_8.out.kept (Kept.of_below_all hst21))
      have HO21_vTrace_10 := Lib.hid (HO20_vTrace_10.out.kept (Kept.of_below_all hst21))
      have HO21_vKeep_12 := Lib.hid (HO20_vKeep_12.out.kept (Kept.of_below_all hst21))
      have HO21_vTrace_19 := Lib.hid (HO20_vTrace_19.out.kept (Kept.of_below_all hst21))
      have HO21_vKeep_20 := Lib.hid (HO20_vKeep_20.out.kept (Kept.of_below_all hst21))
      have HO21_R_21 := Lib.hid (show Own w21 (fun y => w20.heap.size ≤ y ∧ y < w21.heap.size) (.sl 1 (asgCells vTrace vKeep).length (fun k => ictI ((asgCells vTrace vKeep).getD k default))) (.slice a_R_21 (asgCells vTrace vKeep).length c_R_21) from Own.sub (F := fun y => _ ≤ y ∧ y < _) ho21 (fun y hy => ⟨Nat.le_trans (by first | exact Nat.le_refl _ | (simp; done) | (simp; omega) | (simp [World.setCell]; done) | (simp [World.setCell]; omega)) hy.1, hy.2⟩))
      have HB21 := Lib.hid (HB20.out.trans (hst21.mono HB20.out.size))
      clear HO20_vTrace_3 HO20_vKeep_4 HO20_R_5 HO20_R_8 HO20_vTrace_10 HO20_vKeep_12 HO20_vTrace_19 HO20_vKeep_20 ho21 hb21 hst21 HB20
      go_wp2_with fail
      refine (laws_eqIntS (cap := c_R_21) (cap2 := c_R_5) (asgCells vTrace vKeep) hq_R _ (Below.size (by repeat (first | (with_reducible exact Below.refl _ _) | (with_reducible apply Below.drew) | (with_reducible refine below_drewN ?_ _) | (refine Below.setCell ?_ (by simp <;> omega) _) | (refine Below.alloc ?_ (by simp <;> omega) _)) : Below w21.heap.size w21 _)) (Below.size (by repeat (first | (with_reducible exact Below.refl _ _) | (with_reducible apply Below.drew) | (with_reducible refine below_drewN ?_ _) | (refine Below.setCell ?_ (by simp <;> omega) _) | (refine Below.alloc ?_ (by simp <;> omega) _)) : Below w21.heap.size w21 _)) ((Sl.of (HO21_R_21.out.lies (lo := 0) (hi := w21.heap.size) (fun y hy => ⟨Nat.zero_le _, by have := hy.2; omega⟩))).later (by repeat (first | (with_reducible exact Below.refl _ _) | (with_reducible apply Below.drew) | (with_reducible refine below_drewN ?_ _) | (refine Below.setCell ?_ (by simp <;> omega) _) | (refine Below.alloc ?_ (by simp <;> omega) _)) : Below w21.heap.size w21 _) (Nat.le_refl _)) ((Sl.of (HO21_R_5.out.lies (lo := 0) (hi := w21.heap.size) (fun y hy => ⟨Nat.zero_le _, by have := hy.2; omega⟩))).later (by repeat (first | (with_reducible exact Below.refl _ _) | (with_reducible apply Below.drew) | (with_reducible refine below_drewN ?_ _) | (refine Below.setCell ?_ (by simp <;> omega) _) | (refine Below.alloc ?_ (by simp <;> omega) _)) : Below w21.heap.size w21 _) (Nat.le_refl _))).mono ?_
      rintro e w22 ⟨rfl, hb22⟩
      have hst22 : Below w21.heap.size w21 w22 := Below.trans (by repeat (first | (with_reducible exact Below.refl _ _) | (with_reducible apply Below.drew) | (with_reducible refine below_drewN ?_ _) | (refine Below.setCell ?_ (by simp <;> omega) _) | (refine Below.alloc ?_ (by simp <;> omega) _)) : Below w21.heap.size w21 _) (hb22.mono (Below.size (by repeat (first | (with_reducible exact Below.refl _ _) | (with_reducible apply Below.drew) | (with_reducible refine below_drewN ?_ _) | (refine Below.setCell ?_ (by simp <;> omega) _) | (refine Below.alloc ?_ (by simp <;> omega) _)) : Below w21.heap.size w21 _)))
      have hr22 : w21.heap.size ≤ w22.heap.size := Nat.le_trans (by first | exact Nat.le_refl _ | (simp; done) | (simp; omega) | (simp [World.setCell]; done) | (simp [World.setCell]; omega)) hb22.size
      have HO22_vTrace_3 := Lib.hid (HO21_vTrace_3.out.kept (Kept.of_below_all hst22))
      have HO22_vKeep_4 := Lib.hid (HO21_vKeep_4.out.kept (Kept.of_below_all hst22))
      have HO22_R_5 := Lib.hid (HO21_R_5.out.kept (Kept.of_below_all hst22))
      have HO22_R_8 := Lib.hid (HO21_R_8.out.kept (Kept.of_below_all hst22))
      have HO22_vTrace_10 := Lib.hid (HO21_vTrace_10.out.kept (Kept.of_below_all hst22))
      have HO22_vKeep_12 := Lib.hid (HO21_vKeep_12.out.kept (Kept.of_below_all hst22))
      have HO22_vTrace_19 := Lib.hid (HO21_vTrace_19.out.kept (Kept.of_below_all hst22))
      have HO22_vKeep_20 := Lib.hid (HO21_vKeep_20.out.kept (Kept.of_below_all hst22))
      have HO22_R_21 := Lib.hid (HO21_R_21.out.kept (Kept.of_below_all hst22))
      have HB22 := Lib.hid (HB21.out.trans (hst22.mono HB21.out.size))
      clear HO21_vTrace_3 HO21_vKeep_4 HO21_R_5 HO21_R_8 HO21_vTrace_10 HO21_vKeep_12 HO21_vTrace_19 HO21_vKeep_20 HO21_R_21 hb22 hst22 HB21
      go_wp2_with fail
      refine (laws_heldIntS (cap := c_R_8) (asgCells vTrace vKeep).length (by have h1 := asgCells_len hq_vTrace vKeep; omega) 1 (by have h1 := asgCells_len hq_vTrace vKeep; omega) _ (HO22_R_8.out.kept (Kept.of_below (by repeat (first | (with_reducible exact Below.refl _ _) | (with_reducible apply Below.drew) | (with_reducible refine below_drewN ?_ _) | (refine Below.setCell ?_ (by simp <;> omega) _) | (refine Below.alloc ?_ (by simp <;> omega) _)) : Below w22.heap.size w22 _) (fun y hy => by have := hy.2; omega)))).mono ?_
      rintro e w23 ⟨rfl, hb23⟩
      have hst23 : Below w22.heap.size w22 w23 := Below.trans (by repeat (first | (with_reducible exact Below.refl _ _) | (with_reducible apply Below.drew) | (with_reducible refine below_drewN ?_ _) | (refine Below.setCell ?_ (by simp <;> omega) _) | (refine Below.alloc ?_ (by simp <;> omega) _)) : Below w22.heap.size w22 _) (hb23.mono (Below.size (by repeat (first | (with_reducible exact Below.refl _ _) | (with_reducible apply Below.drew) | (with_reducible refine below_drewN ?_ _) | (refine Below.setCell ?_ (by simp <;> omega) _) | (refine Below.alloc ?_ (by simp <;> omega) _)) : Below w22.heap.size w22 _)))
      have hr23 : w22.heap.size ≤ w23.heap.size := Nat.le_trans (by first | exact Nat.le_refl _ | (simp; done) | (simp; omega) | (simp [World.setCell]; done) | (simp [World.setCell]; omega)) hb23.size
      have HO23_vTrace_3 := Lib.hid (HO22_vTrace_3.out.kept (Kept.of_below_all hst23))
      have HO23_vKeep_4 := Lib.hid (HO22_vKeep_4.out.kept (Kept.of_below_all hst23))
      have HO23_R_5 := Lib.hid (HO22_R_5.out.kept (Kept.of_below_all hst23))
      have HO23_R_8 := Lib.hid (HO22_R_8.out.kept (Kept.of_below_all hst23))
      have HO23_vTrace_10 := Lib.hid (HO22_vTrace_10.out.kept (Kept.of_below_all hst23))
      have HO23_vKeep_12 := Lib.hid (HO22_vKeep_12.out.kept (Kept.of_below_all hst23))
      have HO23_vTrace_19 := Lib.hid (HO22_vTrace_19.out.kept (Kept.of_below_all hst23))
      have HO23_vKeep_20 := Lib.hid (HO22_vKeep_20.out.kept (Kept.of_below_all hst23))
      have HO23_R_21 := Lib.hid (HO22_R_21.out.kept (Kept.of_below_all hst23))
      have HB23 := Lib.hid (HB22.out.trans (hst23.mono HB22.out.size))
      clear HO22_vTrace_3 HO22_vKeep_4 HO22_R_5 HO22_R_8 HO22_vTrace_10 HO22_vKeep_12 HO22_vTrace_19 HO22_vKeep_20 HO22_R_21 hb23 hst23 HB22
      go_wp2
      go_ret
      exact ⟨rfl, HB23.out⟩
end Go.Proofs.Ytopcpgbhmnlcnaa.fnExactAssignSlots
