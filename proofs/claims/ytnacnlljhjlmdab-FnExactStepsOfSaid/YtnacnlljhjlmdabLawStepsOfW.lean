/-
  The law FnExactStepsOf: for every list of plans and every name the program's StepsOf answers as the model's, and its answer owns its memory. No condition.
-/
import Derived.Test.YtnacnlljhjlmdabStepsOf
import Derived.Test.YtnacnlljhjlmdabMkStep
import Derived.Test.YtnacnlljhjlmdabMkRulePlan
import Derived.SizedLaws
namespace Go.Proofs.Ytnacnlljhjlmdab.fnExactStepsOf
open Go.ChangeShapes Go.WideShapes Go.ChangeAt Go.RowKit Go.WideMaps Go.WideElems
open Go.ChangeMaps (open_string)
open Go.Lib Go.Deep

set_option maxHeartbeats 6400000 in
set_option maxRecDepth 100000 in
theorem walk (vPlans : List (DRulePlan)) (a_vPlans : Option Addr) (c_vPlans : Nat) (ok_vPlans : (okL DRulePlan.ok) vPlans) (vRule : ByteArray) (ok_vRule : okS vRule) (w : World) (hs_vPlans : Sl 0 w.heap.size w 2 vPlans.length (fun k => DRulePlan.ct (vPlans.getD k default)) a_vPlans) :
    Calls Try.prog 5 #[.slice a_vPlans vPlans.length c_vPlans, .string vRule] w fun e w' => e = .returned (.bool true) ∧ Below w.heap.size w w' := by
  have HS_vPlans := Lib.hid hs_vPlans
  clear hs_vPlans
  have OK_vPlans := Lib.hid ok_vPlans
  clear ok_vPlans
  have okb_vRule : vRule.size ≤ 9223372036854775807 := ok_vRule
  have OK_vRule := Lib.hid ok_vRule
  clear ok_vRule
  by_cases hl0 : (1048576 : Int) < ((vRule.size : Nat) : Int)
  · skip
    go_enter Try.func5, Try.ntmps5
    go_wp2
    go_ret
    exact ⟨rfl, (by repeat (first | (with_reducible exact Below.refl _ _) | (refine Below.alloc ?_ (by simp <;> omega) _)))⟩
  · have hq_vRule : vRule.size ≤ 1048576 := by omega
    clear hl0
    by_cases h0 : 1048576 < (((lsz DRulePlan.sz) vPlans : Nat) : Int)
    · skip
      have hz := fun (hi : Nat) (w' : World) (hhi : hi ≤ w'.heap.size) (hs_vPlans : Sl 0 hi w' 2 vPlans.length (fun k => DRulePlan.ct (vPlans.getD k default)) a_vPlans) => laws_szRulePlanS (cap := c_vPlans) vPlans 1048576 (by omega) (by omega) OK_vPlans.out w' hhi hs_vPlans
      rw [szR_gt (by omega)] at hz
      have HZ_vPlans := Lib.hid hz
      clear hz
      go_enter Try.func5, Try.ntmps5
      go_wp2_with fail
      refine (HZ_vPlans.out w.heap.size _ (Below.size (by repeat (first | (with_reducible exact Below.refl _ _) | (with_reducible apply Below.drew) | (with_reducible refine below_drewN ?_ _) | (refine Below.setCell ?_ (by simp <;> omega) _) | (refine Below.alloc ?_ (by simp <;> omega) _)) : Below w.heap.size w _)) ((HS_vPlans.out.later ((Below.refl w.heap.size w).trans ((by repeat (first | (with_reducible exact Below.refl _ _) | (with_reducible apply Below.drew) | (with_reducible refine below_drewN ?_ _) | (refine Below.setCell ?_ (by simp <;> omega) _) | (refine Below.alloc ?_ (by simp <;> omega) _)) : Below w.heap.size w _).mono (Below.refl w.heap.size w).size)) (Nat.le_refl _)).mono (Nat.le_refl _) (Below.refl w.heap.size w).size)).mono ?_
      rintro e w1 ⟨rfl, hb1⟩
      have hst1 : Below w.heap.size w w1 := Below.trans (by repeat (first | (with_reducible exact Below.refl _ _) | (with_reducible apply Below.drew) | (with_reducible refine below_drewN ?_ _) | (refine Below.setCell ?_ (by simp <;> omega) _) | (refine Below.alloc ?_ (by simp <;> omega) _)) : Below w.heap.size w _) (hb1.mono (Below.size (by repeat (first | (with_reducible exact Below.refl _ _) | (with_reducible apply Below.drew) | (with_reducible refine below_drewN ?_ _) | (refine Below.setCell ?_ (by simp <;> omega) _) | (refine Below.alloc ?_ (by simp <;> omega) _)) : Below w.heap.size w _)))
      have hr1 : w.heap.size ≤ w1.heap.size := Nat.le_trans (by first | exact Nat.le_refl _ | (simp; done) | (simp; omega) | (simp [World.setCell]; done) | (simp [World.setCell]; omega)) hb1.size
      have HB1 := Lib.hid ((Below.refl w.heap.size w).trans (hst1.mono (Below.refl w.heap.size w).size))
      clear hb1 hst1
      go_wp2
      go_ret
      exact ⟨rfl, HB1.out⟩
    · skip
      have hz := fun (hi : Nat) (w' : World) (hhi : hi ≤ w'.heap.size) (hs_vPlans : Sl 0 hi w' 2 vPlans.length (fun k => DRulePlan.ct (vPlans.getD k default)) a_vPlans) => laws_szRulePlanS (cap := c_vPlans) vPlans 1048576 (by omega) (by omega) OK_vPlans.out w' hhi hs_vPlans
      rw [szR_le (by omega)] at hz
      have HZ_vPlans := Lib.hid hz
      clear hz
      have hq_vPlans : (lsz DRulePlan.sz) vPlans ≤ 1048576 := by omega
      have hq_R : (lsz DStep.sz) (stepsOf vPlans vRule) ≤ 1048576 := stepsOf_sz hq_vPlans vRule
      go_enter Try.func5, Try.ntmps5
      go_wp2_with fail
      refine (HZ_vPlans.out w.heap.size _ (Below.size (by repeat (first | (with_reducible exact Below.refl _ _) | (with_reducible apply Below.drew) | (with_reducible refine below_drewN ?_ _) | (refine Below.setCell ?_ (by simp <;> omega) _) | (refine Below.alloc ?_ (by simp <;> omega) _)) : Below w.heap.size w _)) ((HS_vPlans.out.later ((Below.refl w.heap.size w).trans ((by repeat (first | (with_reducible exact Below.refl _ _) | (with_reducible apply Below.drew) | (with_reducible refine below_drewN ?_ _) | (refine Below.setCell ?_ (by simp <;> omega) _) | (refine Below.alloc ?_ (by simp <;> omega) _)) : Below w.heap.size w _).mono (Below.refl w.heap.size w).size)) (Nat.le_refl _)).mono (Nat.le_refl _) (Below.refl w.heap.size w).size)).mono ?_
      rintro e w1 ⟨rfl, hb1⟩
      have hst1 : Below w.heap.size w w1 := Below.trans (by repeat (first | (with_reducible exact Below.refl _ _) | (with_reducible apply Below.drew) | (with_reducible refine below_drewN ?_ _) | (refine Below.setCell ?_ (by simp <;> omega) _) | (refine Below.alloc ?_ (by simp <;> omega) _)) : Below w.heap.size w _) (hb1.mono (Below.size (by repeat (first | (with_reducible exact Below.refl _ _) | (with_reducible apply Below.drew) | (with_reducible refine below_drewN ?_ _) | (refine Below.setCell ?_ (by simp <;> omega) _) | (refine Below.alloc ?_ (by simp <;> omega) _)) : Below w.heap.size w _)))
      have hr1 : w.heap.size ≤ w1.heap.size := Nat.le_trans (by first | exact Nat.le_refl _ | (simp; done) | (simp; omega) | (simp [World.setCell]; done) | (simp [World.setCell]; omega)) hb1.size
      have HB1 := Lib.hid ((Below.refl w.heap.size w).trans (hst1.mono (Below.refl w.heap.size w).size))
      clear hb1 hst1
      go_wp2_with fail
      refine (laws_toRulePlanS (cap := c_vPlans) vPlans hq_vPlans _ (Below.size (by repeat (first | (with_reducible exact Below.refl _ _) | (with_reducible apply Below.drew) | (with_reducible refine below_drewN ?_ _) | (refine Below.setCell ?_ (by simp <;> omega) _) | (refine Below.alloc ?_ (by simp <;> omega) _)) : Below w1.heap.size w1 _)) ((HS_vPlans.out.later (HB1.out.trans ((by repeat (first | (with_reducible exact Below.refl _ _) | (with_reducible apply Below.drew) | (with_reducible refine below_drewN ?_ _) | (refine Below.setCell ?_ (by simp <;> omega) _) | (refine Below.alloc ?_ (by simp <;> omega) _)) : Below w1.heap.size w1 _).mono HB1.out.size)) (Nat.le_refl _)).mono (Nat.le_refl _) HB1.out.size)).mono ?_
      rintro e w2 ⟨a_vPlans_2, c_vPlans_2, rfl, ho2, hb2⟩
      have hst2 : Below w1.heap.size w1 w2 := Below.trans (by repeat (first | (with_reducible exact Below.refl _ _) | (with_reducible apply Below.drew) | (with_reducible refine below_drewN ?_ _) | (refine Below.setCell ?_ (by simp <;> omega) _) | (refine Below.alloc ?_ (by simp <;> omega) _)) : Below w1.heap.size w1 _) (hb2.mono (Below.size (by repeat (first | (with_reducible exact Below.refl _ _) | (with_reducible apply Below.drew) | (with_reducible refine below_drewN ?_ _) | (refine Below.setCell ?_ (by simp <;> omega) _) | (refine Below.alloc ?_ (by simp <;> omega) _)) : Below w1.heap.size w1 _)))
      have hr2 : w1.heap.size ≤ w2.heap.size := Nat.le_trans (by first | exact Nat.le_refl _ | (simp; done) | (simp; omega) | (simp [World.setCell]; done) | (simp [World.setCell]; omega)) hb2.size
      have HO2_vPlans_2 := Lib.hid (show Own w2 (fun y => w1.heap.size ≤ y ∧ y < w2.heap.size) (.sl 2 vPlans.length (fun k => DRulePlan.ct (vPlans.getD k default))) (.slice a_vPlans_2 vPlans.length c_vPlans_2) from Own.sub (F := fun y => _ ≤ y ∧ y < _) ho2 (fun y hy => ⟨Nat.le_trans (by first | exact Nat.le_refl _ | (simp; done) | (simp; omega) | (simp [World.setCell]; done) | (simp [World.setCell]; omega)) hy.1, hy.2⟩))
      have HB2 := Lib.hid (HB1.out.trans (hst2.mono HB1.out.size))
      clear ho2 hb2 hst2 HB1
      go_wp2_with fail
      refine (spec_StepsOf (c0_0 := c_vPlans_2) vPlans OK_vPlans.out hq_vPlans vRule OK_vRule.out hq_vRule _ (Below.size (by repeat (first | (with_reducible exact Below.refl _ _) | (with_reducible apply Below.drew) | (with_reducible refine below_drewN ?_ _) | (refine Below.setCell ?_ (by simp <;> omega) _) | (refine Below.alloc ?_ (by simp <;> omega) _)) : Below w2.heap.size w2 _)) ((Sl.of (HO2_vPlans_2.out.lies (lo := 0) (hi := w2.heap.size) (fun y hy => ⟨Nat.zero_le _, by have := hy.2; omega⟩))).later (by repeat (first | (with_reducible exact Below.refl _ _) | (with_reducible apply Below.drew) | (with_reducible refine below_drewN ?_ _) | (refine Below.setCell ?_ (by simp <;> omega) _) | (refine Below.alloc ?_ (by simp <;> omega) _)) : Below w2.heap.size w2 _) (Nat.le_refl _))).mono ?_
      rintro e w3 ⟨a_R_3, c_R_3, rfl, ho3, hb3⟩
      have hst3 : Below w2.heap.size w2 w3 := Below.trans (by repeat (first | (with_reducible exact Below.refl _ _) | (with_reducible apply Below.drew) | (with_reducible refine below_drewN ?_ _) | (refine Below.setCell ?_ (by simp <;> omega) _) | (refine Below.alloc ?_ (by simp <;> omega) _)) : Below w2.heap.size w2 _) (hb3.mono (Below.size (by repeat (first | (with_reducible exact Below.refl _ _) | (with_reducible apply Below.drew) | (with_reducible refine below_drewN ?_ _) | (refine Below.setCell ?_ (by simp <;> omega) _) | (refine Below.alloc ?_ (by simp <;> omega) _)) : Below w2.heap.size w2 _)))
      have hr3 : w2.heap.size ≤ w3.heap.size := Nat.le_trans (by first | exact Nat.le_refl _ | (simp; done) | (simp; omega) | (simp [World.setCell]; done) | (simp [World.setCell]; omega)) hb3.size
      have HO3_vPlans_2 := Lib.hid (HO2_vPlans_2.out.kept (Kept.of_below_all hst3))
      have HO3_R_3 := Lib.hid (show Own w3 (fun y => w2.heap.size ≤ y ∧ y < w3.heap.size) (.sl 4 (stepsOf vPlans vRule).length (fun k => DStep.ct ((stepsOf vPlans vRule).getD k default))) (.slice a_R_3 (stepsOf vPlans vRule).length c_R_3) from Own.sub (F := fun y => _ ≤ y ∧ y < _) ho3 (fun y hy => ⟨Nat.le_trans (by first | exact Nat.le_refl _ | (simp; done) | (simp; omega) | (simp [World.setCell]; done) | (simp [World.setCell]; omega)) hy.1, hy.2⟩))
      have HB3 := Lib.hid (HB2.out.trans (hst3.mono HB2.out.size))
      clear HO2_vPlans_2 ho3 hb3 hst3 HB2
      go_wp2_with fail
      refine (laws_toRulePlanS (cap := c_vPlans) vPlans hq_vPlans _ (Below.size (by repeat (first | (with_reducible exact Below.refl _ _) | (with_reducible apply Below.drew) | (with_reducible refine below_drewN ?_ _) | (refine Below.setCell ?_ (by simp <;> omega) _) | (refine Below.alloc ?_ (by simp <;> omega) _)) : Below w3.heap.size w3 _)) ((HS_vPlans.out.later (HB3.out.trans ((by repeat (first | (with_reducible exact Below.refl _ _) | (with_reducible apply Below.drew) | (with_reducible refine below_drewN ?_ _) | (refine Below.setCell ?_ (by simp <;> omega) _) | (refine Below.alloc ?_ (by simp <;> omega) _)) : Below w3.heap.size w3 _).mono HB3.out.size)) (Nat.le_refl _)).mono (Nat.le_refl _) HB3.out.size)).mono ?_
      rintro e w4 ⟨a_vPlans_4, c_vPlans_4, rfl, ho4, hb4⟩
      have hst4 : Below w3.heap.size w3 w4 := Below.trans (by repeat (first | (with_reducible exact Below.refl _ _) | (with_reducible apply Below.drew) | (with_reducible refine below_drewN ?_ _) | (refine Below.setCell ?_ (by simp <;> omega) _) | (refine Below.alloc ?_ (by simp <;> omega) _)) : Below w3.heap.size w3 _) (hb4.mono (Below.size (by repeat (first | (with_reducible exact Below.refl _ _) | (with_reducible apply Below.drew) | (with_reducible refine below_drewN ?_ _) | (refine Below.setCell ?_ (by simp <;> omega) _) | (refine Below.alloc ?_ (by simp <;> omega) _)) : Below w3.heap.size w3 _)))
      have hr4 : w3.heap.size ≤ w4.heap.size := Nat.le_trans (by first | exact Nat.le_refl _ | (simp; done) | (simp; omega) | (simp [World.setCell]; done) | (simp [World.setCell]; omega)) hb4.size
      have HO4_vPlans_2 := Lib.hid (HO3_vPlans_2.out.kept (Kept.of_below_all hst4))
      have HO4_R_3 := Lib.hid (HO3_R_3.out.kept (Kept.of_below_all hst4))
      have HO4_vPlans_4 := Lib.hid (show Own w4 (fun y => w3.heap.size ≤ y ∧ y < w4.heap.size) (.sl 2 vPlans.length (fun k => DRulePlan.ct (vPlans.getD k default))) (.slice a_vPlans_4 vPlans.length c_vPlans_4) from Own.sub (F := fun y => _ ≤ y ∧ y < _) ho4 (fun y hy => ⟨Nat.le_trans (by first | exact Nat.le_refl _ | (simp; done) | (simp; omega) | (simp [World.setCell]; done) | (simp [World.setCell]; omega)) hy.1, hy.2⟩))
      have HB4 := Lib.hid (HB3.out.trans (hst4.mono HB3.out.size))
      clear HO3_vPlans_2 HO3_R_3 ho4 hb4 hst4 HB3
      go_wp2_with fail
      refine (impl_StepsOf (c0_0 := c_vPlans_4) vPlans OK_vPlans.out hq_vPlans vRule OK_vRule.out hq_vRule _ (Below.size (by repeat (first | (with_reducible exact Below.refl _ _) | (with_reducible apply Below.drew) | (with_reducible refine below_drewN ?_ _) | (refine Below.setCell ?_ (by simp <;> omega) _) | (refine Below.alloc ?_ (by simp <;> omega) _)) : Below w4.heap.size w4 _)) ((Sl.of (HO4_vPlans_4.out.lies (lo := 0) (hi := w4.heap.size) (fun y hy => ⟨Nat.zero_le _, by have := hy.2; omega⟩))).later (by repeat (first | (with_reducible exact Below.refl _ _) | (with_reducible apply Below.drew) | (with_reducible refine below_drewN ?_ _) | (refine Below.setCell ?_ (by simp <;> omega) _) | (refine Below.alloc ?_ (by simp <;> omega) _)) : Below w4.heap.size w4 _) (Nat.le_refl _))).mono ?_
      rintro e w5 ⟨a_R_5, c_R_5, rfl, ho5, hb5⟩
      have hst5 : Below w4.heap.size w4 w5 := Below.trans (by repeat (first | (with_reducible exact Below.refl _ _) | (with_reducible apply Below.drew) | (with_reducible refine below_drewN ?_ _) | (refine Below.setCell ?_ (by simp <;> omega) _) | (refine Below.alloc ?_ (by simp <;> omega) _)) : Below w4.heap.size w4 _) (hb5.mono (Below.size (by repeat (first | (with_reducible exact Below.refl _ _) | (with_reducible apply Below.drew) | (with_reducible refine below_drewN ?_ _) | (refine Below.setCell ?_ (by simp <;> omega) _) | (refine Below.alloc ?_ (by simp <;> omega) _)) : Below w4.heap.size w4 _)))
      have hr5 : w4.heap.size ≤ w5.heap.size := Nat.le_trans (by first | exact Nat.le_refl _ | (simp; done) | (simp; omega) | (simp [World.setCell]; done) | (simp [World.setCell]; omega)) hb5.size
      have HO5_vPlans_2 := Lib.hid (HO4_vPlans_2.out.kept (Kept.of_below_all hst5))
      have HO5_R_3 := Lib.hid (HO4_R_3.out.kept (Kept.of_below_all hst5))
      have HO5_vPlans_4 := Lib.hid (HO4_vPlans_4.out.kept (Kept.of_below_all hst5))
      have HO5_R_5 := Lib.hid (show Own w5 (fun y => w4.heap.size ≤ y ∧ y < w5.heap.size) (.sl 4 (stepsOf vPlans vRule).length (fun k => DStep.ct ((stepsOf vPlans vRule).getD k default))) (.slice a_R_5 (stepsOf vPlans vRule).length c_R_5) from Own.sub (F := fun y => _ ≤ y ∧ y < _) ho5 (fun y hy => ⟨Nat.le_trans (by first | exact Nat.le_refl _ | (simp; done) | (simp; omega) | (simp [World.setCell]; done) | (simp [World.setCell]; omega)) hy.1, hy.2⟩))
      have HB5 := Lib.hid (HB4.out.trans (hst5.mono HB4.out.size))
      clear HO4_vPlans_2 HO4_R_3 HO4_vPlans_4 ho5 hb5 hst5 HB4
      go_wp2_with fail
      refine (laws_eqStepS (cap := c_R_5) (cap2 := c_R_3) (stepsOf vPlans vRule) hq_R _ (Below.size (by repeat (first | (with_reducible exact Below.refl _ _) | (with_reducible apply Below.drew) | (with_reducible refine below_drewN ?_ _) | (refine Below.setCell ?_ (by simp <;> omega) _) | (refine Below.alloc ?_ (by simp <;> omega) _)) : Below w5.heap.size w5 _)) (Below.size (by repeat (first | (with_reducible exact Below.refl _ _) | (with_reducible apply Below.drew) | (with_reducible refine below_drewN ?_ _) | (refine Below.setCell ?_ (by simp <;> omega) _) | (refine Below.alloc ?_ (by simp <;> omega) _)) : Below w5.heap.size w5 _)) ((Sl.of (HO5_R_5.out.lies (lo := 0) (hi := w5.heap.size) (fun y hy => ⟨Nat.zero_le _, by have := hy.2; omega⟩))).later (by repeat (first | (with_reducible exact Below.refl _ _) | (with_reducible apply Below.drew) | (with_reducible refine below_drewN ?_ _) | (refine Below.setCell ?_ (by simp <;> omega) _) | (refine Below.alloc ?_ (by simp <;> omega) _)) : Below w5.heap.size w5 _) (Nat.le_refl _)) ((Sl.of (HO5_R_3.out.lies (lo := 0) (hi := w5.heap.size) (fun y hy => ⟨Nat.zero_le _, by have := hy.2; omega⟩))).later (by repeat (first | (with_reducible exact Below.refl _ _) | (with_reducible apply Below.drew) | (with_reducible refine below_drewN ?_ _) | (refine Below.setCell ?_ (by simp <;> omega) _) | (refine Below.alloc ?_ (by simp <;> omega) _)) : Below w5.heap.size w5 _) (Nat.le_refl _))).mono ?_
      rintro e w6 ⟨rfl, hb6⟩
      have hst6 : Below w5.heap.size w5 w6 := Below.trans (by repeat (first | (with_reducible exact Below.refl _ _) | (with_reducible apply Below.drew) | (with_reducible refine below_drewN ?_ _) | (refine Below.setCell ?_ (by simp <;> omega) _) | (refine Below.alloc ?_ (by simp <;> omega) _)) : Below w5.heap.size w5 _) (hb6.mono (Below.size (by repeat (first | (with_reducible exact Below.refl _ _) | (with_reducible apply Below.drew) | (with_reducible refine below_drewN ?_ _) | (refine Below.setCell ?_ (by simp <;> omega) _) | (refine Below.alloc ?_ (by simp <;> omega) _)) : Below w5.heap.size w5 _)))
      have hr6 : w5.heap.size ≤ w6.heap.size := Nat.le_trans (by first | exact Nat.le_refl _ | (simp; done) | (simp; omega) | (simp [World.setCell]; done) | (simp [World.setCell]; omega)) hb6.size
      have HO6_vPlans_2 := Lib.hid (HO5_vPlans_2.out.kept (Kept.of_below_all hst6))
      have HO6_R_3 := Lib.hid (HO5_R_3.out.kept (Kept.of_below_all hst6))
      have HO6_vPlans_4 := Lib.hid (HO5_vPlans_4.out.kept (Kept.of_below_all hst6))
      have HO6_R_5 := Lib.hid (HO5_R_5.out.kept (Kept.of_below_all hst6))
      have HB6 := Lib.hid (HB5.out.trans (hst6.mono HB5.out.size))
      clear HO5_vPlans_2 HO5_R_3 HO5_vPlans_4 HO5_R_5 hb6 hst6 HB5
      go_wp2_with fail
      refine (laws_toRulePlanS (cap := c_vPlans) vPlans hq_vPlans _ (Below.size (by repeat (first | (with_reducible exact Below.refl _ _) | (with_reducible apply Below.drew) | (with_reducible refine below_drewN ?_ _) | (refine Below.setCell ?_ (by simp <;> omega) _) | (refine Below.alloc ?_ (by simp <;> omega) _)) : Below w6.heap.size w6 _)) ((HS_vPlans.out.later (HB6.out.trans ((by repeat (first | (with_reducible exact Below.refl _ _) | (with_reducible apply Below.drew) | (with_reducible refine below_drewN ?_ _) | (refine Below.setCell ?_ (by simp <;> omega) _) | (refine Below.alloc ?_ (by simp <;> omega) _)) : Below w6.heap.size w6 _).mono HB6.out.size)) (Nat.le_refl _)).mono (Nat.le_refl _) HB6.out.size)).mono ?_
      rintro e w7 ⟨a_vPlans_7, c_vPlans_7, rfl, ho7, hb7⟩
      have hst7 : Below w6.heap.size w6 w7 := Below.trans (by repeat (first | (with_reducible exact Below.refl _ _) | (with_reducible apply Below.drew) | (with_reducible refine below_drewN ?_ _) | (refine Below.setCell ?_ (by simp <;> omega) _) | (refine Below.alloc ?_ (by simp <;> omega) _)) : Below w6.heap.size w6 _) (hb7.mono (Below.size (by repeat (first | (with_reducible exact Below.refl _ _) | (with_reducible apply Below.drew) | (with_reducible refine below_drewN ?_ _) | (refine Below.setCell ?_ (by simp <;> omega) _) | (refine Below.alloc ?_ (by simp <;> omega) _)) : Below w6.heap.size w6 _)))
      have hr7 : w6.heap.size ≤ w7.heap.size := Nat.le_trans (by first | exact Nat.le_refl _ | (simp; done) | (simp; omega) | (simp [World.setCell]; done) | (simp [World.setCell]; omega)) hb7.size
      have HO7_vPlans_2 := Lib.hid (HO6_vPlans_2.out.kept (Kept.of_below_all hst7))
      have HO7_R_3 := Lib.hid (HO6_R_3.out.kept (Kept.of_below_all hst7))
      have HO7_vPlans_4 := Lib.hid (HO6_vPlans_4.out.kept (Kept.of_below_all hst7))
      have HO7_R_5 := Lib.hid (HO6_R_5.out.kept (Kept.of_below_all hst7))
      have HO7_vPlans_7 := Lib.hid (show Own w7 (fun y => w6.heap.size ≤ y ∧ y < w7.heap.size) (.sl 2 vPlans.length (fun k => DRulePlan.ct (vPlans.getD k default))) (.slice a_vPlans_7 vPlans.length c_vPlans_7) from Own.sub (F := fun y => _ ≤ y ∧ y < _) ho7 (fun y hy => ⟨Nat.le_trans (by first | exact Nat.le_refl _ | (simp; done) | (simp; omega) | (simp [World.setCell]; done) | (simp [World.setCell]; omega)) hy.1, hy.2⟩))
      have HB7 := Lib.hid (HB6.out.trans (hst7.mono HB6.out.size))
      clear HO6_vPlans_2 HO6_R_3 HO6_vPlans_4 HO6_R_5 ho7 hb7 hst7 HB6
      go_wp2_with fail
      refine (laws_eqRulePlanS (cap := c_vPlans_4) (cap2 := c_vPlans_7) vPlans hq_vPlans _ (Below.size (by repeat (first | (with_reducible exact Below.refl _ _) | (with_reducible apply Below.drew) | (with_reducible refine below_drewN ?_ _) | (refine Below.setCell ?_ (by simp <;> omega) _) | (refine Below.alloc ?_ (by simp <;> omega) _)) : Below w7.heap.size w7 _)) (Below.size (by repeat (first | (with_reducible exact Below.refl _ _) | (with_reducible apply Below.drew) | (with_reducible refine below_drewN ?_ _) | (refine Below.setCell ?_ (by simp <;> omega) _) | (refine Below.alloc ?_ (by simp <;> omega) _)) : Below w7.heap.size w7 _)) ((Sl.of (HO7_vPlans_4.out.lies (lo := 0) (hi := w7.heap.size) (fun y hy => ⟨Nat.zero_le _, by have := hy.2; omega⟩))).later (by repeat (first | (with_reducible exact Below.refl _ _) | (with_reducible apply Below.drew) | (with_reducible refine below_drewN ?_ _) | (refine Below.setCell ?_ (by simp <;> omega) _) | (refine Below.alloc ?_ (by simp <;> omega) _)) : Below w7.heap.size w7 _) (Nat.le_refl _)) ((Sl.of (HO7_vPlans_7.out.lies (lo := 0) (hi := w7.heap.size) (fun y hy => ⟨Nat.zero_le _, by have := hy.2; omega⟩))).later (by repeat (first | (with_reducible exact Below.refl _ _) | (with_reducible apply Below.drew) | (with_reducible refine below_drewN ?_ _) | (refine Below.setCell ?_ (by simp <;> omega) _) | (refine Below.alloc ?_ (by simp <;> omega) _)) : Below w7.heap.size w7 _) (Nat.le_refl _))).mono ?_
      rintro e w8 ⟨rfl, hb8⟩
      have hst8 : Below w7.heap.size w7 w8 := Below.trans (by repeat (first | (with_reducible exact Below.refl _ _) | (with_reducible apply Below.drew) | (with_reducible refine below_drewN ?_ _) | (refine Below.setCell ?_ (by simp <;> omega) _) | (refine Below.alloc ?_ (by simp <;> omega) _)) : Below w7.heap.size w7 _) (hb8.mono (Below.size (by repeat (first | (with_reducible exact Below.refl _ _) | (with_reducible apply Below.drew) | (with_reducible refine below_drewN ?_ _) | (refine Below.setCell ?_ (by simp <;> omega) _) | (refine Below.alloc ?_ (by simp <;> omega) _)) : Below w7.heap.size w7 _)))
      have hr8 : w7.heap.size ≤ w8.heap.size := Nat.le_trans (by first | exact Nat.le_refl _ | (simp; done) | (simp; omega) | (simp [World.setCell]; done) | (simp [World.setCell]; omega)) hb8.size
      have HO8_vPlans_2 := Lib.hid (HO7_vPlans_2.out.kept (Kept.of_below_all hst8))
      have HO8_R_3 := Lib.hid (HO7_R_3.out.kept (Kept.of_below_all hst8))
      have HO8_vPlans_4 := Lib.hid (HO7_vPlans_4.out.kept (Kept.of_below_all hst8))
      have HO8_R_5 := Lib.hid (HO7_R_5.out.kept (Kept.of_below_all hst8))
      have HO8_vPlans_7 := Lib.hid (HO7_vPlans_7.out.kept (Kept.of_below_all hst8))
      have HB8 := Lib.hid (HB7.out.trans (hst8.mono HB7.out.size))
      clear HO7_vPlans_2 HO7_R_3 HO7_vPlans_4 HO7_R_5 HO7_vPlans_7 hb8 hst8 HB7
      go_wp2_with fail
      refine (wmark_RulePlanS (cap := c_vPlans_4) vPlans hq_vPlans 1 (by omega) (by omega) _ (HO8_vPlans_4.out.kept (Kept.of_below (by repeat (first | (with_reducible exact Below.refl _ _) | (with_reducible apply Below.drew) | (with_reducible refine below_drewN ?_ _) | (refine Below.setCell ?_ (by simp <;> omega) _) | (refine Below.alloc ?_ (by simp <;> omega) _)) : Below w8.heap.size w8 _) (fun y hy => by have := hy.2; omega)))).mono ?_
      rintro e w9 ⟨k9, rfl, hka9, hkb9, hw9⟩
      have hkz9 : 1 ≤ k9 ∧ k9 ≤ 4294967296 := by omega
      have hst9 : WritesF (fun y => w3.heap.size ≤ y ∧ y < w4.heap.size) w8 w9 := hw9.of_below (by repeat (first | (with_reducible exact Below.refl _ _) | (with_reducible apply Below.drew) | (with_reducible refine below_drewN ?_ _) | (refine Below.setCell ?_ (by simp <;> omega) _) | (refine Below.alloc ?_ (by simp <;> omega) _)) : Below w8.heap.size w8 _)
      have hr9 : w8.heap.size ≤ w9.heap.size := Nat.le_trans (by first | exact Nat.le_refl _ | (simp; done) | (simp; omega) | (simp [World.setCell]; done) | (simp [World.setCell]; omega)) hw9.size
      have HO9_vPlans_2 := Lib.hid (HO8_vPlans_2.out.kept (hst9.kept (fun y hy hf => by have h1 := hy.1; have h2 := hy.2; have h3 := hf.1; have h4 := hf.2; omega)))
      have HO9_R_3 := Lib.hid (HO8_R_3.out.kept (hst9.kept (fun y hy hf => by have h1 := hy.1; have h2 := hy.2; have h3 := hf.1; have h4 := hf.2; omega)))
      have HO9_R_5 := Lib.hid (HO8_R_5.out.kept (hst9.kept (fun y hy hf => by have h1 := hy.1; have h2 := hy.2; have h3 := hf.1; have h4 := hf.2; omega)))
      have HO9_vPlans_7 := Lib.hid (HO8_vPlans_7.out.kept (hst9.kept (fun y hy hf => by have h1 := hy.1; have h2 := hy.2; have h3 := hf.1; have h4 := hf.2; omega)))
      have HB9 := Lib.hid (HB8.out.trans (hst9.below (fun y hy => by have := hy.1; omega) HB8.out.size))
      clear HO8_vPlans_4 HO8_vPlans_2 HO8_R_3 HO8_R_5 HO8_vPlans_7 hw9 hst9 HB8
      go_wp2_with fail
      refine (laws_eqStepS (cap := c_R_5) (cap2 := c_R_3) (stepsOf vPlans vRule) hq_R _ (Below.size (by repeat (first | (with_reducible exact Below.refl _ _) | (with_reducible apply Below.drew) | (with_reducible refine below_drewN ?_ _) | (refine Below.setCell ?_ (by simp <;> omega) _) | (refine Below.alloc ?_ (by simp <;> omega) _)) : Below w9.heap.size w9 _)) (Below.size (by repeat (first | (with_reducible exact Below.refl _ _) | (with_reducible apply Below.drew) | (with_reducible refine below_drewN ?_ _) | (refine Below.setCell ?_ (by simp <;> omega) _) | (refine Below.alloc ?_ (by simp <;> omega) _)) : Below w9.heap.size w9 _)) ((Sl.of (HO9_R_5.out.lies (lo := 0) (hi := w9.heap.size) (fun y hy => ⟨Nat.zero_le _, by have := hy.2; omega⟩))).later (by repeat (first | (with_reducible exact Below.refl _ _) | (with_reducible apply Below.drew) | (with_reducible refine below_drewN ?_ _) | (refine Below.setCell ?_ (by simp <;> omega) _) | (refine Below.alloc ?_ (by simp <;> omega) _)) : Below w9.heap.size w9 _) (Nat.le_refl _)) ((Sl.of (HO9_R_3.out.lies (lo := 0) (hi := w9.heap.size) (fun y hy => ⟨Nat.zero_le _, by have := hy.2; omega⟩))).later (by repeat (first | (with_reducible exact Below.refl _ _) | (with_reducible apply Below.drew) | (with_reducible refine below_drewN ?_ _) | (refine Below.setCell ?_ (by simp <;> omega) _) | (refine Below.alloc ?_ (by simp <;> omega) _)) : Below w9.heap.size w9 _) (Nat.le_refl _))).mono ?_
      rintro e w10 ⟨rfl, hb10⟩
      have hst10 : Below w9.heap.size w9 w10 := Below.trans (by repeat (first | (with_reducible exact Below.refl _ _) | (with_reducible apply Below.drew) | (with_reducible refine below_drewN ?_ _) | (refine Below.setCell ?_ (by simp <;> omega) _) | (refine Below.alloc ?_ (by simp <;> omega) _)) : Below w9.heap.size w9 _) (hb10.mono (Below.size (by repeat (first | (with_reducible exact Below.refl _ _) | (with_reducible apply Below.drew) | (with_reducible refine below_drewN ?_ _) | (refine Below.setCell ?_ (by simp <;> omega) _) | (refine Below.alloc ?_ (by simp <;> omega) _)) : Below w9.heap.size w9 _)))
      have hr10 : w9.heap.size ≤ w10.heap.size := Nat.le_trans (by first | exact Nat.le_refl _ | (simp; done) | (simp; omega) | (simp [World.setCell]; done) | (simp [World.setCell]; omega)) hb10.size
      have HO10_vPlans_2 := Lib.hid (HO9_vPlans_2.out.kept (Kept.of_below_all hst10))
      have HO10_R_3 := Lib.hid (HO9_R_3.out.kept (Kept.of_below_all hst10))
      have HO10_R_5 := Lib.hid (HO9_R_5.out.kept (Kept.of_below_all hst10))
      have HO10_vPlans_7 := Lib.hid (HO9_vPlans_7.out.kept (Kept.of_below_all hst10))
      have HB10 := Lib.hid (HB9.out.trans (hst10.mono HB9.out.size))
      clear HO9_vPlans_2 HO9_R_3 HO9_R_5 HO9_vPlans_7 hb10 hst10 HB9
      go_wp2_with fail
      refine (laws_markStepS (cap := c_R_5) (stepsOf vPlans vRule) (by have h1 := stepsOf_len hq_vPlans vRule; omega) 1 (by omega) (by have h1 := stepsOf_len hq_vPlans vRule; omega) _ (HO10_R_5.out.kept (Kept.of_below (by repeat (first | (with_reducible exact Below.refl _ _) | (with_reducible apply Below.drew) | (with_reducible refine below_drewN ?_ _) | (refine Below.setCell ?_ (by simp <;> omega) _) | (refine Below.alloc ?_ (by simp <;> omega) _)) : Below w10.heap.size w10 _) (fun y hy => by have := hy.2; omega)))).mono ?_
      rintro e w11 ⟨rfl, ho11, hw11⟩
      have hst11 : WritesF (fun y => w4.heap.size ≤ y ∧ y < w5.heap.size) w10 w11 := hw11.of_below (by repeat (first | (with_reducible exact Below.refl _ _) | (with_reducible apply Below.drew) | (with_reducible refine below_drewN ?_ _) | (refine Below.setCell ?_ (by simp <;> omega) _) | (refine Below.alloc ?_ (by simp <;> omega) _)) : Below w10.heap.size w10 _)
      have hr11 : w10.heap.size ≤ w11.heap.size := Nat.le_trans (by first | exact Nat.le_refl _ | (simp; done) | (simp; omega) | (simp [World.setCell]; done) | (simp [World.setCell]; omega)) hw11.size
      have HO11_vPlans_2 := Lib.hid (HO10_vPlans_2.out.kept (hst11.kept (fun y hy hf => by have h1 := hy.1; have h2 := hy.2; have h3 := hf.1; have h4 := hf.2; omega)))
      have HO11_R_3 := Lib.hid (HO10_R_3.out.kept (hst11.kept (fun y hy hf => by have h1 := hy.1; have h2 := hy.2; have h3 := hf.1; have h4 := hf.2; omega)))
      have HO11_R_5 := Lib.hid ho11
      have HO11_vPlans_7 := Lib.hid (HO10_vPlans_7.out.kept (hst11.kept (fun y hy hf => by have h1 := hy.1; have h2 := hy.2; have h3 := hf.1; have h4 := hf.2; omega)))
      have HB11 := Lib.hid (HB10.out.trans (hst11.below (fun y hy => by have := hy.1; omega) HB10.out.size))
      clear HO10_vPlans_2 HO10_R_3 ho11 HO10_R_5 HO10_vPlans_7 hw11 hst11 HB10
      go_wp2_with fail
      refine (laws_heldStepS (cap := c_R_5) (stepsOf vPlans vRule).length (by have h1 := stepsOf_len hq_vPlans vRule; omega) 1 (by omega) (by have h1 := stepsOf_len hq_vPlans vRule; omega) _ (HO11_R_5.out.kept (Kept.of_below (by repeat (first | (with_reducible exact Below.refl _ _) | (with_reducible apply Below.drew) | (with_reducible refine below_drewN ?_ _) | (refine Below.setCell ?_ (by simp <;> omega) _) | (refine Below.alloc ?_ (by simp <;> omega) _)) : Below w11.heap.size w11 _) (fun y hy => by have := hy.2; omega)))).mono ?_
      rintro e w12 ⟨rfl, hb12⟩
      have hst12 : Below w11.heap.size w11 w12 := Below.trans (by repeat (first | (with_reducible exact Below.refl _ _) | (with_reducible apply Below.drew) | (with_reducible refine below_drewN ?_ _) | (refine Below.setCell ?_ (by simp <;> omega) _) | (refine Below.alloc ?_ (by simp <;> omega) _)) : Below w11.heap.size w11 _) (hb12.mono (Below.size (by repeat (first | (with_reducible exact Below.refl _ _) | (with_reducible apply Below.drew) | (with_reducible refine below_drewN ?_ _) | (refine Below.setCell ?_ (by simp <;> omega) _) | (refine Below.alloc ?_ (by simp <;> omega) _)) : Below w11.heap.size w11 _)))
      have hr12 : w11.heap.size ≤ w12.heap.size := Nat.le_trans (by first | exact Nat.le_refl _ | (simp; done) | (simp; omega) | (simp [World.setCell]; done) | (simp [World.setCell]; omega)) hb12.size
      have HO12_vPlans_2 := Lib.hid (HO11_vPlans_2.out.kept (Kept.of_below_all hst12))
      have HO12_R_3 := Lib.hid (HO11_R_3.out.kept (Kept.of_below_all hst12))
      have HO12_R_5 := Lib.hid (HO11_R_5.out.kept (Kept.of_below_all hst12))
      have HO12_vPlans_7 := Lib.hid (HO11_vPlans_7.out.kept (Kept.of_below_all hst12))
      have HB12 := Lib.hid (HB11.out.trans (hst12.mono HB11.out.size))
      clear HO11_vPlans_2 HO11_R_3 HO11_R_5 HO11_vPlans_7 hb12 hst12 HB11
      go_wp2_with fail
      refine (laws_toRulePlanS (cap := c_vPlans) vPlans hq_vPlans _ (Below.size (by repeat (first | (with_reducible exact Below.refl _ _) | (with_reducible apply Below.drew) | (with_reducible refine below_drewN ?_ _) | (refine Below.setCell ?_ (by simp <;> omega) _) | (refine Below.alloc ?_ (by simp <;> omega) _)) : Below w12.heap.size w12 _)) ((HS_vPlans.out.later (HB12.out.trans ((by repeat (first | (with_reducible exact Below.refl _ _) | (with_reducible apply Below.drew) | (with_reducible refine below_drewN ?_ _) | (refine Below.setCell ?_ (by simp <;> omega) _) | (refine Below.alloc ?_ (by simp <;> omega) _)) : Below w12.heap.size w12 _).mono HB12.out.size)) (Nat.le_refl _)).mono (Nat.le_refl _) HB12.out.size)).mono ?_
      rintro e w13 ⟨a_vPlans_13, c_vPlans_13, rfl, ho13, hb13⟩
      have hst13 : Below w12.heap.size w12 w13 := Below.trans (by repeat (first | (with_reducible exact Below.refl _ _) | (with_reducible apply Below.drew) | (with_reducible refine below_drewN ?_ _) | (refine Below.setCell ?_ (by simp <;> omega) _) | (refine Below.alloc ?_ (by simp <;> omega) _)) : Below w12.heap.size w12 _) (hb13.mono (Below.size (by repeat (first | (with_reducible exact Below.refl _ _) | (with_reducible apply Below.drew) | (with_reducible refine below_drewN ?_ _) | (refine Below.setCell ?_ (by simp <;> omega) _) | (refine Below.alloc ?_ (by simp <;> omega) _)) : Below w12.heap.size w12 _)))
      have hr13 : w12.heap.size ≤ w13.heap.size := Nat.le_trans (by first | exact Nat.le_refl _ | (simp; done) | (simp; omega) | (simp [World.setCell]; done) | (simp [World.setCell]; omega)) hb13.size
      have HO13_vPlans_2 := Lib.hid (HO12_vPlans_2.out.kept (Kept.of_below_all hst13))
      have HO13_R_3 := Lib.hid (HO12_R_3.out.kept (Kept.of_below_all hst13))
      have HO13_R_5 := Lib.hid (HO12_R_5.out.kept (Kept.of_below_all hst13))
      have HO13_vPlans_7 := Lib.hid (HO12_vPlans_7.out.kept (Kept.of_below_all hst13))
      have HO13_vPlans_13 := Lib.hid (show Own w13 (fun y => w12.heap.size ≤ y ∧ y < w13.heap.size) (.sl 2 vPlans.length (fun k => DRulePlan.ct (vPlans.getD k default))) (.slice a_vPlans_13 vPlans.length c_vPlans_13) from Own.sub (F := fun y => _ ≤ y ∧ y < _) ho13 (fun y hy => ⟨Nat.le_trans (by first | exact Nat.le_refl _ | (simp; done) | (simp; omega) | (simp [World.setCell]; done) | (simp [World.setCell]; omega)) hy.1, hy.2⟩))
      have HB13 := Lib.hid (HB12.out.trans (hst13.mono HB12.out.size))
      clear HO12_vPlans_2 HO12_R_3 HO12_R_5 HO12_vPlans_7 ho13 hb13 hst13 HB12
      go_wp2_with fail
      refine (impl_StepsOf (c0_0 := c_vPlans_13) vPlans OK_vPlans.out hq_vPlans vRule OK_vRule.out hq_vRule _ (Below.size (by repeat (first | (with_reducible exact Below.refl _ _) | (with_reducible apply Below.drew) | (with_reducible refine below_drewN ?_ _) | (refine Below.setCell ?_ (by simp <;> omega) _) | (refine Below.alloc ?_ (by simp <;> omega) _)) : Below w13.heap.size w13 _)) ((Sl.of (HO13_vPlans_13.out.lies (lo := 0) (hi := w13.heap.size) (fun y hy => ⟨Nat.zero_le _, by have := hy.2; omega⟩))).later (by repeat (first | (with_reducible exact Below.refl _ _) | (with_reducible apply Below.drew) | (with_reducible refine below_drewN ?_ _) | (refine Below.setCell ?_ (by simp <;> omega) _) | (refine Below.alloc ?_ (by simp <;> omega) _)) : Below w13.heap.size w13 _) (Nat.le_refl _))).mono ?_
      rintro e w14 ⟨a_R_14, c_R_14, rfl, ho14, hb14⟩
      have hst14 : Below w13.heap.size w13 w14 := Below.trans (by repeat (first | (with_reducible exact Below.refl _ _) | (with_reducible apply Below.drew) | (with_reducible refine below_drewN ?_ _) | (refine Below.setCell ?_ (by simp <;> omega) _) | (refine Below.alloc ?_ (by simp <;> omega) _)) : Below w13.heap.size w13 _) (hb14.mono (Below.size (by repeat (first | (with_reducible exact Below.refl _ _) | (with_reducible apply Below.drew) | (with_reducible refine below_drewN ?_ _) | (refine Below.setCell ?_ (by simp <;> omega) _) | (refine Below.alloc ?_ (by simp <;> omega) _)) : Below w13.heap.size w13 _)))
      have hr14 : w13.heap.size ≤ w14.heap.size := Nat.le_trans (by first | exact Nat.le_refl _ | (simp; done) | (simp; omega) | (simp [World.setCell]; done) | (simp [World.setCell]; omega)) hb14.size
      have HO14_vPlans_2 := Lib.hid (HO13_vPlans_2.out.kept (Kept.of_below_all hst14))
      have HO14_R_3 := Lib.hid (HO13_R_3.out.kept (Kept.of_below_all hst14))
      have HO14_R_5 := Lib.hid (HO13_R_5.out.kept (Kept.of_below_all hst14))
      have HO14_vPlans_7 := Lib.hid (HO13_vPlans_7.out.kept (Kept.of_below_all hst14))
      have HO14_vPlans_13 := Lib.hid (HO13_vPlans_13.out.kept (Kept.of_below_all hst14))
      have HO14_R_14 := Lib.hid (show Own w14 (fun y => w13.heap.size ≤ y ∧ y < w14.heap.size) (.sl 4 (stepsOf vPlans vRule).length (fun k => DStep.ct ((stepsOf vPlans vRule).getD k default))) (.slice a_R_14 (stepsOf vPlans vRule).length c_R_14) from Own.sub (F := fun y => _ ≤ y ∧ y < _) ho14 (fun y hy => ⟨Nat.le_trans (by first | exact Nat.le_refl _ | (simp; done) | (simp; omega) | (simp [World.setCell]; done) | (simp [World.setCell]; omega)) hy.1, hy.2⟩))
      have HB14 := Lib.hid (HB13.out.trans (hst14.mono HB13.out.size))
      clear HO13_vPlans_2 HO13_R_3 HO13_R_5 HO13_vPlans_7 HO13_vPlans_13 ho14 hb14 hst14 HB13
      go_wp2_with fail
      refine (laws_eqStepS (cap := c_R_14) (cap2 := c_R_3) (stepsOf vPlans vRule) hq_R _ (Below.size (by repeat (first | (with_reducible exact Below.refl _ _) | (with_reducible apply Below.drew) | (with_reducible refine below_drewN ?_ _) | (refine Below.setCell ?_ (by simp <;> omega) _) | (refine Below.alloc ?_ (by simp <;> omega) _)) : Below w14.heap.size w14 _)) (Below.size (by repeat (first | (with_reducible exact Below.refl _ _) | (with_reducible apply Below.drew) | (with_reducible refine below_drewN ?_ _) | (refine Below.setCell ?_ (by simp <;> omega) _) | (refine Below.alloc ?_ (by simp <;> omega) _)) : Below w14.heap.size w14 _)) ((Sl.of (HO14_R_14.out.lies (lo := 0) (hi := w14.heap.size) (fun y hy => ⟨Nat.zero_le _, by have := hy.2; omega⟩))).later (by repeat (first | (with_reducible exact Below.refl _ _) | (with_reducible apply Below.drew) | (with_reducible refine below_drewN ?_ _) | (refine Below.setCell ?_ (by simp <;> omega) _) | (refine Below.alloc ?_ (by simp <;> omega) _)) : Below w14.heap.size w14 _) (Nat.le_refl _)) ((Sl.of (HO14_R_3.out.lies (lo := 0) (hi := w14.heap.size) (fun y hy => ⟨Nat.zero_le _, by have := hy.2; omega⟩))).later (by repeat (first | (with_reducible exact Below.refl _ _) | (with_reducible apply Below.drew) | (with_reducible refine below_drewN ?_ _) | (refine Below.setCell ?_ (by simp <;> omega) _) | (refine Below.alloc ?_ (by simp <;> omega) _)) : Below w14.heap.size w14 _) (Nat.le_refl _))).mono ?_
      rintro e w15 ⟨rfl, hb15⟩
      have hst15 : Below w14.heap.size w14 w15 := Below.trans (by repeat (first | (with_reducible exact Below.refl _ _) | (with_reducible apply Below.drew) | (with_reducible refine below_drewN ?_ _) | (refine Below.setCell ?_ (by simp <;> omega) _) | (refine Below.alloc ?_ (by simp <;> omega) _)) : Below w14.heap.size w14 _) (hb15.mono (Below.size (by repeat (first | (with_reducible exact Below.refl _ _) | (with_reducible apply Below.drew) | (with_reducible refine below_drewN ?_ _) | (refine Below.setCell ?_ (by simp <;> omega) _) | (refine Below.alloc ?_ (by simp <;> omega) _)) : Below w14.heap.size w14 _)))
      have hr15 : w14.heap.size ≤ w15.heap.size := Nat.le_trans (by first | exact Nat.le_refl _ | (simp; done) | (simp; omega) | (simp [World.setCell]; done) | (simp [World.setCell]; omega)) hb15.size
      have HO15_vPlans_2 := Lib.hid (HO14_vPlans_2.out.kept (Kept.of_below_all hst15))
      have HO15_R_3 := Lib.hid (HO14_R_3.out.kept (Kept.of_below_all hst15))
      have HO15_R_5 := Lib.hid (HO14_R_5.out.kept (Kept.of_below_all hst15))
      have HO15_vPlans_7 := Lib.hid (HO14_vPlans_7.out.kept (Kept.of_below_all hst15))
      have HO15_vPlans_13 := Lib.hid (HO14_vPlans_13.out.kept (Kept.of_below_all hst15))
      have HO15_R_14 := Lib.hid (HO14_R_14.out.kept (Kept.of_below_all hst15))
      have HB15 := Lib.hid (HB14.out.trans (hst15.mono HB14.out.size))
      clear HO14_vPlans_2 HO14_R_3 HO14_R_5 HO14_vPlans_7 HO14_vPlans_13 HO14_R_14 hb15 hst15 HB14
      go_wp2_with fail
      refine (laws_heldStepS (cap := c_R_5) (stepsOf vPlans vRule).length (by have h1 := stepsOf_len hq_vPlans vRule; omega) 1 (by omega) (by have h1 := stepsOf_len hq_vPlans vRule; omega) _ (HO15_R_5.out.kept (Kept.of_below (by repeat (first | (with_reducible exact Below.refl _ _) | (with_reducible apply Below.drew) | (with_reducible refine below_drewN ?_ _) | (refine Below.setCell ?_ (by simp <;> omega) _) | (refine Below.alloc ?_ (by simp <;> omega) _)) : Below w15.heap.size w15 _) (fun y hy => by have := hy.2; omega)))).mono ?_
      rintro e w16 ⟨rfl, hb16⟩
      have hst16 : Below w15.heap.size w15 w16 := Below.trans (by repeat (first | (with_reducible exact Below.refl _ _) | (with_reducible apply Below.drew) | (with_reducible refine below_drewN ?_ _) | (refine Below.setCell ?_ (by simp <;> omega) _) | (refine Below.alloc ?_ (by simp <;> omega) _)) : Below w15.heap.size w15 _) (hb16.mono (Below.size (by repeat (first | (with_reducible exact Below.refl _ _) | (with_reducible apply Below.drew) | (with_reducible refine below_drewN ?_ _) | (refine Below.setCell ?_ (by simp <;> omega) _) | (refine Below.alloc ?_ (by simp <;> omega) _)) : Below w15.heap.size w15 _)))
      have hr16 : w15.heap.size ≤ w16.heap.size := Nat.le_trans (by first | exact Nat.le_refl _ | (simp; done) | (simp; omega) | (simp [World.setCell]; done) | (simp [World.setCell]; omega)) hb16.size
      have HO16_vPlans_2 := Lib.hid (HO15_vPlans_2.out.kept (Kept.of_below_all hst16))
      have HO16_R_3 := Lib.hid (HO15_R_3.out.kept (Kept.of_below_all hst16))
      have HO16_R_5 := Lib.hid (HO15_R_5.out.kept (Kept.of_below_all hst16))
      have HO16_vPlans_7 := Lib.hid (HO15_vPlans_7.out.kept (Kept.of_below_all hst16))
      have HO16_vPlans_13 := Lib.hid (HO15_vPlans_13.out.kept (Kept.of_below_all hst16))
      have HO16_R_14 := Lib.hid (HO15_R_14.out.kept (Kept.of_below_all hst16))
      have HB16 := Lib.hid (HB15.out.trans (hst16.mono HB15.out.size))
      clear HO15_vPlans_2 HO15_R_3 HO15_R_5 HO15_vPlans_7 HO15_vPlans_13 HO15_R_14 hb16 hst16 HB15
      go_wp2
      go_ret
      exact ⟨rfl, HB16.out⟩
end Go.Proofs.Ytnacnlljhjlmdab.fnExactStepsOf
