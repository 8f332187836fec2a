/-
  The law FnExactCountSteps: for every list of plans and every number the program's CountSteps answers as the model's. No condition.
-/
import Derived.Test.YthmgjlejejgecaaCount
import Derived.SizedLaws
namespace Go.Proofs.Ythmgjlejejgecaa.fnExactCountSteps
open Go.ChangeShapes Go.WideShapes Go.ChangeAt Go.RowKit Go.WideMaps Go.WideElems
open Go.ChangeMaps (open_string)
open Go.Lib Go.Deep

set_option maxHeartbeats 1600000 in
set_option maxRecDepth 100000 in
theorem walk (vPlans : List (DRulePlan)) (a_vPlans : Option Addr) (c_vPlans : Nat) (ok_vPlans : (okL DRulePlan.ok) vPlans) (vKind : Int) (ok_vKind : okI vKind) (w : World) (hs_vPlans : Sl 0 w.heap.size w 2 vPlans.length (fun k => DRulePlan.ct (vPlans.getD k default)) a_vPlans) :
    Calls Try.prog 6 #[.slice a_vPlans vPlans.length c_vPlans, .int .i64 vKind] w fun e w' => e = .returned (.bool true) ∧ Below w.heap.size w w' := by
  have HS_vPlans := Lib.hid hs_vPlans
  clear hs_vPlans
  have OK_vPlans := Lib.hid ok_vPlans
  clear ok_vPlans
  have okb_vKind : -9223372036854775808 ≤ vKind ∧ vKind ≤ 9223372036854775807 := ok_vKind
  have OK_vKind := Lib.hid ok_vKind
  clear ok_vKind
  by_cases h0 : 1048576 < (((lsz DRulePlan.sz) vPlans : Nat) : Int)
  · skip
    have hz := fun (hi : Nat) (w' : World) (hhi : hi ≤ w'.heap.size) (hs_vPlans : Sl 0 hi w' 2 vPlans.length (fun k => DRulePlan.ct (vPlans.getD k default)) a_vPlans) => laws_szRulePlanS (cap := c_vPlans) vPlans 1048576 (by omega) (by omega) OK_vPlans.out w' hhi hs_vPlans
    rw [szR_gt (by omega)] at hz
    have HZ_vPlans := Lib.hid hz
    clear hz
    go_enter Try.func6, Try.ntmps6
    go_wp2_with fail
    refine (HZ_vPlans.out w.heap.size _ (Below.size (by repeat (first | (with_reducible exact Below.refl _ _) | (with_reducible apply Below.drew) | (with_reducible refine below_drewN ?_ _) | (refine Below.setCell ?_ (by simp <;> omega) _) | (refine Below.alloc ?_ (by simp <;> omega) _)) : Below w.heap.size w _)) (HS_vPlans.out.later (by repeat (first | (with_reducible exact Below.refl _ _) | (with_reducible apply Below.drew) | (with_reducible refine below_drewN ?_ _) | (refine Below.setCell ?_ (by simp <;> omega) _) | (refine Below.alloc ?_ (by simp <;> omega) _)) : Below w.heap.size w _) (Nat.le_refl _))).mono ?_
    rintro e w1 ⟨rfl, hb1⟩
    have hst1 : Below w.heap.size w w1 := Below.trans (by repeat (first | (with_reducible exact Below.refl _ _) | (with_reducible apply Below.drew) | (with_reducible refine below_drewN ?_ _) | (refine Below.setCell ?_ (by simp <;> omega) _) | (refine Below.alloc ?_ (by simp <;> omega) _)) : Below w.heap.size w _) (hb1.mono (Below.size (by repeat (first | (with_reducible exact Below.refl _ _) | (with_reducible apply Below.drew) | (with_reducible refine below_drewN ?_ _) | (refine Below.setCell ?_ (by simp <;> omega) _) | (refine Below.alloc ?_ (by simp <;> omega) _)) : Below w.heap.size w _)))
    have HS1_vPlans := Lib.hid (HS_vPlans.out.up hst1 (Nat.le_refl _))
    have HB1 := Lib.hid ((Below.refl w.heap.size w).trans (hst1.mono (Below.refl w.heap.size w).size))
    clear hb1 hst1
    go_wp2
    go_ret
    exact ⟨rfl, HB1.out⟩
  · skip
    have hz := fun (hi : Nat) (w' : World) (hhi : hi ≤ w'.heap.size) (hs_vPlans : Sl 0 hi w' 2 vPlans.length (fun k => DRulePlan.ct (vPlans.getD k default)) a_vPlans) => laws_szRulePlanS (cap := c_vPlans) vPlans 1048576 (by omega) (by omega) OK_vPlans.out w' hhi hs_vPlans
    rw [szR_le (by omega)] at hz
    have HZ_vPlans := Lib.hid hz
    clear hz
    have hq_vPlans : (lsz DRulePlan.sz) vPlans ≤ 1048576 := by omega
    go_enter Try.func6, Try.ntmps6
    go_wp2_with fail
    refine (HZ_vPlans.out w.heap.size _ (Below.size (by repeat (first | (with_reducible exact Below.refl _ _) | (with_reducible apply Below.drew) | (with_reducible refine below_drewN ?_ _) | (refine Below.setCell ?_ (by simp <;> omega) _) | (refine Below.alloc ?_ (by simp <;> omega) _)) : Below w.heap.size w _)) (HS_vPlans.out.later (by repeat (first | (with_reducible exact Below.refl _ _) | (with_reducible apply Below.drew) | (with_reducible refine below_drewN ?_ _) | (refine Below.setCell ?_ (by simp <;> omega) _) | (refine Below.alloc ?_ (by simp <;> omega) _)) : Below w.heap.size w _) (Nat.le_refl _))).mono ?_
    rintro e w1 ⟨rfl, hb1⟩
    have hst1 : Below w.heap.size w w1 := Below.trans (by repeat (first | (with_reducible exact Below.refl _ _) | (with_reducible apply Below.drew) | (with_reducible refine below_drewN ?_ _) | (refine Below.setCell ?_ (by simp <;> omega) _) | (refine Below.alloc ?_ (by simp <;> omega) _)) : Below w.heap.size w _) (hb1.mono (Below.size (by repeat (first | (with_reducible exact Below.refl _ _) | (with_reducible apply Below.drew) | (with_reducible refine below_drewN ?_ _) | (refine Below.setCell ?_ (by simp <;> omega) _) | (refine Below.alloc ?_ (by simp <;> omega) _)) : Below w.heap.size w _)))
    have HS1_vPlans := Lib.hid (HS_vPlans.out.up hst1 (Nat.le_refl _))
    have HB1 := Lib.hid ((Below.refl w.heap.size w).trans (hst1.mono (Below.refl w.heap.size w).size))
    clear hb1 hst1
    go_wp2_with fail
    refine (laws_toRulePlanS (cap := c_vPlans) vPlans hq_vPlans _ (Below.size (by repeat (first | (with_reducible exact Below.refl _ _) | (with_reducible apply Below.drew) | (with_reducible refine below_drewN ?_ _) | (refine Below.setCell ?_ (by simp <;> omega) _) | (refine Below.alloc ?_ (by simp <;> omega) _)) : Below w1.heap.size w1 _)) (HS1_vPlans.out.later (by repeat (first | (with_reducible exact Below.refl _ _) | (with_reducible apply Below.drew) | (with_reducible refine below_drewN ?_ _) | (refine Below.setCell ?_ (by simp <;> omega) _) | (refine Below.alloc ?_ (by simp <;> omega) _)) : Below w1.heap.size w1 _) (Nat.le_refl _))).mono ?_
    rintro e w2 ⟨a_vPlans_2, c_vPlans_2, rfl, ho2, hb2⟩
    have hst2 : Below w1.heap.size w1 w2 := Below.trans (by repeat (first | (with_reducible exact Below.refl _ _) | (with_reducible apply Below.drew) | (with_reducible refine below_drewN ?_ _) | (refine Below.setCell ?_ (by simp <;> omega) _) | (refine Below.alloc ?_ (by simp <;> omega) _)) : Below w1.heap.size w1 _) (hb2.mono (Below.size (by repeat (first | (with_reducible exact Below.refl _ _) | (with_reducible apply Below.drew) | (with_reducible refine below_drewN ?_ _) | (refine Below.setCell ?_ (by simp <;> omega) _) | (refine Below.alloc ?_ (by simp <;> omega) _)) : Below w1.heap.size w1 _)))
    have HS2_vPlans := Lib.hid (HS1_vPlans.out.up hst2 (Nat.le_refl _))
    have HS2_vPlans_2 := Lib.hid (show Sl 0 w2.heap.size w2 2 vPlans.length (fun k => DRulePlan.ct (vPlans.getD k default)) a_vPlans_2 from Sl.of (ho2.lies (lo := 0) (hi := w2.heap.size) (fun y hy => ⟨Nat.zero_le _, hy.2⟩)))
    have HB2 := Lib.hid (HB1.out.trans (hst2.mono HB1.out.size))
    clear HS1_vPlans ho2 hb2 hst2 HB1
    go_wp2_with fail
    refine (spec_CountSteps (c0_0 := c_vPlans_2) vPlans OK_vPlans.out hq_vPlans vKind OK_vKind.out _ (Below.size (by repeat (first | (with_reducible exact Below.refl _ _) | (with_reducible apply Below.drew) | (with_reducible refine below_drewN ?_ _) | (refine Below.setCell ?_ (by simp <;> omega) _) | (refine Below.alloc ?_ (by simp <;> omega) _)) : Below w2.heap.size w2 _)) (HS2_vPlans_2.out.later (by repeat (first | (with_reducible exact Below.refl _ _) | (with_reducible apply Below.drew) | (with_reducible refine below_drewN ?_ _) | (refine Below.setCell ?_ (by simp <;> omega) _) | (refine Below.alloc ?_ (by simp <;> omega) _)) : Below w2.heap.size w2 _) (Nat.le_refl _))).mono ?_
    rintro e w3 ⟨rfl, hb3⟩
    have hst3 : Below w2.heap.size w2 w3 := Below.trans (by repeat (first | (with_reducible exact Below.refl _ _) | (with_reducible apply Below.drew) | (with_reducible refine below_drewN ?_ _) | (refine Below.setCell ?_ (by simp <;> omega) _) | (refine Below.alloc ?_ (by simp <;> omega) _)) : Below w2.heap.size w2 _) (hb3.mono (Below.size (by repeat (first | (with_reducible exact Below.refl _ _) | (with_reducible apply Below.drew) | (with_reducible refine below_drewN ?_ _) | (refine Below.setCell ?_ (by simp <;> omega) _) | (refine Below.alloc ?_ (by simp <;> omega) _)) : Below w2.heap.size w2 _)))
    have HS3_vPlans := Lib.hid (HS2_vPlans.out.up hst3 (Nat.le_refl _))
    have HS3_vPlans_2 := Lib.hid (HS2_vPlans_2.out.up hst3 (Nat.le_refl _))
    have HB3 := Lib.hid (HB2.out.trans (hst3.mono HB2.out.size))
    clear HS2_vPlans HS2_vPlans_2 hb3 hst3 HB2
    go_wp2_with fail
    refine (laws_toRulePlanS (cap := c_vPlans) vPlans hq_vPlans _ (Below.size (by repeat (first | (with_reducible exact Below.refl _ _) | (with_reducible apply Below.drew) | (with_reducible refine below_drewN ?_ _) | (refine Below.setCell ?_ (by simp <;> omega) _) | (refine Below.alloc ?_ (by simp <;> omega) _)) : Below w3.heap.size w3 _)) (HS3_vPlans.out.later (by repeat (first | (with_reducible exact Below.refl _ _) | (with_reducible apply Below.drew) | (with_reducible refine below_drewN ?_ _) | (refine Below.setCell ?_ (by simp <;> omega) _) | (refine Below.alloc ?_ (by simp <;> omega) _)) : Below w3.heap.size w3 _) (Nat.le_refl _))).mono ?_
    rintro e w4 ⟨a_vPlans_4, c_vPlans_4, rfl, ho4, hb4⟩
    have hst4 : Below w3.heap.size w3 w4 := Below.trans (by repeat (first | (with_reducible exact Below.refl _ _) | (with_reducible apply Below.drew) | (with_reducible refine below_drewN ?_ _) | (refine Below.setCell ?_ (by simp <;> omega) _) | (refine Below.alloc ?_ (by simp <;> omega) _)) : Below w3.heap.size w3 _) (hb4.mono (Below.size (by repeat (first | (with_reducible exact Below.refl _ _) | (with_reducible apply Below.drew) | (with_reducible refine below_drewN ?_ _) | (refine Below.setCell ?_ (by simp <;> omega) _) | (refine Below.alloc ?_ (by simp <;> omega) _)) : Below w3.heap.size w3 _)))
    have HS4_vPlans := Lib.hid (HS3_vPlans.out.up hst4 (Nat.le_refl _))
    have HS4_vPlans_2 := Lib.hid (HS3_vPlans_2.out.up hst4 (Nat.le_refl _))
    have HS4_vPlans_4 := Lib.hid (show Sl 0 w4.heap.size w4 2 vPlans.length (fun k => DRulePlan.ct (vPlans.getD k default)) a_vPlans_4 from Sl.of (ho4.lies (lo := 0) (hi := w4.heap.size) (fun y hy => ⟨Nat.zero_le _, hy.2⟩)))
    have HB4 := Lib.hid (HB3.out.trans (hst4.mono HB3.out.size))
    clear HS3_vPlans HS3_vPlans_2 ho4 hb4 hst4 HB3
    go_wp2_with fail
    refine (impl_CountSteps (c0_0 := c_vPlans_4) vPlans OK_vPlans.out hq_vPlans vKind OK_vKind.out _ (Below.size (by repeat (first | (with_reducible exact Below.refl _ _) | (with_reducible apply Below.drew) | (with_reducible refine below_drewN ?_ _) | (refine Below.setCell ?_ (by simp <;> omega) _) | (refine Below.alloc ?_ (by simp <;> omega) _)) : Below w4.heap.size w4 _)) (HS4_vPlans_4.out.later (by repeat (first | (with_reducible exact Below.refl _ _) | (with_reducible apply Below.drew) | (with_reducible refine below_drewN ?_ _) | (refine Below.setCell ?_ (by simp <;> omega) _) | (refine Below.alloc ?_ (by simp <;> omega) _)) : Below w4.heap.size w4 _) (Nat.le_refl _))).mono ?_
    rintro e w5 ⟨rfl, hb5⟩
    have hst5 : Below w4.heap.size w4 w5 := Below.trans (by repeat (first | (with_reducible exact Below.refl _ _) | (with_reducible apply Below.drew) | (with_reducible refine below_drewN ?_ _) | (refine Below.setCell ?_ (by simp <;> omega) _) | (refine Below.alloc ?_ (by simp <;> omega) _)) : Below w4.heap.size w4 _) (hb5.mono (Below.size (by repeat (first | (with_reducible exact Below.refl _ _) | (with_reducible apply Below.drew) | (with_reducible refine below_drewN ?_ _) | (refine Below.setCell ?_ (by simp <;> omega) _) | (refine Below.alloc ?_ (by simp <;> omega) _)) : Below w4.heap.size w4 _)))
    have HS5_vPlans := Lib.hid (HS4_vPlans.out.up hst5 (Nat.le_refl _))
    have HS5_vPlans_2 := Lib.hid (HS4_vPlans_2.out.up hst5 (Nat.le_refl _))
    have HS5_vPlans_4 := Lib.hid (HS4_vPlans_4.out.up hst5 (Nat.le_refl _))
    have HB5 := Lib.hid (HB4.out.trans (hst5.mono HB4.out.size))
    clear HS4_vPlans HS4_vPlans_2 HS4_vPlans_4 hb5 hst5 HB4
    go_wp2_with fail
    refine (laws_toRulePlanS (cap := c_vPlans) vPlans hq_vPlans _ (Below.size (by repeat (first | (with_reducible exact Below.refl _ _) | (with_reducible apply Below.drew) | (with_reducible refine below_drewN ?_ _) | (refine Below.setCell ?_ (by simp <;> omega) _) | (refine Below.alloc ?_ (by simp <;> omega) _)) : Below w5.heap.size w5 _)) (HS5_vPlans.out.later (by repeat (first | (with_reducible exact Below.refl _ _) | (with_reducible apply Below.drew) | (with_reducible refine below_drewN ?_ _) | (refine Below.setCell ?_ (by simp <;> omega) _) | (refine Below.alloc ?_ (by simp <;> omega) _)) : Below w5.heap.size w5 _) (Nat.le_refl _))).mono ?_
    rintro e w6 ⟨a_vPlans_6, c_vPlans_6, rfl, ho6, hb6⟩
    have hst6 : Below w5.heap.size w5 w6 := Below.trans (by repeat (first | (with_reducible exact Below.refl _ _) | (with_reducible apply Below.drew) | (with_reducible refine below_drewN ?_ _) | (refine Below.setCell ?_ (by simp <;> omega) _) | (refine Below.alloc ?_ (by simp <;> omega) _)) : Below w5.heap.size w5 _) (hb6.mono (Below.size (by repeat (first | (with_reducible exact Below.refl _ _) | (with_reducible apply Below.drew) | (with_reducible refine below_drewN ?_ _) | (refine Below.setCell ?_ (by simp <;> omega) _) | (refine Below.alloc ?_ (by simp <;> omega) _)) : Below w5.heap.size w5 _)))
    have HS6_vPlans := Lib.hid (HS5_vPlans.out.up hst6 (Nat.le_refl _))
    have HS6_vPlans_2 := Lib.hid (HS5_vPlans_2.out.up hst6 (Nat.le_refl _))
    have HS6_vPlans_4 := Lib.hid (HS5_vPlans_4.out.up hst6 (Nat.le_refl _))
    have HS6_vPlans_6 := Lib.hid (show Sl 0 w6.heap.size w6 2 vPlans.length (fun k => DRulePlan.ct (vPlans.getD k default)) a_vPlans_6 from Sl.of (ho6.lies (lo := 0) (hi := w6.heap.size) (fun y hy => ⟨Nat.zero_le _, hy.2⟩)))
    have HB6 := Lib.hid (HB5.out.trans (hst6.mono HB5.out.size))
    clear HS5_vPlans HS5_vPlans_2 HS5_vPlans_4 ho6 hb6 hst6 HB5
    go_wp2_with fail
    refine (laws_eqRulePlanS (cap := c_vPlans_4) (cap2 := c_vPlans_6) vPlans hq_vPlans _ (Below.size (by repeat (first | (with_reducible exact Below.refl _ _) | (with_reducible apply Below.drew) | (with_reducible refine below_drewN ?_ _) | (refine Below.setCell ?_ (by simp <;> omega) _) | (refine Below.alloc ?_ (by simp <;> omega) _)) : Below w6.heap.size w6 _)) (Below.size (by repeat (first | (with_reducible exact Below.refl _ _) | (with_reducible apply Below.drew) | (with_reducible refine below_drewN ?_ _) | (refine Below.setCell ?_ (by simp <;> omega) _) | (refine Below.alloc ?_ (by simp <;> omega) _)) : Below w6.heap.size w6 _)) (HS6_vPlans_4.out.later (by repeat (first | (with_reducible exact Below.refl _ _) | (with_reducible apply Below.drew) | (with_reducible refine below_drewN ?_ _) | (refine Below.setCell ?_ (by simp <;> omega) _) | (refine Below.alloc ?_ (by simp <;> omega) _)) : Below w6.heap.size w6 _) (Nat.le_refl _)) (HS6_vPlans_6.out.later (by repeat (first | (with_reducible exact Below.refl _ _) | (with_reducible apply Below.drew) | (with_reducible refine below_drewN ?_ _) | (refine Below.setCell ?_ (by simp <;> omega) _) | (refine Below.alloc ?_ (by simp <;> omega) _)) : Below w6.heap.size w6 _) (Nat.le_refl _))).mono ?_
    rintro e w7 ⟨rfl, hb7⟩
    have hst7 : Below w6.heap.size w6 w7 := Below.trans (by repeat (first | (with_reducible exact Below.refl _ _) | (with_reducible apply Below.drew) | (with_reducible refine below_drewN ?_ _) | (refine Below.setCell ?_ (by simp <;> omega) _) | (refine Below.alloc ?_ (by simp <;> omega) _)) : Below w6.heap.size w6 _) (hb7.mono (Below.size (by repeat (first | (with_reducible exact Below.refl _ _) | (with_reducible apply Below.drew) | (with_reducible refine below_drewN ?_ _) | (refine Below.setCell ?_ (by simp <;> omega) _) | (refine Below.alloc ?_ (by simp <;> omega) _)) : Below w6.heap.size w6 _)))
    have HS7_vPlans := Lib.hid (HS6_vPlans.out.up hst7 (Nat.le_refl _))
    have HS7_vPlans_2 := Lib.hid (HS6_vPlans_2.out.up hst7 (Nat.le_refl _))
    have HS7_vPlans_4 := Lib.hid (HS6_vPlans_4.out.up hst7 (Nat.le_refl _))
    have HS7_vPlans_6 := Lib.hid (HS6_vPlans_6.out.up hst7 (Nat.le_refl _))
    have HB7 := Lib.hid (HB6.out.trans (hst7.mono HB6.out.size))
    clear HS6_vPlans HS6_vPlans_2 HS6_vPlans_4 HS6_vPlans_6 hb7 hst7 HB6
    go_wp2
    go_ret
    exact ⟨rfl, HB7.out⟩

set_option maxRecDepth 100000 in
theorem lifted (os : Os) (started : os.Started) (H : Type) (enc : TypeId × Value → H) :
    ReturnsInHanded {} Try.checked os 6 .any (Rows.fnExactCountStepsSpec.pre6 enc Try.prog Try.f6 Rows.fnExactCountStepsRow.domain false) (Rows.fnExactCountStepsSpec.post enc Try.prog Try.f6 false true false false) := by
  refine returnsInHanded_of_change_sized (C := Try.checked) own started (by kernel_rfl) Try.func6
    (ChangeSpec.witness6 (enc := enc) (C := Try.checked) false ⟨#[], #[.slice none 0 0, .int .i64 0], []⟩ 8 (by kernel_rfl) (by kernel_rfl) (by kernel_rfl) (by kernel_rfl)) ?_
  intro W base args ds gs before hval0 hW _ hsz0 _
  have hval : ∀ (j : Nat) t v, Try.f6.params[j]? = some t → args[j]? = some v → Value.okWide Try.prog W .any base t v := hval0
  obtain ⟨p, q, hA0, hV, hps, hfz, hnd⟩ := id hW
  have hA : DataW.TrodAll enc Try.prog W 0 (fun _ => true) true Try.f6.params.toList args.toList ds p := hA0
  have hsz : (DataW.weightsEach Try.prog (Try.f6.params.toList ++ Rows.fnExactCountStepsSpec.plain.varTypes Try.prog) (ds ++ gs)).all (· ≤ reachBytes) = true := hsz0
  rw [Try.params6] at hA hval hsz
  obtain ⟨v0, vs0, d0, ds0, p0, q0, hargs, rfl, rfl, h0, r0⟩ := trodAll_cons hA
  obtain ⟨v1, vs1, d1, ds1, p1, q1, rfl, rfl, rfl, h1, r1⟩ := trodAll_cons r0
  obtain ⟨rfl, rfl, rfl⟩ := trodAll_nil r1
  obtain rfl : args = #[v0, v1] := by cases args; simp_all
  obtain ⟨ax0, lx0, cx0, hx0⟩ := okWide_slice Try.underlying32 (hval 0 32 v0 rfl rfl)
  obtain ⟨vPlans, a_vPlans, c_vPlans, rfl, ok_vPlans, hs_vPlans⟩ := arg_rulePlanS hx0 h0
  obtain ⟨vKind, rfl, rfl, rfl, w1⟩ := open_int Try.underlying3 (hval 1 3 v1 rfl rfl) h1
  have ok_vKind := bounds_i64 w1
  refine (walk vPlans a_vPlans c_vPlans ok_vPlans vKind ok_vKind W hs_vPlans).mono fun e W' ⟨he, hg⟩ => ?_
  subst he
  exact ⟨_, rfl, law_post laidOut (by kernel_rfl) rfl Try.underlying4 rfl rfl hW hg⟩

theorem said : Rows.FnExactCountStepsSaid :=
  OpenClaim.holds_of_wide 6 Try.f6 rfl rfl rfl rfl rfl rfl rfl ⟨rfl, rfl, rfl, rfl, rfl⟩ rfl rfl rfl rfl rfl (by kernel_rfl) Try.func6 (by kernel_rfl)
    (of_decide_eq_true (by kernel_rfl)) (by unfold Func.isWrapper; first | (rw [if_pos (by decide +kernel)]; kernel_rfl) | (rw [if_neg (by decide +kernel)]; exact ⟨rfl, rfl⟩))
    (fun os started H enc _ => lifted os started H enc)
#print axioms said
end Go.Proofs.Ythmgjlejejgecaa.fnExactCountSteps
