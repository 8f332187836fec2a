/-
  The law FnExactLastUse: for every list of steps and every number the program's LastUse answers as the model's. No condition.
-/
import Derived.Test.YtopcpgbhmnlcnaaLastUseL
import Derived.Test.YtopcpgbhmnlcnaaTTraceStep
import Derived.SizedLaws
namespace Go.Proofs.Ytopcpgbhmnlcnaa.fnExactLastUse
open Go.ChangeShapes Go.WideShapes Go.ChangeAt Go.RowKit Go.WideMaps Go.WideElems
open Go.ChangeMaps (open_string)
open Go.Lib Go.Deep

set_option maxHeartbeats 1600000 in
set_option maxRecDepth 100000 in
theorem walk (vTrace : List (DTraceStep)) (a_vTrace : Option Addr) (c_vTrace : Nat) (ok_vTrace : (okL DTraceStep.ok) vTrace) (vI : Int) (ok_vI : okI vI) (w : World) (hs_vTrace : Sl 0 w.heap.size w 3 vTrace.length (fun k => DTraceStep.ct (vTrace.getD k default)) a_vTrace) :
    Calls Try.prog 3 #[.slice a_vTrace vTrace.length c_vTrace, .int .i64 vI] w fun e w' => e = .returned (.bool true) ∧ Below w.heap.size w w' := by
  have HS_vTrace := Lib.hid hs_vTrace
  clear hs_vTrace
  have OK_vTrace := Lib.hid ok_vTrace
  clear ok_vTrace
  have okb_vI : -9223372036854775808 ≤ vI ∧ vI ≤ 9223372036854775807 := ok_vI
  have OK_vI := Lib.hid ok_vI
  clear ok_vI
  by_cases h0 : 1048576 < (((lsz DTraceStep.sz) vTrace : Nat) : Int)
  · skip
    have hz := fun (hi : Nat) (w' : World) (hhi : hi ≤ w'.heap.size) (hs_vTrace : Sl 0 hi w' 3 vTrace.length (fun k => DTraceStep.ct (vTrace.getD k default)) a_vTrace) => laws_szTraceStepS (cap := c_vTrace) vTrace 1048576 (by omega) (by omega) OK_vTrace.out w' hhi hs_vTrace
    rw [szR_gt (by omega)] at hz
    have HZ_vTrace := Lib.hid hz
    clear hz
    go_enter Try.func3, Try.ntmps3
    go_wp2_with fail
    refine (HZ_vTrace.out w.heap.size _ (Below.size (by repeat (first | (with_reducible exact Below.refl _ _) | (with_reducible apply Below.drew) | (with_reducible refine below_drewN ?_ _) | (refine Below.setCell ?_ (by simp <;> omega) _) | (refine Below.alloc ?_ (by simp <;> omega) _)) : Below w.heap.size w _)) (HS_vTrace.out.later (by repeat (first | (with_reducible exact Below.refl _ _) | (with_reducible apply Below.drew) | (with_reducible refine below_drewN ?_ _) | (refine Below.setCell ?_ (by simp <;> omega) _) | (refine Below.alloc ?_ (by simp <;> omega) _)) : Below w.heap.size w _) (Nat.le_refl _))).mono ?_
    rintro e w1 ⟨rfl, hb1⟩
    have hst1 : Below w.heap.size w w1 := Below.trans (by repeat (first | (with_reducible exact Below.refl _ _) | (with_reducible apply Below.drew) | (with_reducible refine below_drewN ?_ _) | (refine Below.setCell ?_ (by simp <;> omega) _) | (refine Below.alloc ?_ (by simp <;> omega) _)) : Below w.heap.size w _) (hb1.mono (Below.size (by repeat (first | (with_reducible exact Below.refl _ _) | (with_reducible apply Below.drew) | (with_reducible refine below_drewN ?_ _) | (refine Below.setCell ?_ (by simp <;> omega) _) | (refine Below.alloc ?_ (by simp <;> omega) _)) : Below w.heap.size w _)))
    have HS1_vTrace := Lib.hid (HS_vTrace.out.up hst1 (Nat.le_refl _))
    have HB1 := Lib.hid ((Below.refl w.heap.size w).trans (hst1.mono (Below.refl w.heap.size w).size))
    clear hb1 hst1
    go_wp2
    go_ret
    exact ⟨rfl, HB1.out⟩
  · skip
    have hz := fun (hi : Nat) (w' : World) (hhi : hi ≤ w'.heap.size) (hs_vTrace : Sl 0 hi w' 3 vTrace.length (fun k => DTraceStep.ct (vTrace.getD k default)) a_vTrace) => laws_szTraceStepS (cap := c_vTrace) vTrace 1048576 (by omega) (by omega) OK_vTrace.out w' hhi hs_vTrace
    rw [szR_le (by omega)] at hz
    have HZ_vTrace := Lib.hid hz
    clear hz
    have hq_vTrace : (lsz DTraceStep.sz) vTrace ≤ 1048576 := by omega
    go_enter Try.func3, Try.ntmps3
    go_wp2_with fail
    refine (HZ_vTrace.out w.heap.size _ (Below.size (by repeat (first | (with_reducible exact Below.refl _ _) | (with_reducible apply Below.drew) | (with_reducible refine below_drewN ?_ _) | (refine Below.setCell ?_ (by simp <;> omega) _) | (refine Below.alloc ?_ (by simp <;> omega) _)) : Below w.heap.size w _)) (HS_vTrace.out.later (by repeat (first | (with_reducible exact Below.refl _ _) | (with_reducible apply Below.drew) | (with_reducible refine below_drewN ?_ _) | (refine Below.setCell ?_ (by simp <;> omega) _) | (refine Below.alloc ?_ (by simp <;> omega) _)) : Below w.heap.size w _) (Nat.le_refl _))).mono ?_
    rintro e w1 ⟨rfl, hb1⟩
    have hst1 : Below w.heap.size w w1 := Below.trans (by repeat (first | (with_reducible exact Below.refl _ _) | (with_reducible apply Below.drew) | (with_reducible refine below_drewN ?_ _) | (refine Below.setCell ?_ (by simp <;> omega) _) | (refine Below.alloc ?_ (by simp <;> omega) _)) : Below w.heap.size w _) (hb1.mono (Below.size (by repeat (first | (with_reducible exact Below.refl _ _) | (with_reducible apply Below.drew) | (with_reducible refine below_drewN ?_ _) | (refine Below.setCell ?_ (by simp <;> omega) _) | (refine Below.alloc ?_ (by simp <;> omega) _)) : Below w.heap.size w _)))
    have HS1_vTrace := Lib.hid (HS_vTrace.out.up hst1 (Nat.le_refl _))
    have HB1 := Lib.hid ((Below.refl w.heap.size w).trans (hst1.mono (Below.refl w.heap.size w).size))
    clear hb1 hst1
    go_wp2_with fail
    refine (laws_toTraceStepS (cap := c_vTrace) vTrace hq_vTrace _ (Below.size (by repeat (first | (with_reducible exact Below.refl _ _) | (with_reducible apply Below.drew) | (with_reducible refine below_drewN ?_ _) | (refine Below.setCell ?_ (by simp <;> omega) _) | (refine Below.alloc ?_ (by simp <;> omega) _)) : Below w1.heap.size w1 _)) (HS1_vTrace.out.later (by repeat (first | (with_reducible exact Below.refl _ _) | (with_reducible apply Below.drew) | (with_reducible refine below_drewN ?_ _) | (refine Below.setCell ?_ (by simp <;> omega) _) | (refine Below.alloc ?_ (by simp <;> omega) _)) : Below w1.heap.size w1 _) (Nat.le_refl _))).mono ?_
    rintro e w2 ⟨a_vTrace_2, c_vTrace_2, rfl, ho2, hb2⟩
    have hst2 : Below w1.heap.size w1 w2 := Below.trans (by repeat (first | (with_reducible exact Below.refl _ _) | (with_reducible apply Below.drew) | (with_reducible refine below_drewN ?_ _) | (refine Below.setCell ?_ (by simp <;> omega) _) | (refine Below.alloc ?_ (by simp <;> omega) _)) : Below w1.heap.size w1 _) (hb2.mono (Below.size (by repeat (first | (with_reducible exact Below.refl _ _) | (with_reducible apply Below.drew) | (with_reducible refine below_drewN ?_ _) | (refine Below.setCell ?_ (by simp <;> omega) _) | (refine Below.alloc ?_ (by simp <;> omega) _)) : Below w1.heap.size w1 _)))
    have HS2_vTrace := Lib.hid (HS1_vTrace.out.up hst2 (Nat.le_refl _))
    have HS2_vTrace_2 := Lib.hid (show Sl 0 w2.heap.size w2 3 vTrace.length (fun k => DTraceStep.ct (vTrace.getD k default)) a_vTrace_2 from Sl.of (ho2.lies (lo := 0) (hi := w2.heap.size) (fun y hy => ⟨Nat.zero_le _, hy.2⟩)))
    have HB2 := Lib.hid (HB1.out.trans (hst2.mono HB1.out.size))
    clear HS1_vTrace ho2 hb2 hst2 HB1
    go_wp2_with fail
    refine (spec_LastUse (c0_0 := c_vTrace_2) vTrace OK_vTrace.out hq_vTrace vI OK_vI.out _ (Below.size (by repeat (first | (with_reducible exact Below.refl _ _) | (with_reducible apply Below.drew) | (with_reducible refine below_drewN ?_ _) | (refine Below.setCell ?_ (by simp <;> omega) _) | (refine Below.alloc ?_ (by simp <;> omega) _)) : Below w2.heap.size w2 _)) (HS2_vTrace_2.out.later (by repeat (first | (with_reducible exact Below.refl _ _) | (with_reducible apply Below.drew) | (with_reducible refine below_drewN ?_ _) | (refine Below.setCell ?_ (by simp <;> omega) _) | (refine Below.alloc ?_ (by simp <;> omega) _)) : Below w2.heap.size w2 _) (Nat.le_refl _))).mono ?_
    rintro e w3 ⟨rfl, hb3⟩
    have hst3 : Below w2.heap.size w2 w3 := Below.trans (by repeat (first | (with_reducible exact Below.refl _ _) | (with_reducible apply Below.drew) | (with_reducible refine below_drewN ?_ _) | (refine Below.setCell ?_ (by simp <;> omega) _) | (refine Below.alloc ?_ (by simp <;> omega) _)) : Below w2.heap.size w2 _) (hb3.mono (Below.size (by repeat (first | (with_reducible exact Below.refl _ _) | (with_reducible apply Below.drew) | (with_reducible refine below_drewN ?_ _) | (refine Below.setCell ?_ (by simp <;> omega) _) | (refine Below.alloc ?_ (by simp <;> omega) _)) : Below w2.heap.size w2 _)))
    have HS3_vTrace := Lib.hid (HS2_vTrace.out.up hst3 (Nat.le_refl _))
    have HS3_vTrace_2 := Lib.hid (HS2_vTrace_2.out.up hst3 (Nat.le_refl _))
    have HB3 := Lib.hid (HB2.out.trans (hst3.mono HB2.out.size))
    clear HS2_vTrace HS2_vTrace_2 hb3 hst3 HB2
    go_wp2_with fail
    refine (laws_toTraceStepS (cap := c_vTrace) vTrace hq_vTrace _ (Below.size (by repeat (first | (with_reducible exact Below.refl _ _) | (with_reducible apply Below.drew) | (with_reducible refine below_drewN ?_ _) | (refine Below.setCell ?_ (by simp <;> omega) _) | (refine Below.alloc ?_ (by simp <;> omega) _)) : Below w3.heap.size w3 _)) (HS3_vTrace.out.later (by repeat (first | (with_reducible exact Below.refl _ _) | (with_reducible apply Below.drew) | (with_reducible refine below_drewN ?_ _) | (refine Below.setCell ?_ (by simp <;> omega) _) | (refine Below.alloc ?_ (by simp <;> omega) _)) : Below w3.heap.size w3 _) (Nat.le_refl _))).mono ?_
    rintro e w4 ⟨a_vTrace_4, c_vTrace_4, rfl, ho4, hb4⟩
    have hst4 : Below w3.heap.size w3 w4 := Below.trans (by repeat (first | (with_reducible exact Below.refl _ _) | (with_reducible apply Below.drew) | (with_reducible refine below_drewN ?_ _) | (refine Below.setCell ?_ (by simp <;> omega) _) | (refine Below.alloc ?_ (by simp <;> omega) _)) : Below w3.heap.size w3 _) (hb4.mono (Below.size (by repeat (first | (with_reducible exact Below.refl _ _) | (with_reducible apply Below.drew) | (with_reducible refine below_drewN ?_ _) | (refine Below.setCell ?_ (by simp <;> omega) _) | (refine Below.alloc ?_ (by simp <;> omega) _)) : Below w3.heap.size w3 _)))
    have HS4_vTrace := Lib.hid (HS3_vTrace.out.up hst4 (Nat.le_refl _))
    have HS4_vTrace_2 := Lib.hid (HS3_vTrace_2.out.up hst4 (Nat.le_refl _))
    have HS4_vTrace_4 := Lib.hid (show Sl 0 w4.heap.size w4 3 vTrace.length (fun k => DTraceStep.ct (vTrace.getD k default)) a_vTrace_4 from Sl.of (ho4.lies (lo := 0) (hi := w4.heap.size) (fun y hy => ⟨Nat.zero_le _, hy.2⟩)))
    have HB4 := Lib.hid (HB3.out.trans (hst4.mono HB3.out.size))
    clear HS3_vTrace HS3_vTrace_2 ho4 hb4 hst4 HB3
    go_wp2_with fail
    refine (impl_LastUse (c0_0 := c_vTrace_4) vTrace OK_vTrace.out hq_vTrace vI OK_vI.out _ (Below.size (by repeat (first | (with_reducible exact Below.refl _ _) | (with_reducible apply Below.drew) | (with_reducible refine below_drewN ?_ _) | (refine Below.setCell ?_ (by simp <;> omega) _) | (refine Below.alloc ?_ (by simp <;> omega) _)) : Below w4.heap.size w4 _)) (HS4_vTrace_4.out.later (by repeat (first | (with_reducible exact Below.refl _ _) | (with_reducible apply Below.drew) | (with_reducible refine below_drewN ?_ _) | (refine Below.setCell ?_ (by simp <;> omega) _) | (refine Below.alloc ?_ (by simp <;> omega) _)) : Below w4.heap.size w4 _) (Nat.le_refl _))).mono ?_
    rintro e w5 ⟨rfl, hb5⟩
    have hst5 : Below w4.heap.size w4 w5 := Below.trans (by repeat (first | (with_reducible exact Below.refl _ _) | (with_reducible apply Below.drew) | (with_reducible refine below_drewN ?_ _) | (refine Below.setCell ?_ (by simp <;> omega) _) | (refine Below.alloc ?_ (by simp <;> omega) _)) : Below w4.heap.size w4 _) (hb5.mono (Below.size (by repeat (first | (with_reducible exact Below.refl _ _) | (with_reducible apply Below.drew) | (with_reducible refine below_drewN ?_ _) | (refine Below.setCell ?_ (by simp <;> omega) _) | (refine Below.alloc ?_ (by simp <;> omega) _)) : Below w4.heap.size w4 _)))
    have HS5_vTrace := Lib.hid (HS4_vTrace.out.up hst5 (Nat.le_refl _))
    have HS5_vTrace_2 := Lib.hid (HS4_vTrace_2.out.up hst5 (Nat.le_refl _))
    have HS5_vTrace_4 := Lib.hid (HS4_vTrace_4.out.up hst5 (Nat.le_refl _))
    have HB5 := Lib.hid (HB4.out.trans (hst5.mono HB4.out.size))
    clear HS4_vTrace HS4_vTrace_2 HS4_vTrace_4 hb5 hst5 HB4
    go_wp2_with fail
    refine (laws_toTraceStepS (cap := c_vTrace) vTrace hq_vTrace _ (Below.size (by repeat (first | (with_reducible exact Below.refl _ _) | (with_reducible apply Below.drew) | (with_reducible refine below_drewN ?_ _) | (refine Below.setCell ?_ (by simp <;> omega) _) | (refine Below.alloc ?_ (by simp <;> omega) _)) : Below w5.heap.size w5 _)) (HS5_vTrace.out.later (by repeat (first | (with_reducible exact Below.refl _ _) | (with_reducible apply Below.drew) | (with_reducible refine below_drewN ?_ _) | (refine Below.setCell ?_ (by simp <;> omega) _) | (refine Below.alloc ?_ (by simp <;> omega) _)) : Below w5.heap.size w5 _) (Nat.le_refl _))).mono ?_
    rintro e w6 ⟨a_vTrace_6, c_vTrace_6, rfl, ho6, hb6⟩
    have hst6 : Below w5.heap.size w5 w6 := Below.trans (by repeat (first | (with_reducible exact Below.refl _ _) | (with_reducible apply Below.drew) | (with_reducible refine below_drewN ?_ _) | (refine Below.setCell ?_ (by simp <;> omega) _) | (refine Below.alloc ?_ (by simp <;> omega) _)) : Below w5.heap.size w5 _) (hb6.mono (Below.size (by repeat (first | (with_reducible exact Below.refl _ _) | (with_reducible apply Below.drew) | (with_reducible refine below_drewN ?_ _) | (refine Below.setCell ?_ (by simp <;> omega) _) | (refine Below.alloc ?_ (by simp <;> omega) _)) : Below w5.heap.size w5 _)))
    have HS6_vTrace := Lib.hid (HS5_vTrace.out.up hst6 (Nat.le_refl _))
    have HS6_vTrace_2 := Lib.hid (HS5_vTrace_2.out.up hst6 (Nat.le_refl _))
    have HS6_vTrace_4 := Lib.hid (HS5_vTrace_4.out.up hst6 (Nat.le_refl _))
    have HS6_vTrace_6 := Lib.hid (show Sl 0 w6.heap.size w6 3 vTrace.length (fun k => DTraceStep.ct (vTrace.getD k default)) a_vTrace_6 from Sl.of (ho6.lies (lo := 0) (hi := w6.heap.size) (fun y hy => ⟨Nat.zero_le _, hy.2⟩)))
    have HB6 := Lib.hid (HB5.out.trans (hst6.mono HB5.out.size))
    clear HS5_vTrace HS5_vTrace_2 HS5_vTrace_4 ho6 hb6 hst6 HB5
    go_wp2_with fail
    refine (laws_eqTraceStepS (cap := c_vTrace_4) (cap2 := c_vTrace_6) vTrace hq_vTrace _ (Below.size (by repeat (first | (with_reducible exact Below.refl _ _) | (with_reducible apply Below.drew) | (with_reducible refine below_drewN ?_ _) | (refine Below.setCell ?_ (by simp <;> omega) _) | (refine Below.alloc ?_ (by simp <;> omega) _)) : Below w6.heap.size w6 _)) (Below.size (by repeat (first | (with_reducible exact Below.refl _ _) | (with_reducible apply Below.drew) | (with_reducible refine below_drewN ?_ _) | (refine Below.setCell ?_ (by simp <;> omega) _) | (refine Below.alloc ?_ (by simp <;> omega) _)) : Below w6.heap.size w6 _)) (HS6_vTrace_4.out.later (by repeat (first | (with_reducible exact Below.refl _ _) | (with_reducible apply Below.drew) | (with_reducible refine below_drewN ?_ _) | (refine Below.setCell ?_ (by simp <;> omega) _) | (refine Below.alloc ?_ (by simp <;> omega) _)) : Below w6.heap.size w6 _) (Nat.le_refl _)) (HS6_vTrace_6.out.later (by repeat (first | (with_reducible exact Below.refl _ _) | (with_reducible apply Below.drew) | (with_reducible refine below_drewN ?_ _) | (refine Below.setCell ?_ (by simp <;> omega) _) | (refine Below.alloc ?_ (by simp <;> omega) _)) : Below w6.heap.size w6 _) (Nat.le_refl _))).mono ?_
    rintro e w7 ⟨rfl, hb7⟩
    have hst7 : Below w6.heap.size w6 w7 := Below.trans (by repeat (first | (with_reducible exact Below.refl _ _) | (with_reducible apply Below.drew) | (with_reducible refine below_drewN ?_ _) | (refine Below.setCell ?_ (by simp <;> omega) _) | (refine Below.alloc ?_ (by simp <;> omega) _)) : Below w6.heap.size w6 _) (hb7.mono (Below.size (by repeat (first | (with_reducible exact Below.refl _ _) | (with_reducible apply Below.drew) | (with_reducible refine below_drewN ?_ _) | (refine Below.setCell ?_ (by simp <;> omega) _) | (refine Below.alloc ?_ (by simp <;> omega) _)) : Below w6.heap.size w6 _)))
    have HS7_vTrace := Lib.hid (HS6_vTrace.out.up hst7 (Nat.le_refl _))
    have HS7_vTrace_2 := Lib.hid (HS6_vTrace_2.out.up hst7 (Nat.le_refl _))
    have HS7_vTrace_4 := Lib.hid (HS6_vTrace_4.out.up hst7 (Nat.le_refl _))
    have HS7_vTrace_6 := Lib.hid (HS6_vTrace_6.out.up hst7 (Nat.le_refl _))
    have HB7 := Lib.hid (HB6.out.trans (hst7.mono HB6.out.size))
    clear HS6_vTrace HS6_vTrace_2 HS6_vTrace_4 HS6_vTrace_6 hb7 hst7 HB6
    go_wp2
    go_ret
    exact ⟨rfl, HB7.out⟩

set_option maxRecDepth 100000 in
theorem lifted (os : Os) (started : os.Started) (H : Type) (enc : TypeId × Value → H) :
    ReturnsInHanded {} Try.checked os 3 .any (Rows.fnExactLastUseSpec.pre6 enc Try.prog Try.f3 Rows.fnExactLastUseRow.domain false) (Rows.fnExactLastUseSpec.post enc Try.prog Try.f3 false true false false) := by
  refine returnsInHanded_of_change_sized (C := Try.checked) own started (by kernel_rfl) Try.func3
    (ChangeSpec.witness6 (enc := enc) (C := Try.checked) false ⟨#[], #[.slice none 0 0, .int .i64 0], []⟩ 8 (by kernel_rfl) (by kernel_rfl) (by kernel_rfl) (by kernel_rfl)) ?_
  intro W base args ds gs before hval0 hW _ hsz0 _
  have hval : ∀ (j : Nat) t v, Try.f3.params[j]? = some t → args[j]? = some v → Value.okWide Try.prog W .any base t v := hval0
  obtain ⟨p, q, hA0, hV, hps, hfz, hnd⟩ := id hW
  have hA : DataW.TrodAll enc Try.prog W 0 (fun _ => true) true Try.f3.params.toList args.toList ds p := hA0
  have hsz : (DataW.weightsEach Try.prog (Try.f3.params.toList ++ Rows.fnExactLastUseSpec.plain.varTypes Try.prog) (ds ++ gs)).all (· ≤ reachBytes) = true := hsz0
  rw [Try.params3] at hA hval hsz
  obtain ⟨v0, vs0, d0, ds0, p0, q0, hargs, rfl, rfl, h0, r0⟩ := trodAll_cons hA
  obtain ⟨v1, vs1, d1, ds1, p1, q1, rfl, rfl, rfl, h1, r1⟩ := trodAll_cons r0
  obtain ⟨rfl, rfl, rfl⟩ := trodAll_nil r1
  obtain rfl : args = #[v0, v1] := by cases args; simp_all
  obtain ⟨ax0, lx0, cx0, hx0⟩ := okWide_slice Try.underlying22 (hval 0 22 v0 rfl rfl)
  obtain ⟨vTrace, a_vTrace, c_vTrace, rfl, ok_vTrace, hs_vTrace⟩ := arg_traceStepS hx0 h0
  obtain ⟨vI, rfl, rfl, rfl, w1⟩ := open_int Try.underlying3 (hval 1 3 v1 rfl rfl) h1
  have ok_vI := bounds_i64 w1
  refine (walk vTrace a_vTrace c_vTrace ok_vTrace vI ok_vI W hs_vTrace).mono fun e W' ⟨he, hg⟩ => ?_
  subst he
  exact ⟨_, rfl, law_post laidOut (by kernel_rfl) rfl Try.underlying4 rfl rfl hW hg⟩

theorem said : Rows.FnExactLastUseSaid :=
  OpenClaim.holds_of_wide 3 Try.f3 rfl rfl rfl rfl rfl rfl rfl ⟨rfl, rfl, rfl, rfl, rfl⟩ rfl rfl rfl rfl rfl (by kernel_rfl) Try.func3 (by kernel_rfl)
    (of_decide_eq_true (by kernel_rfl)) (by unfold Func.isWrapper; first | (rw [if_pos (by decide +kernel)]; kernel_rfl) | (rw [if_neg (by decide +kernel)]; exact ⟨rfl, rfl⟩))
    (fun os started H enc _ => lifted os started H enc)
#print axioms said
end Go.Proofs.Ytopcpgbhmnlcnaa.fnExactLastUse
