/-
  The law FnCoerced: of every drawn value and kind the coerced value has the type, and a value of the type is not changed. No condition.
-/
import Derived.Test.YtlgddglhnnagpaaDrawV
import Derived.Test.YtlgddglhnnagpaaBit
import Derived.SizedLaws
namespace Go.Proofs.Ytlgddglhnnagpaa.fnCoerced
open Go.ChangeShapes Go.WideShapes Go.ChangeAt Go.RowKit Go.WideMaps Go.WideElems
open Go.ChangeMaps (open_string)
open Go.Lib

set_option maxHeartbeats 3200000 in
set_option maxRecDepth 100000 in
theorem walk {a : Option Addr} {len cap : Nat} (w : World) (hc : Code w.heap.size w a len) :
    Calls Try.prog 4 #[.slice a len cap] w fun e w' => e = .returned (.bool true) ∧ Below w.heap.size w w' := by
  have HC := Lib.hid hc
  clear hc
  by_cases hbig : 1048576 < len
  · go_enter Try.func4, Try.ntmps4
    go_wp2_with fail
    refine (big_yes w hbig).mono ?_
    rintro e w' ⟨rfl, rfl⟩
    go_wp2
    go_ret
    exact ⟨rfl, Below.refl _ _⟩
  · have hsm : len ≤ 1048576 := by omega
    clear hbig
    go_enter Try.func4, Try.ntmps4
    go_wp2_with fail
    refine (big_no w hsm).mono ?_
    rintro e w' ⟨rfl, rfl⟩
    go_wp2_with fail
    refine (DrawCoerce w (Nat.le_refl _) hsm HC.out).mono ?_
    rintro e w1 ⟨v, k, rfl, hv0, hv1, hk0, hk1, hb1⟩
    have HB := Lib.hid hb1
    clear hb1
    have H1 := Lib.hid (fun w => impl_Coerce v k w)
    have H2 := Lib.hid (fun w => spec_Coerce v k w)
    have h3 := fun w => impl_Coerce (coe v k) k w
    rw [coe_idem] at h3
    have H3 := Lib.hid h3
    have h4 := fun w => impl_IsOfType v k w
    have h5 := fun w => impl_IsOfType (coe v k) k w
    have h6 := fun w => impl_Saturate v w
    clear h3
    rcases (by omega : (k < 1 ∨ 4 < k) ∨ k = 1 ∨ (2 ≤ k ∧ k ≤ 4)) with hk | hk | ⟨hk2, hk4⟩
    · rw [isOf_no (inR_no hk)] at h4
      have e0 : coe v k = 0 := coe_no (by omega) (by omega) (by omega) (by omega)
      rw [e0] at H1 H2 H3
      have H4 := Lib.hid h4
      clear h4 h5 h6 e0
      rcases hk with hk | hk
      all_goals
        go_wp2_with fail
        refine (H1.out _).mono ?_
        rintro e w' ⟨rfl, rfl⟩
        go_wp2_with fail
        refine (H2.out _).mono ?_
        rintro e w' ⟨rfl, rfl⟩
        go_wp2_with fail
        refine (H3.out _).mono ?_
        rintro e w' ⟨rfl, rfl⟩
        go_wp2_with fail
        refine (H4.out _).mono ?_
        rintro e w' ⟨rfl, rfl⟩
        go_wp2
        go_ret
        exact ⟨rfl, HB.out⟩
    · subst hk
      rw [coe_isOf (by decide)] at h5
      rw [isOf_coe (by decide)] at h4
      have e6 : sat v = coe v 1 := rfl
      rw [e6] at h6
      clear e6
      generalize coe v 1 = x at H1 H2 H3 h4 h5 h6
      have H5 := Lib.hid h5
      have H6 := Lib.hid h6
      clear h5 h6
      by_cases hx : x = v
      all_goals
        first | rw [beq_iff_eq.2 hx] at h4 | rw [beq_eq_false_iff_ne.2 hx] at h4
        have H4 := Lib.hid h4
        first | (have t1 : (x == v) = true := beq_iff_eq.2 hx) | (have t1 : (x == v) = false := beq_eq_false_iff_ne.2 hx)
        have T1 := Lib.hid t1
        clear h4 hx t1
        go_wp2_with fail
        refine (H1.out _).mono ?_
        rintro e w' ⟨rfl, rfl⟩
        go_wp2_with fail
        refine (H2.out _).mono ?_
        rintro e w' ⟨rfl, rfl⟩
        go_wp2_with fail
        refine (H3.out _).mono ?_
        rintro e w' ⟨rfl, rfl⟩
        go_wp2_with fail
        refine (H5.out _).mono ?_
        rintro e w' ⟨rfl, rfl⟩
        go_wp2_with fail
        refine (H4.out _).mono ?_
        rintro e w' ⟨rfl, rfl⟩
        have t1 := T1.out
        go_wp2_with fail
        refine (H6.out _).mono ?_
        rintro e w' ⟨rfl, rfl⟩
        go_wp2
        go_ret
        exact ⟨rfl, HB.out⟩
    · have hin : inR k 1 4 = true := inR_yes (by omega) hk4
      have t2 : (k == 1) = false := beq_eq_false_iff_ne.2 (by omega)
      rw [coe_isOf hin] at h5
      rw [isOf_coe hin] at h4
      clear h6 hin
      generalize coe v k = x at H1 H2 H3 h4 h5
      have H5 := Lib.hid h5
      clear h5
      by_cases hx : x = v
      all_goals
        first | rw [beq_iff_eq.2 hx] at h4 | rw [beq_eq_false_iff_ne.2 hx] at h4
        have H4 := Lib.hid h4
        first | (have t1 : (x == v) = true := beq_iff_eq.2 hx) | (have t1 : (x == v) = false := beq_eq_false_iff_ne.2 hx)
        have T1 := Lib.hid t1
        clear h4 hx t1
        go_wp2_with fail
        refine (H1.out _).mono ?_
        rintro e w' ⟨rfl, rfl⟩
        go_wp2_with fail
        refine (H2.out _).mono ?_
        rintro e w' ⟨rfl, rfl⟩
        go_wp2_with fail
        refine (H3.out _).mono ?_
        rintro e w' ⟨rfl, rfl⟩
        go_wp2_with fail
        refine (H5.out _).mono ?_
        rintro e w' ⟨rfl, rfl⟩
        go_wp2_with fail
        refine (H4.out _).mono ?_
        rintro e w' ⟨rfl, rfl⟩
        have t1 := T1.out
        go_wp2
        go_ret
        exact ⟨rfl, HB.out⟩


set_option maxRecDepth 100000 in
theorem lifted (os : Os) (started : os.Started) (H : Type) (enc : TypeId × Value → H) :
    ReturnsInHanded {} Try.checked os 4 .any (Rows.fnCoercedSpec.pre6 enc Try.prog Try.f4 Rows.fnCoercedRow.domain false) (Rows.fnCoercedSpec.post enc Try.prog Try.f4 false true false false) := by
  refine returnsInHanded_of_change_sized (C := Try.checked) own started (by kernel_rfl) Try.func4
    (ChangeSpec.witness6 (enc := enc) (C := Try.checked) false ⟨#[], #[.slice none 0 0], []⟩ 8 (by kernel_rfl) (by kernel_rfl) (by kernel_rfl) (by kernel_rfl)) ?_
  intro W base args ds gs before hval0 hW _ hsz0 _
  have hval : ∀ (j : Nat) t v, Try.f4.params[j]? = some t → args[j]? = some v → Value.okWide Try.prog W .any base t v := hval0
  obtain ⟨p, q, hA0, hV, hps, hfz, hnd⟩ := id hW
  have hA : DataW.TrodAll enc Try.prog W 0 (fun _ => true) true Try.f4.params.toList args.toList ds p := hA0
  have hsz : (DataW.weightsEach Try.prog (Try.f4.params.toList ++ Rows.fnCoercedSpec.plain.varTypes Try.prog) (ds ++ gs)).all (· ≤ reachBytes) = true := hsz0
  rw [Try.params4] at hA hval hsz
  obtain ⟨v0, vs0, d0, ds0, p0, q0, hargs, rfl, rfl, h0, r0⟩ := trodAll_cons hA
  obtain ⟨rfl, rfl, rfl⟩ := trodAll_nil r0
  obtain rfl : args = #[v0] := by cases args; simp_all
  obtain ⟨a0, len0, cap0, rfl⟩ := okWide_slice Try.underlying22 (hval 0 22 v0 rfl rfl)
  have c0 := code_of_trod Try.underlying22 Try.underlying5 (by kernel_rfl) h0
  refine (walk W c0.2).mono fun e W' ⟨he, hg⟩ => ?_
  subst he
  exact ⟨_, rfl, law_post laidOut (by kernel_rfl) rfl Try.underlying4 rfl rfl hW hg⟩

theorem said : Rows.FnCoercedSaid :=
  OpenClaim.holds_of_wide 4 Try.f4 rfl rfl rfl rfl rfl rfl rfl ⟨rfl, rfl, rfl, rfl, rfl⟩ rfl rfl rfl rfl rfl (by kernel_rfl) Try.func4 (by kernel_rfl)
    (of_decide_eq_true (by kernel_rfl)) (by unfold Func.isWrapper; first | (rw [if_pos (by decide +kernel)]; kernel_rfl) | (rw [if_neg (by decide +kernel)]; exact ⟨rfl, rfl⟩))
    (fun os started H enc _ => lifted os started H enc)

#print axioms said
end Go.Proofs.Ytlgddglhnnagpaa.fnCoerced
