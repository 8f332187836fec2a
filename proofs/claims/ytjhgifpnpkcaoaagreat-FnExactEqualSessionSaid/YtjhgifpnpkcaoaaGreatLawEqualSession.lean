/-
  The law FnExactEqualSession: for every two sessions the program's EqualSession answers as the model's. No condition.
-/
import Derived.Test.YtjhgifpnpkcaoaaGreatLawEqualSessionW
namespace Go.Proofs.YtjhgifpnpkcaoaaGreat.fnExactEqualSession
open Go.ChangeShapes Go.WideShapes Go.ChangeAt Go.RowKit Go.WideMaps Go.WideElems
open Go.ChangeMaps (open_string)
open Go.Lib Go.Deep

set_option maxRecDepth 100000 in
theorem lifted (os : Os) (started : os.Started) (H : Type) (enc : TypeId × Value → H) :
    ReturnsInHanded {} Tryz.checked os 3 .any (Rows.fnExactEqualSessionSpec.pre6 enc Tryz.prog Tryz.f3 Rows.fnExactEqualSessionRow.domain false) (Rows.fnExactEqualSessionSpec.post enc Tryz.prog Tryz.f3 false true false false) := by
  refine returnsInHanded_of_change_sized (C := Tryz.checked) own started (by kernel_rfl) Tryz.func3
    (ChangeSpec.witness6 (enc := enc) (C := Tryz.checked) false ⟨#[], #[.agg #[.slice none 0 0, .slice none 0 0, .slice none 0 0, .slice none 0 0, .slice none 0 0, .int .i64 0], .agg #[.slice none 0 0, .slice none 0 0, .slice none 0 0, .slice none 0 0, .slice none 0 0, .int .i64 0]], []⟩ 8 (by kernel_rfl) (by kernel_rfl) (by kernel_rfl) (by kernel_rfl)) ?_
  intro W base args ds gs before hval0 hW _ hsz0 _
  have hval : ∀ (j : Nat) t v, Tryz.f3.params[j]? = some t → args[j]? = some v → Value.okWide Tryz.prog W .any base t v := hval0
  obtain ⟨p, q, hA0, hV, hps, hfz, hnd⟩ := id hW
  have hA : DataW.TrodAll enc Tryz.prog W 0 (fun _ => true) true Tryz.f3.params.toList args.toList ds p := hA0
  have hsz : (DataW.weightsEach Tryz.prog (Tryz.f3.params.toList ++ Rows.fnExactEqualSessionSpec.plain.varTypes Tryz.prog) (ds ++ gs)).all (· ≤ reachBytes) = true := hsz0
  rw [Tryz.params3] at hA hval hsz
  obtain ⟨v0, vs0, d0, ds0, p0, q0, hargs, rfl, rfl, h0, r0⟩ := trodAll_cons hA
  obtain ⟨v1, vs1, d1, ds1, p1, q1, rfl, rfl, rfl, h1, r1⟩ := trodAll_cons r0
  obtain ⟨rfl, rfl, rfl⟩ := trodAll_nil r1
  obtain rfl : args = #[v0, v1] := by cases args; simp_all
  obtain ⟨vA, a0_vA, c0_vA, a1_vA, c1_vA, a2_vA, c2_vA, a3_vA, c3_vA, a4_vA, c4_vA, rfl, ok_vA, hs_0_vA, hs_1_vA, hs_2_vA, hs_3_vA, hs_4_vA⟩ := arg_session (hval 0 34 v0 rfl rfl) h0
  obtain ⟨vB, a0_vB, c0_vB, a1_vB, c1_vB, a2_vB, c2_vB, a3_vB, c3_vB, a4_vB, c4_vB, rfl, ok_vB, hs_0_vB, hs_1_vB, hs_2_vB, hs_3_vB, hs_4_vB⟩ := arg_session (hval 1 34 v1 rfl rfl) h1
  refine (walk vA a0_vA c0_vA a1_vA c1_vA a2_vA c2_vA a3_vA c3_vA a4_vA c4_vA ok_vA vB a0_vB c0_vB a1_vB c1_vB a2_vB c2_vB a3_vB c3_vB a4_vB c4_vB ok_vB W hs_0_vA hs_1_vA hs_2_vA hs_3_vA hs_4_vA hs_0_vB hs_1_vB hs_2_vB hs_3_vB hs_4_vB).mono fun e W' ⟨he, hg⟩ => ?_
  subst he
  exact ⟨_, rfl, law_post laidOut (by kernel_rfl) rfl Tryz.underlying4 rfl rfl hW hg⟩

theorem said : Rows.FnExactEqualSessionSaid :=
  OpenClaim.holds_of_wide 3 Tryz.f3 rfl rfl rfl rfl rfl rfl rfl ⟨rfl, rfl, rfl, rfl, rfl⟩ rfl rfl rfl rfl rfl (by kernel_rfl) Tryz.func3 (by kernel_rfl)
    (of_decide_eq_true (by kernel_rfl)) (by unfold Func.isWrapper; first | (rw [if_pos (by decide +kernel)]; kernel_rfl) | (rw [if_neg (by decide +kernel)]; exact ⟨rfl, rfl⟩))
    (fun os started H enc _ => lifted os started H enc)
#print axioms said
end Go.Proofs.YtjhgifpnpkcaoaaGreat.fnExactEqualSession
