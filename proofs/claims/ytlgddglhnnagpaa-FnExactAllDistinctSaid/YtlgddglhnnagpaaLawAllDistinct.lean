/-
  The law FnExactAllDistinct: for every list of strings the program's AllDistinct answers as the model's, and writes into no argument. No condition.
-/
import Derived.Test.YtlgddglhnnagpaaSort
import Derived.Test.YtlgddglhnnagpaaDist
import Derived.Test.YtlgddglhnnagpaaStrsEq
import Derived.Test.YtlgddglhnnagpaaStrsSz
import Derived.Test.YtlgddglhnnagpaaStrsTo
import Derived.SizedLaws
namespace Go.Proofs.Ytlgddglhnnagpaa.fnExactAllDistinct
open Go.ChangeShapes Go.WideShapes Go.ChangeAt Go.RowKit Go.WideMaps Go.WideElems
open Go.ChangeMaps (open_string)
open Go.Lib

set_option maxHeartbeats 1600000 in
set_option maxRecDepth 100000 in
theorem walk {ass : Option Addr} {capss : Nat} (ss : List ByteArray) (hlss : ss.length ≤ 9223372036854775807) (w : World) (hsss : Strs w.heap.size w ass ss) :
    Calls Try.prog 10 #[.slice ass ss.length capss] w fun e w' => e = .returned (.bool true) ∧ Below w.heap.size w w' := by
  have HSss := Lib.hid hsss
  clear hsss
  by_cases hfitss : (ss.length : Int) + sumSize ss ≤ 1048576
  · have hzss := szStringS (cap := capss) ss (1048576) (by omega) (by omega) hlss w HSss.out
    rw [show szR (1048576) ss = 1048576 - ss.length - sumSize ss from by unfold szR; rw [if_pos hfitss]] at hzss
    have HZss := Lib.hid hzss
    clear hzss
    go_enter Try.func10, Try.ntmps10
    go_wp2_with fail
    refine (HZss.out).mono ?_
    rintro e w' ⟨rfl, rfl⟩
    go_wp2_with fail
    refine (toStringS ss (by omega) _ (Nat.le_refl _) HSss.out).mono ?_
    rintro e w1 ⟨g1, rfl, hg1, ho1, hb1⟩
    have lw1 : w.heap.size ≤ g1 := Nat.le_trans (Below.refl w.heap.size w).size hg1
    have HB1 := Lib.hid ((Below.refl w.heap.size w).trans (hb1.mono (Below.refl w.heap.size w).size))
    have Fp1 := Lib.hid ho1
    clear ho1 hb1 hg1
    go_wp2_with fail
    refine (spec_AllDistinct ss (by omega) (Nat.le_refl _) _ (Fp1.out.strs (by omega))).mono ?_
    rintro e w2 ⟨rfl, hb2⟩
    have Fp2 := Lib.hid (Fp1.out.later hb2)
    have HB2 := Lib.hid (HB1.out.trans (hb2.mono HB1.out.size))
    clear hb2
    go_wp2_with fail
    refine (toStringS ss (by omega) _ HB2.out.size (HSss.out.below HB2.out)).mono ?_
    rintro e w3 ⟨g3, rfl, hg3, ho3, hb3⟩
    have lt1_3 : g1 < g3 := Nat.lt_of_lt_of_le Fp2.out.lt hg3
    have lw3 : w.heap.size ≤ g3 := Nat.le_trans HB2.out.size hg3
    have Fp3 := Lib.hid (Fp2.out.later hb3)
    have HB3 := Lib.hid (HB2.out.trans (hb3.mono HB2.out.size))
    have Fx3 := Lib.hid ho3
    clear ho3 hb3 hg3
    go_wp2_with fail
    refine (impl_AllDistinct ss (by omega) _ (Fx3.out.strs (by omega))).mono ?_
    rintro e w4 ⟨rfl, hb4⟩
    have Fp4 := Lib.hid (Fp3.out.later hb4)
    have Fx4 := Lib.hid (Fx3.out.later hb4)
    have HB4 := Lib.hid (HB3.out.trans (hb4.mono HB3.out.size))
    clear hb4
    go_wp2_with fail
    refine (toStringS ss (by omega) _ HB4.out.size (HSss.out.below HB4.out)).mono ?_
    rintro e w5 ⟨g5, rfl, hg5, ho5, hb5⟩
    have lt1_5 : g1 < g5 := Nat.lt_of_lt_of_le Fp4.out.lt hg5
    have lt3_5 : g3 < g5 := Nat.lt_of_lt_of_le Fx4.out.lt hg5
    have lw5 : w.heap.size ≤ g5 := Nat.le_trans HB4.out.size hg5
    have Fp5 := Lib.hid (Fp4.out.later hb5)
    have Fx5 := Lib.hid (Fx4.out.later hb5)
    have HB5 := Lib.hid (HB4.out.trans (hb5.mono HB4.out.size))
    have Fq5 := Lib.hid ho5
    clear ho5 hb5 hg5
    go_wp2_with fail
    refine (eqStringS (ss) (by omega) _ (Fx5.out.strs (by omega)) (Fq5.out.strs (by omega))).mono ?_
    rintro e w6 ⟨rfl, hb6⟩
    have Fp6 := Lib.hid (Fp5.out.later hb6)
    have Fx6 := Lib.hid (Fx5.out.later hb6)
    have Fq6 := Lib.hid (Fq5.out.later hb6)
    have HB6 := Lib.hid (HB5.out.trans (hb6.mono HB5.out.size))
    clear hb6
    go_wp2
    go_ret
    exact ⟨rfl, HB6.out⟩
  · have hzss := szStringS (cap := capss) ss (1048576) (by omega) (by omega) hlss w HSss.out
    rw [show szR (1048576) ss = -1 from by unfold szR; rw [if_neg hfitss]] at hzss
    have HZss := Lib.hid hzss
    clear hzss
    go_enter Try.func10, Try.ntmps10
    go_wp2_with fail
    refine HZss.out.mono ?_
    rintro e w' ⟨rfl, rfl⟩
    go_wp2
    go_ret
    exact ⟨rfl, Below.refl _ _⟩


set_option maxRecDepth 100000 in
theorem lifted (os : Os) (started : os.Started) (H : Type) (enc : TypeId × Value → H) :
    ReturnsInHanded {} Try.checked os 10 .any (Rows.fnExactAllDistinctSpec.pre6 enc Try.prog Try.f10 Rows.fnExactAllDistinctRow.domain false) (Rows.fnExactAllDistinctSpec.post enc Try.prog Try.f10 false true false false) := by
  refine returnsInHanded_of_change_sized (C := Try.checked) own started (by kernel_rfl) Try.func10
    (ChangeSpec.witness6 (enc := enc) (C := Try.checked) false ⟨#[], #[.slice none 0 0], []⟩ 8 (by kernel_rfl) (by kernel_rfl) (by kernel_rfl) (by kernel_rfl)) ?_
  intro W base args ds gs before hval0 hW _ hsz0 _
  have hval : ∀ (j : Nat) t v, Try.f10.params[j]? = some t → args[j]? = some v → Value.okWide Try.prog W .any base t v := hval0
  obtain ⟨p, q, hA0, hV, hps, hfz, hnd⟩ := id hW
  have hA : DataW.TrodAll enc Try.prog W 0 (fun _ => true) true Try.f10.params.toList args.toList ds p := hA0
  have hsz : (DataW.weightsEach Try.prog (Try.f10.params.toList ++ Rows.fnExactAllDistinctSpec.plain.varTypes Try.prog) (ds ++ gs)).all (· ≤ reachBytes) = true := hsz0
  rw [Try.params10] at hA hval hsz
  obtain ⟨v0, vs0, d0, ds0, p0, q0, hargs, rfl, rfl, h0, r0⟩ := trodAll_cons hA
  obtain ⟨rfl, rfl, rfl⟩ := trodAll_nil r0
  obtain rfl : args = #[v0] := by cases args; simp_all
  obtain ⟨a0, len0, cap0, rfl⟩ := okWide_slice Try.underlying24 (hval 0 24 v0 rfl rfl)
  obtain ⟨l0, ss, rfl, c0⟩ := strs_of_trod Try.underlying24 Try.underlying9 (by kernel_rfl) h0
  unfold maxLen at l0
  refine (walk ss l0 W c0).mono fun e W' ⟨he, hg⟩ => ?_
  subst he
  exact ⟨_, rfl, law_post laidOut (by kernel_rfl) rfl Try.underlying4 rfl rfl hW hg⟩

theorem said : Rows.FnExactAllDistinctSaid :=
  OpenClaim.holds_of_wide 10 Try.f10 rfl rfl rfl rfl rfl rfl rfl ⟨rfl, rfl, rfl, rfl, rfl⟩ rfl rfl rfl rfl rfl (by kernel_rfl) Try.func10 (by kernel_rfl)
    (of_decide_eq_true (by kernel_rfl)) (by unfold Func.isWrapper; first | (rw [if_pos (by decide +kernel)]; kernel_rfl) | (rw [if_neg (by decide +kernel)]; exact ⟨rfl, rfl⟩))
    (fun os started H enc _ => lifted os started H enc)

#print axioms said
end Go.Proofs.Ytlgddglhnnagpaa.fnExactAllDistinct
