/-
  The law FnExactSortNames: for every list of strings the program's SortNames returns what the model's returns, in memory of its own at each call, and writes into no argument. No condition.
-/
import Derived.Test.YtlgddglhnnagpaaSortS
import Derived.Test.YtlgddglhnnagpaaSort
import Derived.Test.YtlgddglhnnagpaaMarkStrs
import Derived.Test.YtlgddglhnnagpaaStrsEq
import Derived.Test.YtlgddglhnnagpaaStrsSz
import Derived.Test.YtlgddglhnnagpaaStrsTo
import Derived.Test.YtlgddglhnnagpaaSrtSum
import Derived.SizedLaws
namespace Go.Proofs.Ytlgddglhnnagpaa.fnExactSortNames
open Go.ChangeShapes Go.WideShapes Go.ChangeAt Go.RowKit Go.WideMaps Go.WideElems
open Go.ChangeMaps (open_string)
open Go.Lib

set_option maxHeartbeats 1600000 in
set_option maxRecDepth 100000 in
theorem walk {ass : Option Addr} {capss : Nat} (ss : List ByteArray) (hlss : ss.length ≤ 9223372036854775807) (w : World) (hsss : Strs w.heap.size w ass ss) :
    Calls Try.prog 11 #[.slice ass ss.length capss] w fun e w' => e = .returned (.bool true) ∧ Below w.heap.size w w' := by
  have HSss := Lib.hid hsss
  clear hsss
  by_cases hfitss : (ss.length : Int) + sumSize ss ≤ 1048576
  · have hzss := szStringS (cap := capss) ss (1048576) (by omega) (by omega) hlss w HSss.out
    rw [show szR (1048576) ss = 1048576 - ss.length - sumSize ss from by unfold szR; rw [if_pos hfitss]] at hzss
    have HZss := Lib.hid hzss
    clear hzss
    go_enter Try.func11, Try.ntmps11
    go_wp2_with fail
    refine (HZss.out).mono ?_
    rintro e w' ⟨rfl, rfl⟩
    go_wp2_with fail
    refine (toStringS ss (by omega) _ (Nat.le_refl _) HSss.out).mono ?_
    rintro e w1 ⟨g1, rfl, hg1, ho1, hb1⟩
    have lw1 : w.heap.size ≤ g1 := Nat.le_trans (Below.refl w.heap.size w).size hg1
    have HB1 := Lib.hid ((Below.refl w.heap.size w).trans (hb1.mono (Below.refl w.heap.size w).size))
    have Fp1 := Lib.hid ho1
    clear ho1 hb1 hg1
    have hsl : (srt ss).length ≤ 1048576 := by have := srt_length_le ss; omega
    have hss : sumSize (srt ss) ≤ 1048576 := by have := srt_sum ss; omega
    go_wp2_with fail
    refine (spec_SortNames ss (by omega) _ (Nat.le_refl _) (Fp1.out.strs (by omega))).mono ?_
    rintro e w2 ⟨g2, cap2, rfl, hg2, ho2, hb2⟩
    have lt1_2 : g1 < g2 := Nat.lt_of_lt_of_le Fp1.out.lt hg2
    have lw2 : w.heap.size ≤ g2 := Nat.le_trans HB1.out.size hg2
    have Fp2 := Lib.hid (Fp1.out.later hb2)
    have HB2 := Lib.hid (HB1.out.trans (hb2.mono HB1.out.size))
    have Fw2 := Lib.hid ho2
    clear ho2 hb2 hg2
    go_wp2_with fail
    refine (toStringS ss (by omega) _ HB2.out.size (HSss.out.below HB2.out)).mono ?_
    rintro e w3 ⟨g3, rfl, hg3, ho3, hb3⟩
    have lt1_3 : g1 < g3 := Nat.lt_of_lt_of_le Fp2.out.lt hg3
    have lt2_3 : g2 < g3 := Nat.lt_of_lt_of_le Fw2.out.lt hg3
    have lw3 : w.heap.size ≤ g3 := Nat.le_trans HB2.out.size hg3
    have Fp3 := Lib.hid (Fp2.out.later hb3)
    have Fw3 := Lib.hid (Fw2.out.later hb3)
    have HB3 := Lib.hid (HB2.out.trans (hb3.mono HB2.out.size))
    have Fx3 := Lib.hid ho3
    clear ho3 hb3 hg3
    go_wp2_with fail
    refine (impl_SortNames ss (by omega) _ (Fx3.out.strs (by omega))).mono ?_
    rintro e w4 ⟨g4, cap4, rfl, hg4, ho4, hb4⟩
    have lt1_4 : g1 < g4 := Nat.lt_of_lt_of_le Fp3.out.lt hg4
    have lt2_4 : g2 < g4 := Nat.lt_of_lt_of_le Fw3.out.lt hg4
    have lt3_4 : g3 < g4 := Nat.lt_of_lt_of_le Fx3.out.lt hg4
    have lw4 : w.heap.size ≤ g4 := Nat.le_trans HB3.out.size hg4
    have Fp4 := Lib.hid (Fp3.out.later hb4)
    have Fw4 := Lib.hid (Fw3.out.later hb4)
    have Fx4 := Lib.hid (Fx3.out.later hb4)
    have HB4 := Lib.hid (HB3.out.trans (hb4.mono HB3.out.size))
    have Fz4 := Lib.hid ho4
    clear ho4 hb4 hg4
    go_wp2_with fail
    refine (eqStringS (srt ss) (by omega) _ (Fz4.out.strs (by omega)) (Fw4.out.strs (by omega))).mono ?_
    rintro e w5 ⟨rfl, hb5⟩
    have Fp5 := Lib.hid (Fp4.out.later hb5)
    have Fw5 := Lib.hid (Fw4.out.later hb5)
    have Fx5 := Lib.hid (Fx4.out.later hb5)
    have Fz5 := Lib.hid (Fz4.out.later hb5)
    have HB5 := Lib.hid (HB4.out.trans (hb5.mono HB4.out.size))
    clear hb5
    go_wp2_with fail
    refine (toStringS ss (by omega) _ HB5.out.size (HSss.out.below HB5.out)).mono ?_
    rintro e w6 ⟨g6, rfl, hg6, ho6, hb6⟩
    have lt1_6 : g1 < g6 := Nat.lt_of_lt_of_le Fp5.out.lt hg6
    have lt2_6 : g2 < g6 := Nat.lt_of_lt_of_le Fw5.out.lt hg6
    have lt3_6 : g3 < g6 := Nat.lt_of_lt_of_le Fx5.out.lt hg6
    have lt4_6 : g4 < g6 := Nat.lt_of_lt_of_le Fz5.out.lt hg6
    have lw6 : w.heap.size ≤ g6 := Nat.le_trans HB5.out.size hg6
    have Fp6 := Lib.hid (Fp5.out.later hb6)
    have Fw6 := Lib.hid (Fw5.out.later hb6)
    have Fx6 := Lib.hid (Fx5.out.later hb6)
    have Fz6 := Lib.hid (Fz5.out.later hb6)
    have HB6 := Lib.hid (HB5.out.trans (hb6.mono HB5.out.size))
    have Fq6 := Lib.hid ho6
    clear ho6 hb6 hg6
    go_wp2_with fail
    refine (eqStringS (ss) (by omega) _ (Fx6.out.strs (by omega)) (Fq6.out.strs (by omega))).mono ?_
    rintro e w7 ⟨rfl, hb7⟩
    have Fp7 := Lib.hid (Fp6.out.later hb7)
    have Fw7 := Lib.hid (Fw6.out.later hb7)
    have Fx7 := Lib.hid (Fx6.out.later hb7)
    have Fz7 := Lib.hid (Fz6.out.later hb7)
    have Fq7 := Lib.hid (Fq6.out.later hb7)
    have HB7 := Lib.hid (HB6.out.trans (hb7.mono HB6.out.size))
    clear hb7
    go_wp2_with fail
    refine (markStringS ss (by omega) 1 (by decide) (by decide) _ Fx7.out).mono ?_
    rintro e w8 ⟨rfl, ho8, hw8⟩
    have hbw8 : Below w.heap.size w7 w8 := (hw8.below Fx7.out.lt).mono lw3
    have Fp8 := Lib.hid (Fp7.out.writes hw8 (by omega))
    have Fw8 := Lib.hid (Fw7.out.writes hw8 (by omega))
    have Fx8 := Lib.hid (ho8)
    have Fz8 := Lib.hid (Fz7.out.writes hw8 (by omega))
    have Fq8 := Lib.hid (Fq7.out.writes hw8 (by omega))
    have HB8 := Lib.hid (HB7.out.trans hbw8)
    clear ho8 hw8 hbw8
    go_wp2_with fail
    refine (eqStringS (srt ss) (by omega) _ (Fz8.out.strs (by omega)) (Fw8.out.strs (by omega))).mono ?_
    rintro e w9 ⟨rfl, hb9⟩
    have Fp9 := Lib.hid (Fp8.out.later hb9)
    have Fw9 := Lib.hid (Fw8.out.later hb9)
    have Fx9 := Lib.hid (Fx8.out.later hb9)
    have Fz9 := Lib.hid (Fz8.out.later hb9)
    have Fq9 := Lib.hid (Fq8.out.later hb9)
    have HB9 := Lib.hid (HB8.out.trans (hb9.mono HB8.out.size))
    clear hb9
    go_wp2_with fail
    refine (markStringS (srt ss) (by omega) 1 (by decide) (by decide) _ Fz9.out).mono ?_
    rintro e w10 ⟨rfl, ho10, hw10⟩
    have hbw10 : Below w.heap.size w9 w10 := (hw10.below Fz9.out.lt).mono lw4
    have Fp10 := Lib.hid (Fp9.out.writes hw10 (by omega))
    have Fw10 := Lib.hid (Fw9.out.writes hw10 (by omega))
    have Fx10 := Lib.hid (Fx9.out.writes hw10 (by omega))
    have Fz10 := Lib.hid (ho10)
    have Fq10 := Lib.hid (Fq9.out.writes hw10 (by omega))
    have HB10 := Lib.hid (HB9.out.trans hbw10)
    clear ho10 hw10 hbw10
    go_wp2_with fail
    refine (heldStringS (srt ss).length (by omega) 1 (by decide) (by decide) _ Fz10.out).mono ?_
    rintro e w11 ⟨rfl, hb11⟩
    have Fp11 := Lib.hid (Fp10.out.later hb11)
    have Fw11 := Lib.hid (Fw10.out.later hb11)
    have Fx11 := Lib.hid (Fx10.out.later hb11)
    have Fz11 := Lib.hid (Fz10.out.later hb11)
    have Fq11 := Lib.hid (Fq10.out.later hb11)
    have HB11 := Lib.hid (HB10.out.trans (hb11.mono HB10.out.size))
    clear hb11
    go_wp2_with fail
    refine (toStringS ss (by omega) _ HB11.out.size (HSss.out.below HB11.out)).mono ?_
    rintro e w12 ⟨g12, rfl, hg12, ho12, hb12⟩
    have lt1_12 : g1 < g12 := Nat.lt_of_lt_of_le Fp11.out.lt hg12
    have lt2_12 : g2 < g12 := Nat.lt_of_lt_of_le Fw11.out.lt hg12
    have lt3_12 : g3 < g12 := Nat.lt_of_lt_of_le Fx11.out.lt hg12
    have lt4_12 : g4 < g12 := Nat.lt_of_lt_of_le Fz11.out.lt hg12
    have lt6_12 : g6 < g12 := Nat.lt_of_lt_of_le Fq11.out.lt hg12
    have lw12 : w.heap.size ≤ g12 := Nat.le_trans HB11.out.size hg12
    have Fp12 := Lib.hid (Fp11.out.later hb12)
    have Fw12 := Lib.hid (Fw11.out.later hb12)
    have Fx12 := Lib.hid (Fx11.out.later hb12)
    have Fz12 := Lib.hid (Fz11.out.later hb12)
    have Fq12 := Lib.hid (Fq11.out.later hb12)
    have HB12 := Lib.hid (HB11.out.trans (hb12.mono HB11.out.size))
    have Fs12 := Lib.hid ho12
    clear ho12 hb12 hg12
    go_wp2_with fail
    refine (impl_SortNames ss (by omega) _ (Fs12.out.strs (by omega))).mono ?_
    rintro e w13 ⟨g13, cap13, rfl, hg13, ho13, hb13⟩
    have lt1_13 : g1 < g13 := Nat.lt_of_lt_of_le Fp12.out.lt hg13
    have lt2_13 : g2 < g13 := Nat.lt_of_lt_of_le Fw12.out.lt hg13
    have lt3_13 : g3 < g13 := Nat.lt_of_lt_of_le Fx12.out.lt hg13
    have lt4_13 : g4 < g13 := Nat.lt_of_lt_of_le Fz12.out.lt hg13
    have lt6_13 : g6 < g13 := Nat.lt_of_lt_of_le Fq12.out.lt hg13
    have lt12_13 : g12 < g13 := Nat.lt_of_lt_of_le Fs12.out.lt hg13
    have lw13 : w.heap.size ≤ g13 := Nat.le_trans HB12.out.size hg13
    have Fp13 := Lib.hid (Fp12.out.later hb13)
    have Fw13 := Lib.hid (Fw12.out.later hb13)
    have Fx13 := Lib.hid (Fx12.out.later hb13)
    have Fz13 := Lib.hid (Fz12.out.later hb13)
    have Fq13 := Lib.hid (Fq12.out.later hb13)
    have Fs13 := Lib.hid (Fs12.out.later hb13)
    have HB13 := Lib.hid (HB12.out.trans (hb13.mono HB12.out.size))
    have Fh13 := Lib.hid ho13
    clear ho13 hb13 hg13
    go_wp2_with fail
    refine (eqStringS (srt ss) (by omega) _ (Fh13.out.strs (by omega)) (Fw13.out.strs (by omega))).mono ?_
    rintro e w14 ⟨rfl, hb14⟩
    have Fp14 := Lib.hid (Fp13.out.later hb14)
    have Fw14 := Lib.hid (Fw13.out.later hb14)
    have Fx14 := Lib.hid (Fx13.out.later hb14)
    have Fz14 := Lib.hid (Fz13.out.later hb14)
    have Fq14 := Lib.hid (Fq13.out.later hb14)
    have Fs14 := Lib.hid (Fs13.out.later hb14)
    have Fh14 := Lib.hid (Fh13.out.later hb14)
    have HB14 := Lib.hid (HB13.out.trans (hb14.mono HB13.out.size))
    clear hb14
    go_wp2_with fail
    refine (heldStringS (srt ss).length (by omega) 1 (by decide) (by decide) _ Fz14.out).mono ?_
    rintro e w15 ⟨rfl, hb15⟩
    have Fp15 := Lib.hid (Fp14.out.later hb15)
    have Fw15 := Lib.hid (Fw14.out.later hb15)
    have Fx15 := Lib.hid (Fx14.out.later hb15)
    have Fz15 := Lib.hid (Fz14.out.later hb15)
    have Fq15 := Lib.hid (Fq14.out.later hb15)
    have Fs15 := Lib.hid (Fs14.out.later hb15)
    have Fh15 := Lib.hid (Fh14.out.later hb15)
    have HB15 := Lib.hid (HB14.out.trans (hb15.mono HB14.out.size))
    clear hb15
    go_wp2
    go_ret
    exact ⟨rfl, HB15.out⟩
  · have hzss := szStringS (cap := capss) ss (1048576) (by omega) (by omega) hlss w HSss.out
    rw [show szR (1048576) ss = -1 from by unfold szR; rw [if_neg hfitss]] at hzss
    have HZss := Lib.hid hzss
    clear hzss
    go_enter Try.func11, Try.ntmps11
    go_wp2_with fail
    refine HZss.out.mono ?_
    rintro e w' ⟨rfl, rfl⟩
    go_wp2
    go_ret
    exact ⟨rfl, Below.refl _ _⟩


set_option maxRecDepth 100000 in
theorem lifted (os : Os) (started : os.Started) (H : Type) (enc : TypeId × Value → H) :
    ReturnsInHanded {} Try.checked os 11 .any (Rows.fnExactSortNamesSpec.pre6 enc Try.prog Try.f11 Rows.fnExactSortNamesRow.domain false) (Rows.fnExactSortNamesSpec.post enc Try.prog Try.f11 false true false false) := by
  refine returnsInHanded_of_change_sized (C := Try.checked) own started (by kernel_rfl) Try.func11
    (ChangeSpec.witness6 (enc := enc) (C := Try.checked) false ⟨#[], #[.slice none 0 0], []⟩ 8 (by kernel_rfl) (by kernel_rfl) (by kernel_rfl) (by kernel_rfl)) ?_
  intro W base args ds gs before hval0 hW _ hsz0 _
  have hval : ∀ (j : Nat) t v, Try.f11.params[j]? = some t → args[j]? = some v → Value.okWide Try.prog W .any base t v := hval0
  obtain ⟨p, q, hA0, hV, hps, hfz, hnd⟩ := id hW
  have hA : DataW.TrodAll enc Try.prog W 0 (fun _ => true) true Try.f11.params.toList args.toList ds p := hA0
  have hsz : (DataW.weightsEach Try.prog (Try.f11.params.toList ++ Rows.fnExactSortNamesSpec.plain.varTypes Try.prog) (ds ++ gs)).all (· ≤ reachBytes) = true := hsz0
  rw [Try.params11] at hA hval hsz
  obtain ⟨v0, vs0, d0, ds0, p0, q0, hargs, rfl, rfl, h0, r0⟩ := trodAll_cons hA
  obtain ⟨rfl, rfl, rfl⟩ := trodAll_nil r0
  obtain rfl : args = #[v0] := by cases args; simp_all
  obtain ⟨a0, len0, cap0, rfl⟩ := okWide_slice Try.underlying24 (hval 0 24 v0 rfl rfl)
  obtain ⟨l0, ss, rfl, c0⟩ := strs_of_trod Try.underlying24 Try.underlying9 (by kernel_rfl) h0
  unfold maxLen at l0
  refine (walk ss l0 W c0).mono fun e W' ⟨he, hg⟩ => ?_
  subst he
  exact ⟨_, rfl, law_post laidOut (by kernel_rfl) rfl Try.underlying4 rfl rfl hW hg⟩

theorem said : Rows.FnExactSortNamesSaid :=
  OpenClaim.holds_of_wide 11 Try.f11 rfl rfl rfl rfl rfl rfl rfl ⟨rfl, rfl, rfl, rfl, rfl⟩ rfl rfl rfl rfl rfl (by kernel_rfl) Try.func11 (by kernel_rfl)
    (of_decide_eq_true (by kernel_rfl)) (by unfold Func.isWrapper; first | (rw [if_pos (by decide +kernel)]; kernel_rfl) | (rw [if_neg (by decide +kernel)]; exact ⟨rfl, rfl⟩))
    (fun os started H enc _ => lifted os started H enc)

#print axioms said
end Go.Proofs.Ytlgddglhnnagpaa.fnExactSortNames
