/-
  The law FnTypedText: of every code, a value that is drawn is parsed from its representation, exactly if it is of its type, and a drawn text is parsed as by the model, and exactly if it is a representation. Its one condition is the card's: the library's tables and errors hold what their initialisers lay (tied to the text).
-/
import Derived.Test.YtgpmmlbinmdfmaaGreatDoorDrawT
import Derived.Test.YtgpmmlbinmdfmaaGreatDoorLaid
import Derived.Test.YtgpmmlbinmdfmaaGreatDoorBig
import Derived.Test.YtgpmmlbinmdfmaaGreatDoorCards
import Derived.Test.YtgpmmlbinmdfmaaGreatDoorTie
import Derived.Lay
import Derived.MakeChecks
namespace Go.Proofs.YtgpmmlbinmdfmaaGreatDoor.fnTypedText
open Go.ChangeShapes Go.WideShapes Go.ChangeAt Go.RowKit Go.WideMaps Go.WideElems
open Go.ChangeMaps (open_string)
open Go.Lib Num

set_option maxHeartbeats 1600000 in
set_option maxRecDepth 100000 in
theorem walk {a : Option Addr} {len cap : Nat} (w : World) (hc : Code w.heap.size w a len) (ht : Lib3 w) (hm : MaxL w) :
    Calls Tryz.prog 3 #[.slice a len cap] w fun e w' => e = .returned (.bool true) ∧ Below w.heap.size w w' := by
  have HC := Lib.hid hc
  have HT := Lib.hid ht
  have HM := Lib.hid hm
  clear hc ht hm
  by_cases hbig : 1048576 < len
  · go_enter Tryz.func3, Tryz.ntmps3
    go_wp2_with fail
    refine (big_yes w hbig).mono ?_
    rintro e w' ⟨rfl, rfl⟩
    go_wp2
    go_ret
    exact ⟨rfl, Below.refl _ _⟩
  · have hsm : len ≤ 1048576 := by omega
    clear hbig
    go_enter Tryz.func3, Tryz.ntmps3
    go_wp2_with fail
    refine (big_no w hsm).mono ?_
    rintro e w' ⟨rfl, rfl⟩
    go_wp2_with fail
    refine (spec_DrawFormatTyped w (Nat.le_refl _) hsm HC.out).mono ?_
    rintro e w1 ⟨v, k, rfl, hv0, hv1, hk0, hk1, hb⟩
    have HT1 := Lib.hid (HT.out.below hb)
    have HM1 := Lib.hid (HM.out.below hb)
    have HB1 := Lib.hid hb
    clear hb
    have hfl := ftyp_len v k
    have hpb := ptyp_back v k
    have HF := Lib.hid (fun w hp => impl_FormatTyped v k w hp)
    have HS := Lib.hid (fun w => spec_FormatTyped v k w)
    have HI := Lib.hid (fun w => spec_IsOfType v k w)
    generalize ftyp v k = u at hfl hpb HF HS
    generalize isOf v k = ok at hpb HI
    have hp := fun w hm ht => impl_ParseTyped ⟨u.toArray⟩ k (by rw [mk_size]; omega) w hm ht
    have e1 : (⟨u.toArray⟩ : ByteArray).data.toList = u := rfl
    rw [e1, hpb] at hp
    clear e1 hpb
    unfold Ptv at hp
    go_wp2_with fail
    refine (HF.out _ HT1.out.pow).mono ?_
    rintro e w2 ⟨rfl, hb⟩
    have HB2 := Lib.hid (HB1.out.trans (hb.mono HB1.out.size))
    have HT2 := Lib.hid (HT1.out.below hb)
    have HM2 := Lib.hid (HM1.out.below hb)
    clear hb
    have huu : (u == (⟨u.toArray⟩ : ByteArray).toList) = true := by rw [Lib.toList_data]; exact beq_iff_eq.2 rfl
    cases ok with
    | false =>
      have HP := Lib.hid hp
      clear hp
      go_wp2_with fail
      refine (HP.out _ HM2.out HT2.out).mono ?_
      rintro e w3 ⟨rfl, hb⟩
      have HB3 := Lib.hid (HB2.out.trans (hb.mono HB2.out.size))
      have HT3 := Lib.hid (HT2.out.below hb)
      have HM3 := Lib.hid (HM2.out.below hb)
      clear hb
      go_wp2_with fail
      refine (HS.out _).mono ?_
      rintro e w4 ⟨rfl, hb⟩
      have HB4 := Lib.hid (HB3.out.trans (hb.mono HB3.out.size))
      have HT4 := Lib.hid (HT3.out.below hb)
      have HM4 := Lib.hid (HM3.out.below hb)
      clear hb
      go_wp2_with fail
      refine (HI.out _).mono ?_
      rintro e w' ⟨rfl, rfl⟩
      go_wp2_with fail
      refine (spec_DrawParseTyped w4 HB4.out.size hsm (HC.out.below HB4.out)).mono ?_
      rintro e w5 ⟨t, q, rfl, ht, hq0, hq1, hb⟩
      have HB5 := Lib.hid (HB4.out.trans (hb.mono HB4.out.size))
      have HT5 := Lib.hid (HT4.out.below hb)
      have HM5 := Lib.hid (HM4.out.below hb)
      clear hb
      have h1 := fun w hm ht => impl_ParseTyped t q (by omega) w hm ht
      have h2 := fun w => spec_ParseTyped t q (by omega) w
      have hfm := ptyp_fmt (s := t.data.toList) (k := q)
      unfold Ptv at h1 h2
      generalize (ptyp t.data.toList q).1 = y at h1 h2 hfm
      generalize (ptyp t.data.toList q).2 = fine at h1 h2 hfm
      have H1 := Lib.hid h1
      have H2 := Lib.hid h2
      clear h1 h2
      go_wp2_with fail
      refine (H1.out _ HM5.out HT5.out).mono ?_
      rintro e w6 ⟨rfl, hb⟩
      have HB6 := Lib.hid (HB5.out.trans (hb.mono HB5.out.size))
      have HT6 := Lib.hid (HT5.out.below hb)
      have HM6 := Lib.hid (HM5.out.below hb)
      clear hb
      go_wp2_with fail
      refine (H2.out _).mono ?_
      rintro e w7 ⟨rfl, hb⟩
      have HB7 := Lib.hid (HB6.out.trans (hb.mono HB6.out.size))
      have HT7 := Lib.hid (HT6.out.below hb)
      have HM7 := Lib.hid (HM6.out.below hb)
      clear hb
      cases fine with
      | false =>
        clear hfm
        go_wp2
        go_ret
        exact ⟨rfl, HB7.out⟩
      | true =>
        have hfq : ftyp y q = t.data.toList := hfm rfl
        have hqq : (ftyp y q == t.toList) = true := by rw [Lib.toList_data]; exact beq_iff_eq.2 hfq
        have HFT := Lib.hid (fun w hp => impl_FormatTyped y q w hp)
        clear hfm hfq
        generalize ftyp y q = u at HFT hqq
        go_wp2_with fail
        refine (HFT.out _ HT7.out.pow).mono ?_
        rintro e w8 ⟨rfl, hb⟩
        have HB8 := Lib.hid (HB7.out.trans (hb.mono HB7.out.size))
        clear hb
        go_wp2
        go_ret
        exact ⟨rfl, HB8.out⟩
    | true =>
      have HP := Lib.hid hp
      clear hp
      go_wp2_with fail
      refine (HP.out _ HM2.out HT2.out).mono ?_
      rintro e w3 ⟨rfl, hb⟩
      have HB3 := Lib.hid (HB2.out.trans (hb.mono HB2.out.size))
      have HT3 := Lib.hid (HT2.out.below hb)
      have HM3 := Lib.hid (HM2.out.below hb)
      clear hb
      go_wp2_with fail
      refine (HS.out _).mono ?_
      rintro e w4 ⟨rfl, hb⟩
      have HB4 := Lib.hid (HB3.out.trans (hb.mono HB3.out.size))
      have HT4 := Lib.hid (HT3.out.below hb)
      have HM4 := Lib.hid (HM3.out.below hb)
      clear hb
      go_wp2_with fail
      refine (HI.out _).mono ?_
      rintro e w' ⟨rfl, rfl⟩
      go_wp2_with fail
      refine (spec_DrawParseTyped w4 HB4.out.size hsm (HC.out.below HB4.out)).mono ?_
      rintro e w5 ⟨t, q, rfl, ht, hq0, hq1, hb⟩
      have HB5 := Lib.hid (HB4.out.trans (hb.mono HB4.out.size))
      have HT5 := Lib.hid (HT4.out.below hb)
      have HM5 := Lib.hid (HM4.out.below hb)
      clear hb
      have h1 := fun w hm ht => impl_ParseTyped t q (by omega) w hm ht
      have h2 := fun w => spec_ParseTyped t q (by omega) w
      have hfm := ptyp_fmt (s := t.data.toList) (k := q)
      unfold Ptv at h1 h2
      generalize (ptyp t.data.toList q).1 = y at h1 h2 hfm
      generalize (ptyp t.data.toList q).2 = fine at h1 h2 hfm
      have H1 := Lib.hid h1
      have H2 := Lib.hid h2
      clear h1 h2
      go_wp2_with fail
      refine (H1.out _ HM5.out HT5.out).mono ?_
      rintro e w6 ⟨rfl, hb⟩
      have HB6 := Lib.hid (HB5.out.trans (hb.mono HB5.out.size))
      have HT6 := Lib.hid (HT5.out.below hb)
      have HM6 := Lib.hid (HM5.out.below hb)
      clear hb
      go_wp2_with fail
      refine (H2.out _).mono ?_
      rintro e w7 ⟨rfl, hb⟩
      have HB7 := Lib.hid (HB6.out.trans (hb.mono HB6.out.size))
      have HT7 := Lib.hid (HT6.out.below hb)
      have HM7 := Lib.hid (HM6.out.below hb)
      clear hb
      cases fine with
      | false =>
        clear hfm
        go_wp2
        go_ret
        exact ⟨rfl, HB7.out⟩
      | true =>
        have hfq : ftyp y q = t.data.toList := hfm rfl
        have hqq : (ftyp y q == t.toList) = true := by rw [Lib.toList_data]; exact beq_iff_eq.2 hfq
        have HFT := Lib.hid (fun w hp => impl_FormatTyped y q w hp)
        clear hfm hfq
        generalize ftyp y q = u at HFT hqq
        go_wp2_with fail
        refine (HFT.out _ HT7.out.pow).mono ?_
        rintro e w8 ⟨rfl, hb⟩
        have HB8 := Lib.hid (HB7.out.trans (hb.mono HB7.out.size))
        clear hb
        go_wp2
        go_ret
        exact ⟨rfl, HB8.out⟩

theorem maxL_of {W : World} (h : W.ShapedOpen Tryz.prog) : MaxL W := Tryz.laysM146.s1_3 W h
theorem laid_facts {W : World} (h : laidMetH Tryz.prog Rows.fnTypedTextRow.laid W) : Lib3 W := by
  rw [MakeChecks.laidMetH_plain _ _ _ (by kernel_rfl)] at h
  have h2 := laidMet.tail (laidMet.tail h)
  have h4 := laidMet.tail (laidMet.tail h2)
  refine ⟨pow_of h2, ?_, ?_⟩
  · obtain ⟨a, s, hv, _⟩ := laid_sentinel (laidMet.tail h4) gSyn (by kernel_rfl) Tryz.underlying72 numErr_row Tryz.underlying125 Tryz.underlying127 rfl rfl Tryz.underlying9 (by kernel_rfl) (by kernel_rfl)
    exact ⟨_, _, hv⟩
  · obtain ⟨a, s, hv, _⟩ := laid_sentinel h4 gRng (by kernel_rfl) Tryz.underlying72 numErr_row Tryz.underlying125 Tryz.underlying127 rfl rfl Tryz.underlying9 (by kernel_rfl) (by kernel_rfl)
    exact ⟨_, _, hv⟩


set_option maxRecDepth 100000 in
theorem lifted (os : Os) (started : os.Started) (H : Type) (enc : TypeId × Value → H) :
    ReturnsInHanded {} Tryz.checked os 3 .any (fun w args => (Rows.fnTypedTextSpec.pre enc Tryz.prog Tryz.f3 [] false w args ∧ laidMetH Tryz.prog Rows.fnTypedTextRow.laid w) ∧ sizedMet enc Tryz.prog Tryz.f3 (OpenSpec.ofChange Rows.fnTypedTextSpec) false w args)
      (Rows.fnTypedTextSpec.post enc Tryz.prog Tryz.f3 false true false false) := by
  refine handed_shaped (C := Tryz.checked) (X := fun w => laidMetH Tryz.prog Rows.fnTypedTextRow.laid w) (fun _ _ hh h => h.of_heap hh) own started (by kernel_rfl) Tryz.func3
    (ChangeSpec.witness_shaped (enc := enc) (C := Tryz.checked) (os := os) (X := fun w _ => laidMetH Tryz.prog Rows.fnTypedTextRow.laid w) false (World.laidAll Tryz.prog os Rows.fnTypedTextRow.laid) #[.slice none 0 0] 8 (World.laidAll_os _ _ _) (World.shaped_of_ZipB (by kernel_rfl) (by kernel_rfl)) (by kernel_rfl) (by kernel_rfl) (by kernel_rfl) (by rw [MakeChecks.laidMetH_plain _ _ _ (by kernel_rfl)]; exact laidMet_laidAll _ (by kernel_rfl) (by kernel_rfl))) ?_
  intro W base args ds gs before hval0 hW hsz0 hL hsh
  have hval : ∀ (j : Nat) t v, Tryz.f3.params[j]? = some t → args[j]? = some v → Value.okWide Tryz.prog W .any base t v := hval0
  obtain ⟨p, q, hA0, hV, hps, hfz, hnd⟩ := id hW
  have hA : DataW.TrodAll enc Tryz.prog W 0 (fun _ => true) true Tryz.f3.params.toList args.toList ds p := hA0
  have hsz : (DataW.weightsEach Tryz.prog (Tryz.f3.params.toList ++ Rows.fnTypedTextSpec.plain.varTypes Tryz.prog) (ds ++ gs)).all (· ≤ reachBytes) = true := hsz0
  rw [Tryz.params3] at hA hval hsz
  obtain ⟨v0, vs0, d0, ds0, p0, q0, hargs, rfl, rfl, h0, r0⟩ := trodAll_cons hA
  obtain ⟨rfl, rfl, rfl⟩ := trodAll_nil r0
  obtain rfl : args = #[v0] := by cases args; simp_all
  obtain ⟨a0, len0, cap0, rfl⟩ := okWide_slice Tryz.underlying22 (hval 0 22 v0 rfl rfl)
  have c0 := code_of_trod Tryz.underlying22 Tryz.underlying5 (by kernel_rfl) h0
  refine (walk W c0.2 (laid_facts hL) (maxL_of hsh)).mono fun e W' ⟨he, hg⟩ => ?_
  subst he
  exact ⟨_, rfl, law_post laidOut (by kernel_rfl) rfl Tryz.underlying4 rfl rfl hW hg⟩

theorem said : Rows.FnTypedTextSaid :=
  OpenClaim.holds_of_wide 3 Tryz.f3 rfl rfl rfl rfl rfl rfl rfl ⟨rfl, rfl, rfl, rfl, rfl⟩ rfl rfl rfl rfl rfl (by kernel_rfl) Tryz.func3 (by kernel_rfl)
    (of_decide_eq_true (by kernel_rfl)) (by unfold Func.isWrapper; first | (rw [if_pos (by decide +kernel)]; kernel_rfl) | (rw [if_neg (by decide +kernel)]; exact ⟨rfl, rfl⟩))
    (fun os started H enc _ => lifted os started H enc)

/-- No parameter wants a stand-in; the program's own looks are as the card says. -/
theorem plain (f : FuncId) (fn : Func) (hf : Tryz.pinned.checked.prog.funcNamed "loop.example/g00512/laws.FnTypedText" = some f) (hfn : Tryz.pinned.checked.prog.funcs[f]? = some fn) :
    true = Tryz.pinned.checked.prog.looks [] ∧ ∀ (j : Nat) t, fn.params[j]? = some t → Tryz.pinned.checked.prog.wantsStandIn t = false := by
  obtain rfl : f = 3 := Option.some.inj ((show Tryz.prog.funcNamed "loop.example/g00512/laws.FnTypedText" = some 3 by kernel_rfl).symm.trans hf) |>.symm
  obtain rfl : fn = Tryz.f3 := (Option.some.inj (Tryz.func3.symm.trans hfn)).symm
  refine ⟨by kernel_rfl, fun j t ht => ?_⟩
  rw [Tryz.params3] at ht
  have hm := Array.mem_of_getElem? ht
  simp only [List.mem_toArray, List.mem_cons, List.not_mem_nil, or_false] at hm
  rcases hm with rfl
  exact (show Tryz.prog.wantsStandIn 22 = false by kernel_rfl)

theorem card : Rows.FnTypedTextCardSaid :=
  Claim7.holds_tied_plain_at .later [] _ _ _ _ said (fun _ h => by cases h) (by kernel_rfl) (fun _ h => by cases h) fnTypedText_row_tie rfl ⟨rfl, rfl⟩ (by kernel_rfl) rfl plain (by kernel_rfl)
#print axioms card
end Go.Proofs.YtgpmmlbinmdfmaaGreatDoor.fnTypedText
