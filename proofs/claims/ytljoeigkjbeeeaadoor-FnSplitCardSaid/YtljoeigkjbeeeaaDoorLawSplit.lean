/-
  The law FnSplit: for every code, the string that is drawn from it is cut at the byte that is drawn, the pieces joined give the string again, they are as many as the model's, and none can be cut again. Its one condition is the card's: the library's tables hold what their initialisers lay (tied to the text).
-/
import Derived.Test.YtljoeigkjbeeeaaDoorDraw1
import Derived.Test.YtljoeigkjbeeeaaDoorDrawSplit
import Derived.Test.YtljoeigkjbeeeaaDoorSplit
import Derived.Test.YtljoeigkjbeeeaaDoorJoinImpl
import Derived.Test.YtljoeigkjbeeeaaDoorCards
import Derived.Test.YtljoeigkjbeeeaaDoorTie
import Derived.Lay
import Derived.MakeChecks
namespace Go.Proofs.YtljoeigkjbeeeaaDoor.fnSplit
open Go.ChangeShapes Go.WideShapes Go.ChangeAt Go.RowKit Go.WideMaps Go.WideElems
open Go.ChangeMaps (open_string)
open Go.Lib Sp

theorem parts_one (c : UInt8) (x : ByteArray) (h : c ∉ x.data.toList) : (parts c x).length = 1 := by
  have e := congrArg List.length (parts_data c x)
  rw [List.length_map, sp_none c _ h] at e
  exact e
theorem parts_free (c : UInt8) (s : ByteArray) (k : Nat) (hk : k < (parts c s).length) : c ∉ ((parts c s).getD k ByteArray.empty).data.toList := by
  refine sp_free c s.data.toList _ ?_
  rw [← parts_data, List.getD_eq_getElem?_getD, List.getElem?_eq_getElem hk]
  exact List.mem_map.2 ⟨_, List.getElem_mem hk, rfl⟩
theorem parts_join (c : UInt8) (s : ByteArray) : (⟨(join ((parts c s).map (·.data.toList)) (⟨#[c]⟩ : ByteArray).data.toList).toArray⟩ : ByteArray) = s := by
  rw [parts_data]
  have e : (⟨#[c]⟩ : ByteArray).data.toList = [c] := rfl
  rw [e, sp_join]
theorem parts_each (c : UInt8) (s : ByteArray) (k : Nat) (hk : k < (parts c s).length) : ((parts c s).getD k ByteArray.empty).size ≤ s.size := by
  have h1 := sumSize_take (parts c s) k hk
  have h2 := sumSize_take_le (parts c s) (k + 1)
  have h3 := sumSize_parts c s
  omega

set_option maxHeartbeats 1600000 in
set_option maxRecDepth 100000 in
theorem walk {a : Option Addr} {len cap : Nat} (w : World) (hc : Code w.heap.size w a len) (hm : MaxL w) :
    Calls Tryd.prog 4 #[.slice a len cap] w fun e w' => e = .returned (.bool true) ∧ Below w.heap.size w w' := by
  by_cases hbig : 1048576 < len
  · clear hm hc
    go_enter Tryd.func4, Tryd.ntmps4
    go_wp2_with fail
    refine (big_yes w hbig).mono ?_
    rintro e w' ⟨rfl, rfl⟩
    go_wp2
    go_ret
    exact ⟨rfl, Below.refl _ _⟩
  · have HM := Lib.hid hm
    have HC := Lib.hid hc
    clear hm hc
    go_enter Tryd.func4, Tryd.ntmps4
    go_wp2_with fail
    refine (big_no w (by omega)).mono ?_
    rintro e w0 ⟨rfl, rfl⟩
    go_wp2_with fail
    refine (DrawSplitByte w (Nat.le_refl _) (by omega) HC.out).mono ?_
    rintro e w1 ⟨s, b, rfl, hs, hb0, hb1, hbl1⟩
    obtain ⟨c, rfl⟩ : ∃ c : UInt8, b = (c.toNat : Int) := ⟨UInt8.ofNat b.toNat, by rw [UInt8.toNat_ofNat']; omega⟩
    have HB1 := Lib.hid hbl1
    have HM1 := Lib.hid (HM.out.below hbl1)
    clear hbl1
    have hlen := parts_length_le c s
    have hl1 : (parts c s).length ≤ 31 := by omega
    have hsum : Hid (sumSize (parts c s) ≤ 30) := by
      show sumSize (parts c s) ≤ 30
      have := sumSize_parts c s
      omega
    clear hlen
    have i1 := Lib.hid (fun w hm => impl_SplitByte s c (by omega) w hm)
    have i2 := Lib.hid (fun w => spec_SplitByte s c (by omega) w)
    have hj := Lib.hid (parts_join c s)
    have hfree := Lib.hid (parts_free c s)
    have heach := Lib.hid (parts_each c s)
    generalize parts c s = P at hl1 i1 i2 hsum hj hfree heach
    go_wp2_with fail
    refine (i1.out w1 HM1.out).mono ?_
    rintro e w2 ⟨g, rfl, hg, ho2, hb2⟩
    have HO2 := Lib.hid ho2
    have HB2 := Lib.hid (HB1.out.trans (hb2.mono HB1.out.size))
    have HM2 := Lib.hid (HM1.out.below hb2)
    clear ho2 hb2
    have hconv := byte_string (P := Tryd.prog) Tryd.underlying22 Tryd.underlying5 Tryd.underlying9 w2 c
    have hbx : Below w2.heap.size w2 (w2.alloc (.cells #[.int .u8 (c.toNat : Int)] 5)) := (Below.refl _ w2).alloc (Nat.le_refl _) _
    have hJ := impl_Join P ⟨#[c]⟩ (show 1 ≤ 1048576 by decide) (by omega) (Nat.le_trans hsum.out (by decide)) _ (HO2.out.later hbx)
    rw [hj.out] at hJ
    have HJ := Lib.hid hJ
    have HO3 := Lib.hid (HO2.out.later hbx)
    have HB3 := Lib.hid (HB2.out.trans (hbx.mono HB2.out.size))
    have HM3 := Lib.hid (HM2.out.below hbx)
    clear hJ hbx
    go_wp2_with fail
    refine HJ.out.mono ?_
    rintro e w4 ⟨rfl, hb4⟩
    have HO4 := Lib.hid (HO3.out.later hb4)
    have HB4 := Lib.hid (HB3.out.trans (hb4.mono HB3.out.size))
    have HM4 := Lib.hid (HM3.out.below hb4)
    clear hb4 hconv
    go_wp2_with fail
    refine (i2.out w4).mono ?_
    rintro e w5 ⟨g5, cap5, rfl, hg5, ho5, hb5⟩
    have HO5 := Lib.hid (HO4.out.later hb5)
    have HB5 := Lib.hid (HB4.out.trans (hb5.mono HB4.out.size))
    have HM5 := Lib.hid (HM4.out.below hb5)
    clear ho5 hb5
    go_wp2_with fail
    go_loopw [6] (fun i wr => ∃ k : Nat, k ≤ P.length ∧ i = .int .i64 (k : Int) ∧ OwnStrs wr g P ∧ MaxL wr ∧ Below w.heap.size w wr) (fun i _ => P.length - (RowKit.intOf i).toNat)
    case atStart => exact ⟨0, Nat.zero_le _, rfl, HO5.out, HM5.out, HB5.out⟩
    case round =>
      obtain ⟨k, hk, rfl, ho, hmr, hbr⟩ := hrel
      have HO := Lib.hid ho
      have HMR := Lib.hid hmr
      have HBR := Lib.hid hbr
      clear ho hmr hbr
      by_cases hlt : k < P.length
      · have hcell := HO.out.cell k hlt
        have hfr := hfree.out k hlt
        have hes := heach.out k hlt
        have i3 := Lib.hid (impl_SplitByte (P.getD k ByteArray.empty) c (by omega) wr HMR.out)
        have h1 := Lib.hid (parts_one c _ hfr)
        clear hfr hes
        generalize P.getD k ByteArray.empty = x at hcell i3 h1
        go_wp2_with fail
        refine i3.out.mono ?_
        rintro e w7 ⟨g7, rfl, hg7, ho7, hb7⟩
        rw [h1.out]
        have HO7 := Lib.hid (HO.out.later hb7)
        have HM7 := Lib.hid (HMR.out.below hb7)
        have HB7 := Lib.hid (HBR.out.trans (hb7.mono HBR.out.size))
        clear ho7 hb7 hcell
        go_wp2
        go_roundw
        case rel => exact ⟨k + 1, by omega, by go_num, HO7.out, HM7.out, HB7.out⟩
        case measure => simp [RowKit.intOf]; omega
      · go_wp2
        go_ret
        exact ⟨rfl, HBR.out⟩

theorem maxL_of {W : World} (h : W.ShapedOpen Tryd.prog) : MaxL W := Tryd.laysM146.s1_3 W h


set_option maxRecDepth 100000 in
theorem lifted (os : Os) (started : os.Started) (H : Type) (enc : TypeId × Value → H) :
    ReturnsInHanded {} Tryd.checked os 4 .any (fun w args => (Rows.fnSplitSpec.pre enc Tryd.prog Tryd.f4 [] false w args ∧ laidMetH Tryd.prog Rows.fnSplitRow.laid w) ∧ sizedMet enc Tryd.prog Tryd.f4 (OpenSpec.ofChange Rows.fnSplitSpec) false w args)
      (Rows.fnSplitSpec.post enc Tryd.prog Tryd.f4 false true false false) := by
  refine handed_shaped (C := Tryd.checked) (X := fun w => laidMetH Tryd.prog Rows.fnSplitRow.laid w) (fun _ _ hh h => h.of_heap hh) own started (by kernel_rfl) Tryd.func4
    (ChangeSpec.witness_shaped (enc := enc) (C := Tryd.checked) (os := os) (X := fun w _ => laidMetH Tryd.prog Rows.fnSplitRow.laid w) false (World.laidAll Tryd.prog os Rows.fnSplitRow.laid) #[.slice none 0 0] 8 (World.laidAll_os _ _ _) (World.shaped_of_ZipB (by kernel_rfl) (by kernel_rfl)) (by kernel_rfl) (by kernel_rfl) (by kernel_rfl) (by rw [MakeChecks.laidMetH_plain _ _ _ (by kernel_rfl)]; exact laidMet_laidAll _ (by kernel_rfl) (by kernel_rfl))) ?_
  intro W base args ds gs before hval0 hW hsz0 hL hsh
  have hval : ∀ (j : Nat) t v, Tryd.f4.params[j]? = some t → args[j]? = some v → Value.okWide Tryd.prog W .any base t v := hval0
  obtain ⟨p, q, hA0, hV, hps, hfz, hnd⟩ := id hW
  have hA : DataW.TrodAll enc Tryd.prog W 0 (fun _ => true) true Tryd.f4.params.toList args.toList ds p := hA0
  have hsz : (DataW.weightsEach Tryd.prog (Tryd.f4.params.toList ++ Rows.fnSplitSpec.plain.varTypes Tryd.prog) (ds ++ gs)).all (· ≤ reachBytes) = true := hsz0
  rw [Tryd.params4] at hA hval hsz
  obtain ⟨v0, vs0, d0, ds0, p0, q0, hargs, rfl, rfl, h0, r0⟩ := trodAll_cons hA
  obtain ⟨rfl, rfl, rfl⟩ := trodAll_nil r0
  obtain rfl : args = #[v0] := by cases args; simp_all
  obtain ⟨a0, len0, cap0, rfl⟩ := okWide_slice Tryd.underlying22 (hval 0 22 v0 rfl rfl)
  have c0 := code_of_trod Tryd.underlying22 Tryd.underlying5 (by kernel_rfl) h0
  refine (walk W c0.2 (maxL_of hsh)).mono fun e W' ⟨he, hg⟩ => ?_
  subst he
  exact ⟨_, rfl, law_post laidOut (by kernel_rfl) rfl Tryd.underlying4 rfl rfl hW hg⟩

theorem said : Rows.FnSplitSaid :=
  OpenClaim.holds_of_wide 4 Tryd.f4 rfl rfl rfl rfl rfl rfl rfl ⟨rfl, rfl, rfl, rfl, rfl⟩ rfl rfl rfl rfl rfl (by kernel_rfl) Tryd.func4 (by kernel_rfl)
    (of_decide_eq_true (by kernel_rfl)) (by unfold Func.isWrapper; first | (rw [if_pos (by decide +kernel)]; kernel_rfl) | (rw [if_neg (by decide +kernel)]; exact ⟨rfl, rfl⟩))
    (fun os started H enc _ => lifted os started H enc)

/-- No parameter wants a stand-in; the program's own looks are as the card says. -/
theorem plain (f : FuncId) (fn : Func) (hf : Tryd.pinned.checked.prog.funcNamed "loop.example/g00512/laws.FnSplit" = some f) (hfn : Tryd.pinned.checked.prog.funcs[f]? = some fn) :
    true = Tryd.pinned.checked.prog.looks [] ∧ ∀ (j : Nat) t, fn.params[j]? = some t → Tryd.pinned.checked.prog.wantsStandIn t = false := by
  obtain rfl : f = 4 := Option.some.inj ((show Tryd.prog.funcNamed "loop.example/g00512/laws.FnSplit" = some 4 by kernel_rfl).symm.trans hf) |>.symm
  obtain rfl : fn = Tryd.f4 := (Option.some.inj (Tryd.func4.symm.trans hfn)).symm
  refine ⟨by kernel_rfl, fun j t ht => ?_⟩
  rw [Tryd.params4] at ht
  have hm := Array.mem_of_getElem? ht
  simp only [List.mem_toArray, List.mem_cons, List.not_mem_nil, or_false] at hm
  rcases hm with rfl
  exact (show Tryd.prog.wantsStandIn 22 = false by kernel_rfl)

theorem card : Rows.FnSplitCardSaid :=
  Claim7.holds_tied_plain_at .later [] _ _ _ _ said (fun _ h => by cases h) (by kernel_rfl) (fun _ h => by cases h) fnSplit_row_tie rfl ⟨rfl, rfl⟩ (by kernel_rfl) rfl plain (by kernel_rfl)
#print axioms card
end Go.Proofs.YtljoeigkjbeeeaaDoor.fnSplit
