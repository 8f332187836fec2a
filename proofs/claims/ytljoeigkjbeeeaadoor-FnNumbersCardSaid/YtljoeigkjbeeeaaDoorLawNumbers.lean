/-
  The law FnNumbers: for every code, an int that is drawn from it is formatted as the model does, and parsed again exactly if its numeral is short enough; a string that is drawn is parsed exactly if it is the numeral of the number. Its one condition is the card's: the library's tables and errors hold what their initialisers lay (tied to the text).
-/
import Derived.Test.YtljoeigkjbeeeaaDoorDraw1
import Derived.Test.YtljoeigkjbeeeaaDoorRead
import Derived.Test.YtljoeigkjbeeeaaDoorParse2
import Derived.Test.YtljoeigkjbeeeaaDoorLaid
import Derived.Test.YtljoeigkjbeeeaaDoorCards
import Derived.Test.YtljoeigkjbeeeaaDoorTie
namespace Go.Proofs.YtljoeigkjbeeeaaDoor.fnNumbers
open Go.ChangeShapes Go.WideShapes Go.ChangeAt Go.RowKit Go.WideMaps Go.WideElems
open Go.ChangeMaps (open_string)
open Go.Lib Num

/-- How long the numeral is, and whether ParseInt takes it. -/
theorem len_in (n : Int) : ((itoa n).length ≤ 12 ∨ (n < 0 ∧ (itoa n).length ≤ 13)) ↔ (-999999999999 ≤ n ∧ n ≤ 999999999999) := by
  have e : (10 : Nat) ^ 12 = 1000000000000 := by decide
  have e1 : (10 : Nat) ^ 11 = 100000000000 := by decide
  by_cases hn : n < 0
  · have hl : (itoa n).length = nDigits n.natAbs + 1 := by unfold itoa; rw [if_pos hn, List.length_cons, decDigits_length]
    have h1 := nDigits_iff 12 n.natAbs (by decide)
    rw [e] at h1
    rw [hl]
    constructor
    · intro h; have := h1.1 (by omega); omega
    · intro h; have := h1.2 (by omega); omega
  · have hl : (itoa n).length = nDigits n.natAbs := by unfold itoa; rw [if_neg hn, decDigits_length]; congr 1; omega
    have h1 := nDigits_iff 12 n.natAbs (by decide)
    rw [e] at h1
    rw [hl]
    constructor
    · intro h; have := h1.1 (by omega); omega
    · intro h; have := h1.2 (by omega); omega

set_option maxHeartbeats 1600000 in
set_option maxRecDepth 100000 in
theorem walk {a : Option Addr} {len cap : Nat} (w : World) (hc : Code w.heap.size w a len) (ht : Lib3 w) :
    Calls Tryd.prog 3 #[.slice a len cap] w fun e w' => e = .returned (.bool true) ∧ Below w.heap.size w w' := by
  by_cases hbig : 1048576 < len
  · clear ht hc
    go_enter Tryd.func3, Tryd.ntmps3
    go_wp2_with fail
    refine (big_yes w hbig).mono ?_
    rintro e w' ⟨rfl, rfl⟩
    go_wp2
    go_ret
    exact ⟨rfl, Below.refl _ _⟩
  · have HT := Lib.hid ht
    have HC := Lib.hid hc
    clear ht hc
    go_enter Tryd.func3, Tryd.ntmps3
    go_wp2_with fail
    refine (big_no w (by omega)).mono ?_
    rintro e w0 ⟨rfl, rfl⟩
    go_wp2_with fail
    refine (DrawFormatInt w (Nat.le_refl _) (by omega) HC.out).mono ?_
    rintro e w1 ⟨n, rfl, hn0, hn1, hb1⟩
    have HB1 := Lib.hid hb1
    have HT1 := Lib.hid (HT.out.below hb1)
    clear hb1
    have f1 := fun w ht => impl_FormatInt n hn0 hn1 w ht
    have f2 := fun w => spec_FormatInt n hn0 hn1 w
    have f3 := fun w ht => impl_ParseInt ⟨(itoa n).toArray⟩ (by show (itoa n).toArray.size ≤ _; rw [List.size_toArray]; have := itoa_length_le n hn0 hn1; omega) w ht
    have hls : (⟨(itoa n).toArray⟩ : ByteArray).size = (itoa n).length := by show (itoa n).toArray.size = _; rw [List.size_toArray]
    have hli := len_in n
    rw [← hls] at hli
    have hp : (pint (-999999999999) 999999999999 (⟨(itoa n).toArray⟩ : ByteArray).data.toList) = if -999999999999 ≤ n ∧ n ≤ 999999999999 then some n else none := by
      by_cases hr : -999999999999 ≤ n ∧ n ≤ 999999999999
      · rw [if_pos hr]; exact (pint_iff (by decide) (by decide)).2 ⟨hr.1, hr.2, rfl⟩
      · rw [if_neg hr]
        cases hq : pint (-999999999999) 999999999999 (⟨(itoa n).toArray⟩ : ByteArray).data.toList with
        | none => rfl
        | some m =>
          have hm := (pint_iff (by decide) (by decide)).1 hq
          have := itoa_inj (a := m) (b := n) (by omega) (by omega) hn0 hn1 hm.2.2
          omega
    generalize pint (-999999999999) 999999999999 (⟨(itoa n).toArray⟩ : ByteArray).data.toList = o at f3 hp
    generalize (⟨(itoa n).toArray⟩ : ByteArray) = S at f1 f2 f3 hli
    have F1 := Lib.hid f1
    have F2 := Lib.hid f2
    have F3 := Lib.hid f3
    have HP := Lib.hid hp
    have HLI := Lib.hid hli
    clear f1 f2 f3 hp hli hls
    go_wp2_with fail
    refine (F1.out w1 HT1.out.pow).mono ?_
    rintro e w2 ⟨rfl, hb2⟩
    have HB2 := Lib.hid (HB1.out.trans (hb2.mono HB1.out.size))
    have HT2 := Lib.hid (HT1.out.below hb2)
    clear hb2
    go_wp2_with fail
    refine (F3.out w2 HT2.out).mono ?_
    rintro e w3 ⟨rfl, hb3⟩
    have HB3 := Lib.hid (HB2.out.trans (hb3.mono HB2.out.size))
    have HT3 := Lib.hid (HT2.out.below hb3)
    clear hb3
    go_wp2_with fail
    refine (F2.out w3).mono ?_
    rintro e w4 ⟨rfl, hb4⟩
    have HB4 := Lib.hid (HB3.out.trans (hb4.mono HB3.out.size))
    have HT4 := Lib.hid (HT3.out.below hb4)
    clear hb4
    have four : (o = some n ∧ (S.size : Int) ≤ 12) ∨ (o = some n ∧ ¬ (S.size : Int) ≤ 12 ∧ n < 0 ∧ (S.size : Int) ≤ 13) ∨ (o = none ∧ ¬ (S.size : Int) ≤ 12 ∧ ¬ n < 0) ∨ (o = none ∧ ¬ (S.size : Int) ≤ 12 ∧ n < 0 ∧ ¬ (S.size : Int) ≤ 13) := by
      have h1 := HLI.out
      by_cases hr : -999999999999 ≤ n ∧ n ≤ 999999999999
      · have e : o = some n := by rw [HP.out, if_pos hr]
        have := h1.2 hr
        by_cases h12 : (S.size : Int) ≤ 12
        · exact Or.inl ⟨e, h12⟩
        · exact Or.inr (Or.inl ⟨e, h12, by omega, by omega⟩)
      · have e : o = none := by rw [HP.out, if_neg hr]
        have h2 : ¬ (S.size ≤ 12 ∨ n < 0 ∧ S.size ≤ 13) := fun h => hr (h1.1 h)
        by_cases hn : n < 0
        · exact Or.inr (Or.inr (Or.inr ⟨e, by omega, hn, by omega⟩))
        · exact Or.inr (Or.inr (Or.inl ⟨e, by omega, hn⟩))
    clear HP HLI
    rcases four with ⟨rfl, h12⟩ | ⟨rfl, h12, hn, h13⟩ | ⟨rfl, h12, hn⟩ | ⟨rfl, h12, hn, h13⟩
    all_goals go_wp2_with fail
    all_goals refine (DrawParseNumber w4 HB4.out.size (by omega) (HC.out.below HB4.out)).mono ?_
    all_goals rintro e w5 ⟨t, rfl, ht30, hb5⟩
    all_goals have HB5 := Lib.hid (HB4.out.trans (hb5.mono HB4.out.size))
    all_goals have HT5 := Lib.hid (HT4.out.below hb5)
    all_goals clear hb5
    all_goals have g1 := fun w ht => impl_ParseNumber t (by omega) w ht
    all_goals have g2 := fun w => spec_ParseNumber t (by omega) w
    all_goals have hq : ∀ y, pint 0 999999 t.data.toList = some y → 0 ≤ y ∧ y ≤ 999999 ∧ itoa y = t.data.toList := fun y h => (pint_iff (by decide) (by decide)).1 h
    all_goals generalize pint 0 999999 t.data.toList = o2 at g1 g2 hq
    all_goals have G1 := Lib.hid g1
    all_goals have G2 := Lib.hid g2
    all_goals have HQ := Lib.hid hq
    all_goals clear g1 g2 hq
    all_goals go_wp2_with fail
    all_goals refine (G1.out w5 HT5.out).mono ?_
    all_goals rintro e w6 ⟨rfl, hb6⟩
    all_goals have HB6 := Lib.hid (HB5.out.trans (hb6.mono HB5.out.size))
    all_goals have HT6 := Lib.hid (HT5.out.below hb6)
    all_goals clear hb6
    all_goals go_wp2_with fail
    all_goals refine (G2.out w6).mono ?_
    all_goals rintro e w7 ⟨rfl, hb7⟩
    all_goals have HB7 := Lib.hid (HB6.out.trans (hb7.mono HB6.out.size))
    all_goals have HT7 := Lib.hid (HT6.out.below hb7)
    all_goals clear hb7
    all_goals cases o2 with
    | none =>
      go_wp2
      go_ret
      exact ⟨rfl, HB7.out⟩
    | some y =>
      have hy := HQ.out y rfl
      have hy0 := hy.1
      have hy1 := hy.2.1
      have HF := Lib.hid (impl_FormatInt y (by omega) (by omega) w7 HT7.out.pow)
      have hqb : (itoa y == t.toList) = true := by rw [toList_data, hy.2.2]; exact beq_self_eq_true _
      clear hy
      go_wp2_with fail
      refine HF.out.mono ?_
      rintro e w8 ⟨rfl, hb8⟩
      go_wp2
      go_ret
      exact ⟨rfl, HB7.out.trans (hb8.mono HB7.out.size)⟩

theorem laid_facts {W : World} (h : laidMetH Tryd.prog Rows.fnNumbersRow.laid W) : Lib3 W := by
  rw [MakeChecks.laidMetH_plain _ _ _ (by kernel_rfl)] at h
  exact lib3_of (laidMet.tail (laidMet.tail h))


/-- The door's own heap meets the condition. -/
theorem door_met (os : Os) (args : Array Value) : laidMetH Tryd.prog Rows.fnNumbersRow.laid ((World.doorLaid Tryd.prog 400 os).forCall (fun _ _ => 0) ⟨#[], args, []⟩).memory :=
  laidMetH_of_parts3 (fuel := 8) (laidMet_of_run' 8 (by kernel_rfl) (by kernel_rfl)) (by kernel_rfl) (by kernel_rfl)

set_option maxRecDepth 100000 in
theorem lifted (os : Os) (started : os.Started) (H : Type) (enc : TypeId × Value → H) :
    ReturnsInHanded {} Tryd.checked os 3 .any (fun w args => (Rows.fnNumbersSpec.pre enc Tryd.prog Tryd.f3 [] false w args ∧ laidMetH Tryd.prog Rows.fnNumbersRow.laid w) ∧ sizedMet enc Tryd.prog Tryd.f3 (OpenSpec.ofChange Rows.fnNumbersSpec) false w args)
      (Rows.fnNumbersSpec.post enc Tryd.prog Tryd.f3 false true false false) := by
  refine returnsInHanded_of_change_and (C := Tryd.checked) (X := fun w _ => laidMetH Tryd.prog Rows.fnNumbersRow.laid w) (fun _ _ _ hh h => h.of_heap hh) own started (by kernel_rfl) Tryd.func3
    (ChangeSpec.witness_shaped (enc := enc) (C := Tryd.checked) (os := os) (X := fun w _ => laidMetH Tryd.prog Rows.fnNumbersRow.laid w) false (World.doorLaid Tryd.prog 400 os) #[.slice none 0 0] 8 rfl (World.shaped_of_RefB (by kernel_rfl) (by kernel_rfl)) (by kernel_rfl) (by kernel_rfl) (by kernel_rfl) (door_met os _)) ?_
  intro W base args ds gs before hval0 hW _ hsz0 hL _
  have hval : ∀ (j : Nat) t v, Tryd.f3.params[j]? = some t → args[j]? = some v → Value.okWide Tryd.prog W .any base t v := hval0
  obtain ⟨p, q, hA0, hV, hps, hfz, hnd⟩ := id hW
  have hA : DataW.TrodAll enc Tryd.prog W 0 (fun _ => true) true Tryd.f3.params.toList args.toList ds p := hA0
  have hsz : (DataW.weightsEach Tryd.prog (Tryd.f3.params.toList ++ Rows.fnNumbersSpec.plain.varTypes Tryd.prog) (ds ++ gs)).all (· ≤ reachBytes) = true := hsz0
  rw [Tryd.params3] at hA hval hsz
  obtain ⟨v0, vs0, d0, ds0, p0, q0, hargs, rfl, rfl, h0, r0⟩ := trodAll_cons hA
  obtain ⟨rfl, rfl, rfl⟩ := trodAll_nil r0
  obtain rfl : args = #[v0] := by cases args; simp_all
  obtain ⟨a0, len0, cap0, rfl⟩ := okWide_slice Tryd.underlying22 (hval 0 22 v0 rfl rfl)
  have c0 := code_of_trod Tryd.underlying22 Tryd.underlying5 (by kernel_rfl) h0
  refine (walk W c0.2 (laid_facts hL)).mono fun e W' ⟨he, hg⟩ => ?_
  subst he
  exact ⟨_, rfl, law_post laidOut (by kernel_rfl) rfl Tryd.underlying4 rfl rfl hW hg⟩

theorem said : Rows.FnNumbersSaid :=
  OpenClaim.holds_of_wide 3 Tryd.f3 rfl rfl rfl rfl rfl rfl rfl ⟨rfl, rfl, rfl, rfl, rfl⟩ rfl rfl rfl rfl rfl (by kernel_rfl) Tryd.func3 (by kernel_rfl)
    (of_decide_eq_true (by kernel_rfl)) (by unfold Func.isWrapper; first | (rw [if_pos (by decide +kernel)]; kernel_rfl) | (rw [if_neg (by decide +kernel)]; exact ⟨rfl, rfl⟩))
    (fun os started H enc _ => lifted os started H enc)

/-- No parameter wants a stand-in; the program's own looks are as the card says. -/
theorem plain (f : FuncId) (fn : Func) (hf : Tryd.pinned.checked.prog.funcNamed "loop.example/g00512/laws.FnNumbers" = some f) (hfn : Tryd.pinned.checked.prog.funcs[f]? = some fn) :
    true = Tryd.pinned.checked.prog.looks [] ∧ ∀ (j : Nat) t, fn.params[j]? = some t → Tryd.pinned.checked.prog.wantsStandIn t = false := by
  obtain rfl : f = 3 := Option.some.inj ((show Tryd.prog.funcNamed "loop.example/g00512/laws.FnNumbers" = some 3 by kernel_rfl).symm.trans hf) |>.symm
  obtain rfl : fn = Tryd.f3 := (Option.some.inj (Tryd.func3.symm.trans hfn)).symm
  refine ⟨by kernel_rfl, fun j t ht => ?_⟩
  rw [Tryd.params3] at ht
  have hm := Array.mem_of_getElem? ht
  simp only [List.mem_toArray, List.mem_cons, List.not_mem_nil, or_false] at hm
  rcases hm with rfl
  exact (show Tryd.prog.wantsStandIn 22 = false by kernel_rfl)

theorem card : Rows.FnNumbersCardSaid :=
  Claim7.holds_tied_plain_at .later [] _ _ _ _ said (fun _ h => by cases h) (by kernel_rfl) (fun _ h => by cases h) fnNumbers_row_tie rfl ⟨rfl, rfl⟩ (by kernel_rfl) rfl plain (by kernel_rfl)
#print axioms card
end Go.Proofs.YtljoeigkjbeeeaaDoor.fnNumbers
