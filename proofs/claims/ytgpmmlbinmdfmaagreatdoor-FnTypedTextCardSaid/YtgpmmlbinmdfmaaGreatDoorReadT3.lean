/-
  ParseTyped in the model.
-/
import Derived.Test.YtgpmmlbinmdfmaaGreatDoorReadT2
import Derived.Test.YtgpmmlbinmdfmaaGreatDoorRead
namespace Go.Proofs.YtgpmmlbinmdfmaaGreatDoor
open Go.ChangeShapes Go.WideShapes Go.ChangeAt Go.RowKit
open Go.Lib Num Sp

theorem readS_1 (s : List UInt8) : readS s 1 = (pint (-999999999999) 999999999999 s).getD 0 := by unfold readS; rw [if_pos rfl]
theorem readS_2 (s : List UInt8) : readS s 2 = lowS s 12 := by unfold readS; rw [if_neg (by decide), if_pos rfl]
theorem readS_3 (s : List UInt8) : readS s 3 = tr (decide (s = [116, 114, 117, 101])) := by unfold readS; rw [if_neg (by decide), if_neg (by decide), if_pos rfl]
theorem readS_4 (s : List UInt8) : readS s 4 = if 1 < s.length then (pint 0 999999 (s.drop 1)).getD 0 else 0 := by unfold readS; rw [if_neg (by decide), if_neg (by decide), if_neg (by decide), if_pos rfl]
theorem readS_no (s : List UInt8) {k : Int} (h1 : ¬ k = 1) (h2 : ¬ k = 2) (h3 : ¬ k = 3) (h4 : ¬ k = 4) : readS s k = 0 := by unfold readS; rw [if_neg h1, if_neg h2, if_neg h3, if_neg h4]
theorem lowS_yes {s : List UInt8} {k : Nat} (h : inS s k = true) : lowS s (k + 1) = bits .or .i64 (lowS s k) (wrap64 (2 ^ k)) := by
  show (if inS s k = true then _ else _) = _
  rw [if_pos h]
theorem lowS_no {s : List UInt8} {k : Nat} (h : inS s k = false) : lowS s (k + 1) = lowS s k := by
  show (if inS s k = true then _ else _) = _
  rw [if_neg (by rw [h]; decide)]
theorem mid_data (s : ByteArray) (h : 2 < s.size) : (s.extract 1 (s.size - 1)).data.toList = (s.data.toList.drop 1).take (s.data.toList.length - 2) := by
  rw [ByteArray.data_extract, Array.toList_extract, List.extract_eq_take_drop, size_eq]
  congr 1
theorem tail_data (s : ByteArray) : (s.extract 1 s.size).data.toList = s.data.toList.drop 1 := by
  rw [ByteArray.data_extract, Array.toList_extract, List.extract_eq_take_drop, size_eq]
  rw [List.take_of_length_le (by rw [List.length_drop]; omega)]
theorem inS_parts (s : ByteArray) (k : Nat) (h : 2 < s.size) : inS s.data.toList k = memB ⟨(itoa (k : Int)).toArray⟩ (parts 32 (s.extract 1 (s.size - 1))) := by
  unfold inS
  rw [← size_eq, decide_eq_true h, Bool.true_and, size_eq, ← mid_data s h, ← parts_data]
  refine Bool.eq_iff_iff.2 ?_
  rw [decide_eq_true_iff, memB_iff, List.mem_map]
  constructor
  · rintro ⟨x, hx, he⟩
    have e : x = ⟨(itoa (k : Int)).toArray⟩ := by rw [← Lib.mk_data x, he]
    rw [← e]; exact hx
  · exact fun hx => ⟨_, hx, rfl⟩
theorem inS_short (s : ByteArray) (k : Nat) (h : ¬ 2 < s.size) : inS s.data.toList k = false := by
  unfold inS
  rw [← size_eq, decide_eq_false h, Bool.false_and]
theorem nil_size {s : ByteArray} (h : s.data.toList = []) : s.size = 0 := by rw [size_eq, h]; rfl


set_option maxHeartbeats 1600000 in
set_option maxRecDepth 100000 in
theorem spec_ParseTyped (s : ByteArray) (k : Int) (hs : s.size ≤ 1048576) (w : World) :
    Calls Tryz.prog 12 #[.string s, .int .i64 k] w fun e w' => e = .returned (Ptv (ptyp s.data.toList k)) ∧ Below w.heap.size w w' := by
  by_cases h1 : k = 1
  · subst h1
    have HP := Lib.hid (spec_ParseInt s (by omega) w)
    have hr := readS_1 s.data.toList
    generalize pint (-999999999999) 999999999999 s.data.toList = o1 at HP hr
    generalize o1.getD 0 = v at HP hr
    generalize o1.isSome = vs at HP
    have hv : readS s.data.toList 1 = v := hr
    have HF := Lib.hid (fun w => spec_FormatTyped v 1 w)
    have hu : ftyp (readS s.data.toList 1) 1 = ftyp v 1 := by rw [hv]
    clear hr
    generalize ftyp v 1 = u at HF hu
    by_cases h0 : s.data.toList = []
    · have hz : (s.toList == ([] : List UInt8)) = true := by rw [Lib.toList_data, h0]; rfl
      have hpn : ptyp s.data.toList 1 = (0, false) := by rw [h0]; exact ptyp_S_nil
      rw [hpn]
      clear h0 hpn
      go_enter Tryz.func12, Tryz.ntmps12
      go_wp2_with fail
      refine HP.out.mono ?_
      rintro e w2 ⟨rfl, hb2⟩
      go_wp2
      go_ret2
      exact ⟨rfl, hb2⟩
    have hz : (s.toList == ([] : List UInt8)) = false := by rw [Lib.toList_data]; exact beq_eq_false_iff_ne.2 h0
    by_cases he : u = s.data.toList
    · have hq2 : (u == s.toList) = true := by rw [Lib.toList_data]; exact beq_iff_eq.2 he
      rw [ptyp_S_yes h0 (hu.trans he), hv]
      clear h0 he
      go_enter Tryz.func12, Tryz.ntmps12
      go_wp2_with fail
      refine HP.out.mono ?_
      rintro e w2 ⟨rfl, hb2⟩
      go_wp2_with fail
      refine (HF.out _).mono ?_
      rintro e w9 ⟨rfl, hb9⟩
      have HB9 := Lib.hid ((hb2).trans (hb9.mono (Below.size (hb2))))
      clear hb9
      go_wp2
      go_ret2
      exact ⟨rfl, HB9.out⟩
    · have hq2 : (u == s.toList) = false := by rw [Lib.toList_data]; exact beq_eq_false_iff_ne.2 he
      rw [ptyp_S_no (fun e => he (hu.symm.trans e))]
      clear h0 he
      go_enter Tryz.func12, Tryz.ntmps12
      go_wp2_with fail
      refine HP.out.mono ?_
      rintro e w2 ⟨rfl, hb2⟩
      go_wp2_with fail
      refine (HF.out _).mono ?_
      rintro e w9 ⟨rfl, hb9⟩
      have HB9 := Lib.hid ((hb2).trans (hb9.mono (Below.size (hb2))))
      clear hb9
      go_wp2
      go_ret2
      exact ⟨rfl, HB9.out⟩
  by_cases h3 : k = 3
  · subst h3
    have hr := readS_3 s.data.toList
    have hq : (s.toList == ([116, 114, 117, 101] : List UInt8)) = decide (s.data.toList = [116, 114, 117, 101]) := by rw [Lib.toList_data]; exact Bool.eq_iff_iff.2 (by simp)
    generalize decide (s.data.toList = [116, 114, 117, 101]) = q at hq hr
    have HQ := Lib.hid (fun w => spec_l3Truth q w)
    generalize tr q = v at HQ hr
    have hv : readS s.data.toList 3 = v := hr
    have HF := Lib.hid (fun w => spec_FormatTyped v 3 w)
    have hu : ftyp (readS s.data.toList 3) 3 = ftyp v 3 := by rw [hv]
    clear hr
    generalize ftyp v 3 = u at HF hu
    by_cases h0 : s.data.toList = []
    · have hz : (s.toList == ([] : List UInt8)) = true := by rw [Lib.toList_data, h0]; rfl
      have hpn : ptyp s.data.toList 3 = (0, false) := by rw [h0]; exact ptyp_S_nil
      rw [hpn]
      clear h0 hpn
      go_enter Tryz.func12, Tryz.ntmps12
      go_wp2_with fail
      refine (HQ.out _).mono ?_
      rintro e w2 ⟨rfl, rfl⟩
      go_wp2
      go_ret2
      exact ⟨rfl, Below.refl w.heap.size w⟩
    have hz : (s.toList == ([] : List UInt8)) = false := by rw [Lib.toList_data]; exact beq_eq_false_iff_ne.2 h0
    by_cases he : u = s.data.toList
    · have hq2 : (u == s.toList) = true := by rw [Lib.toList_data]; exact beq_iff_eq.2 he
      rw [ptyp_S_yes h0 (hu.trans he), hv]
      clear h0 he
      go_enter Tryz.func12, Tryz.ntmps12
      go_wp2_with fail
      refine (HQ.out _).mono ?_
      rintro e w2 ⟨rfl, rfl⟩
      go_wp2_with fail
      refine (HF.out _).mono ?_
      rintro e w9 ⟨rfl, hb9⟩
      have HB9 := Lib.hid ((Below.refl w.heap.size w).trans (hb9.mono (Below.size (Below.refl w.heap.size w))))
      clear hb9
      go_wp2
      go_ret2
      exact ⟨rfl, HB9.out⟩
    · have hq2 : (u == s.toList) = false := by rw [Lib.toList_data]; exact beq_eq_false_iff_ne.2 he
      rw [ptyp_S_no (fun e => he (hu.symm.trans e))]
      clear h0 he
      go_enter Tryz.func12, Tryz.ntmps12
      go_wp2_with fail
      refine (HQ.out _).mono ?_
      rintro e w2 ⟨rfl, rfl⟩
      go_wp2_with fail
      refine (HF.out _).mono ?_
      rintro e w9 ⟨rfl, hb9⟩
      have HB9 := Lib.hid ((Below.refl w.heap.size w).trans (hb9.mono (Below.size (Below.refl w.heap.size w))))
      clear hb9
      go_wp2
      go_ret2
      exact ⟨rfl, HB9.out⟩
  by_cases h4 : k = 4
  · subst h4
    have hr := readS_4 s.data.toList
    rw [← size_eq] at hr
    by_cases hl : 1 < s.size
    · rw [if_pos hl, ← tail_data] at hr
      have HP := Lib.hid (spec_ParseNumber (s.extract 1 s.size) (by have := size_eq (s.extract 1 s.size); rw [tail_data, List.length_drop, ← size_eq] at this; omega) w)
      generalize pint 0 999999 (s.extract 1 s.size).data.toList = o1 at HP hr
      generalize o1.getD 0 = v at HP hr
      generalize o1.isSome = vs at HP
      have hv : readS s.data.toList 4 = v := hr
      have HF := Lib.hid (fun w => spec_FormatTyped v 4 w)
      have hu : ftyp (readS s.data.toList 4) 4 = ftyp v 4 := by rw [hv]
      clear hr
      generalize ftyp v 4 = u at HF hu
      by_cases h0 : s.data.toList = []
      · have hz : (s.toList == ([] : List UInt8)) = true := by rw [Lib.toList_data, h0]; rfl
        have hpn : ptyp s.data.toList 4 = (0, false) := by rw [h0]; exact ptyp_S_nil
        rw [hpn]
        clear h0 hpn
        go_enter Tryz.func12, Tryz.ntmps12
        go_wp2_with fail
        refine HP.out.mono ?_
        rintro e w2 ⟨rfl, hb2⟩
        go_wp2
        go_ret2
        exact ⟨rfl, hb2⟩
      have hz : (s.toList == ([] : List UInt8)) = false := by rw [Lib.toList_data]; exact beq_eq_false_iff_ne.2 h0
      by_cases he : u = s.data.toList
      · have hq2 : (u == s.toList) = true := by rw [Lib.toList_data]; exact beq_iff_eq.2 he
        rw [ptyp_S_yes h0 (hu.trans he), hv]
        clear h0 he
        go_enter Tryz.func12, Tryz.ntmps12
        go_wp2_with fail
        refine HP.out.mono ?_
        rintro e w2 ⟨rfl, hb2⟩
        go_wp2_with fail
        refine (HF.out _).mono ?_
        rintro e w9 ⟨rfl, hb9⟩
        have HB9 := Lib.hid ((hb2).trans (hb9.mono (Below.size (hb2))))
        clear hb9
        go_wp2
        go_ret2
        exact ⟨rfl, HB9.out⟩
      · have hq2 : (u == s.toList) = false := by rw [Lib.toList_data]; exact beq_eq_false_iff_ne.2 he
        rw [ptyp_S_no (fun e => he (hu.symm.trans e))]
        clear h0 he
        go_enter Tryz.func12, Tryz.ntmps12
        go_wp2_with fail
        refine HP.out.mono ?_
        rintro e w2 ⟨rfl, hb2⟩
        go_wp2_with fail
        refine (HF.out _).mono ?_
        rintro e w9 ⟨rfl, hb9⟩
        have HB9 := Lib.hid ((hb2).trans (hb9.mono (Below.size (hb2))))
        clear hb9
        go_wp2
        go_ret2
        exact ⟨rfl, HB9.out⟩
    · rw [if_neg hl] at hr
      have hv : readS s.data.toList 4 = 0 := hr
      have HF := Lib.hid (fun w => spec_FormatTyped 0 4 w)
      have hu : ftyp (readS s.data.toList 4) 4 = ftyp 0 4 := by rw [hv]
      clear hr
      generalize ftyp 0 4 = u at HF hu
      by_cases h0 : s.data.toList = []
      · have hz : (s.toList == ([] : List UInt8)) = true := by rw [Lib.toList_data, h0]; rfl
        have hpn : ptyp s.data.toList 4 = (0, false) := by rw [h0]; exact ptyp_S_nil
        rw [hpn]
        clear h0 hpn
        go_enter Tryz.func12, Tryz.ntmps12
        go_wp2
        go_ret2
        exact ⟨rfl, Below.refl w.heap.size w⟩
      have hz : (s.toList == ([] : List UInt8)) = false := by rw [Lib.toList_data]; exact beq_eq_false_iff_ne.2 h0
      by_cases he : u = s.data.toList
      · have hq2 : (u == s.toList) = true := by rw [Lib.toList_data]; exact beq_iff_eq.2 he
        rw [ptyp_S_yes h0 (hu.trans he), hv]
        clear h0 he
        go_enter Tryz.func12, Tryz.ntmps12
        go_wp2_with fail
        refine (HF.out _).mono ?_
        rintro e w9 ⟨rfl, hb9⟩
        have HB9 := Lib.hid ((Below.refl w.heap.size w).trans (hb9.mono (Below.size (Below.refl w.heap.size w))))
        clear hb9
        go_wp2
        go_ret2
        exact ⟨rfl, HB9.out⟩
      · have hq2 : (u == s.toList) = false := by rw [Lib.toList_data]; exact beq_eq_false_iff_ne.2 he
        rw [ptyp_S_no (fun e => he (hu.symm.trans e))]
        clear h0 he
        go_enter Tryz.func12, Tryz.ntmps12
        go_wp2_with fail
        refine (HF.out _).mono ?_
        rintro e w9 ⟨rfl, hb9⟩
        have HB9 := Lib.hid ((Below.refl w.heap.size w).trans (hb9.mono (Below.size (Below.refl w.heap.size w))))
        clear hb9
        go_wp2
        go_ret2
        exact ⟨rfl, HB9.out⟩
  by_cases h2 : k = 2
  · subst h2
    have hv := readS_2 s.data.toList
    have HF := Lib.hid (fun w => spec_FormatTyped (lowS s.data.toList 12) 2 w)
    have hu : ftyp (readS s.data.toList 2) 2 = ftyp (lowS s.data.toList 12) 2 := by rw [hv]
    generalize ftyp (lowS s.data.toList 12) 2 = u at HF hu
    go_enter Tryz.func12, Tryz.ntmps12
    go_wp2
    go_loopw [6, 7] (fun sv iv wr => ∃ j : Nat, j ≤ 12 ∧ iv = .int .i64 (j : Int) ∧ sv = .int .i64 (lowS s.data.toList j) ∧ Below w.heap.size w wr) (fun _ iv _ => 12 - (RowKit.intOf iv).toNat)
    case atStart => exact ⟨0, Nat.zero_le _, rfl, rfl, Below.refl _ _⟩
    case round =>
      obtain ⟨j, hj, rfl, rfl, hbr⟩ := hrel
      have HBR := Lib.hid hbr
      clear hbr
      by_cases hlt : j < 12
      · by_cases hl : 2 < s.size
        · have hin := inS_parts s j hl
          have hxl : (s.extract 1 (s.size - 1)).size ≤ s.size := by have h := size_eq (s.extract 1 (s.size - 1)); rw [mid_data s hl, List.length_take, List.length_drop, ← size_eq] at h; omega
          have HSP := Lib.hid (spec_SplitByte (s.extract 1 (s.size - 1)) 32 (by omega) wr)
          have hpl := parts_length_le 32 (s.extract 1 (s.size - 1))
          have hsm := sumSize_parts 32 (s.extract 1 (s.size - 1))
          generalize parts 32 (s.extract 1 (s.size - 1)) = P at HSP hin hpl hsm
          have HFI := Lib.hid (fun w => spec_FormatInt (j : Int) (by omega) (by omega) w)
          generalize (⟨(itoa (j : Int)).toArray⟩ : ByteArray) = d at HFI hin
          obtain ⟨mb, hmb⟩ : ∃ mb, memB d P = mb := ⟨_, rfl⟩
          rw [hmb] at hin
          have HMB := Lib.hid hmb
          clear hmb
          cases mb with
          | false =>
            have HNX := Lib.hid (lowS_no hin)
            clear hin
            go_wp2_with fail
            refine HSP.out.mono ?_
            rintro e w2 ⟨g, cap, rfl, hg, ho, hb2⟩
            have HST := Lib.hid (ho.strs (by omega))
            have HB2 := Lib.hid (HBR.out.trans (hb2.mono HBR.out.size))
            clear ho hb2
            go_wp2_with fail
            refine (HFI.out _).mono ?_
            rintro e w3 ⟨rfl, hb3⟩
            have HB3 := Lib.hid (HB2.out.trans (hb3.mono HB2.out.size))
            have HST3 := Lib.hid (HST.out.below hb3)
            clear hb3
            go_wp2_with fail
            refine (spec_l1Has (cap := cap) P d (by omega) _ HST3.out).mono ?_
            rintro e w4 ⟨rfl, rfl⟩
            rw [HMB.out]
            go_wp2
            go_roundw
            case rel => exact ⟨j + 1, by omega, by go_num, by rw [HNX.out], HB3.out⟩
            case measure => simp [RowKit.intOf]; omega
          | true =>
            have HNX := Lib.hid (lowS_yes hin)
            clear hin
            go_wp2_with fail
            refine HSP.out.mono ?_
            rintro e w2 ⟨g, cap, rfl, hg, ho, hb2⟩
            have HST := Lib.hid (ho.strs (by omega))
            have HB2 := Lib.hid (HBR.out.trans (hb2.mono HBR.out.size))
            clear ho hb2
            go_wp2_with fail
            refine (HFI.out _).mono ?_
            rintro e w3 ⟨rfl, hb3⟩
            have HB3 := Lib.hid (HB2.out.trans (hb3.mono HB2.out.size))
            have HST3 := Lib.hid (HST.out.below hb3)
            clear hb3
            go_wp2_with fail
            refine (spec_l1Has (cap := cap) P d (by omega) _ HST3.out).mono ?_
            rintro e w4 ⟨rfl, rfl⟩
            rw [HMB.out]
            go_wp2
            go_roundw
            case rel => exact ⟨j + 1, by omega, by go_num, by rw [HNX.out], HB3.out⟩
            case measure => simp [RowKit.intOf]; omega
        · have HNX := Lib.hid (lowS_no (inS_short s j hl))
          go_wp2
          go_roundw
          case rel => exact ⟨j + 1, by omega, by go_num, by rw [HNX.out], HBR.out⟩
          case measure => simp [RowKit.intOf]; omega
      · obtain rfl : j = 12 := by omega
        by_cases h0 : s.data.toList = []
        · have hz : (s.toList == ([] : List UInt8)) = true := by rw [Lib.toList_data, h0]; rfl
          have HPN := Lib.hid (show ptyp s.data.toList 2 = (0, false) by rw [h0]; exact ptyp_S_nil)
          clear h0
          go_wp2
          go_ret2
          exact ⟨by rw [HPN.out]; rfl, HBR.out⟩
        have hz : (s.toList == ([] : List UInt8)) = false := by rw [Lib.toList_data]; exact beq_eq_false_iff_ne.2 h0
        by_cases he : u = s.data.toList
        · have hq2 : (u == s.toList) = true := by rw [Lib.toList_data]; exact beq_iff_eq.2 he
          have HPN := Lib.hid (show ptyp s.data.toList 2 = (lowS s.data.toList 12, true) by rw [ptyp_S_yes h0 (hu.trans he), hv])
          clear h0 he
          go_wp2_with fail
          refine (HF.out _).mono ?_
          rintro e w9 ⟨rfl, hb9⟩
          have HB9 := Lib.hid (HBR.out.trans (hb9.mono HBR.out.size))
          clear hb9
          go_wp2
          go_ret2
          exact ⟨by rw [HPN.out]; rfl, HB9.out⟩
        · have hq2 : (u == s.toList) = false := by rw [Lib.toList_data]; exact beq_eq_false_iff_ne.2 he
          have HPN := Lib.hid (ptyp_S_no (s := s.data.toList) (k := 2) (fun e => he (hu.symm.trans e)))
          clear h0 he
          go_wp2_with fail
          refine (HF.out _).mono ?_
          rintro e w9 ⟨rfl, hb9⟩
          have HB9 := Lib.hid (HBR.out.trans (hb9.mono HBR.out.size))
          clear hb9
          go_wp2
          go_ret2
          exact ⟨by rw [HPN.out]; rfl, HB9.out⟩
  · have hv := readS_no s.data.toList h1 h2 h3 h4
    have HF := Lib.hid (fun w => spec_FormatTyped 0 k w)
    have hu : ftyp (readS s.data.toList k) k = ftyp 0 k := by rw [hv]
    generalize ftyp 0 k = u at HF hu
    have c1 : (k == 1) = false := beq_eq_false_iff_ne.2 h1
    have c2 : (k == 2) = false := beq_eq_false_iff_ne.2 h2
    have c3 : (k == 3) = false := beq_eq_false_iff_ne.2 h3
    have c4 : (k == 4) = false := beq_eq_false_iff_ne.2 h4
    clear h1 h2 h3 h4
    by_cases h0 : s.data.toList = []
    · have hz : (s.toList == ([] : List UInt8)) = true := by rw [Lib.toList_data, h0]; rfl
      have hpn : ptyp s.data.toList k = (0, false) := by rw [h0]; exact ptyp_S_nil
      rw [hpn]
      clear h0 hpn
      go_enter Tryz.func12, Tryz.ntmps12
      go_wp2
      go_ret2
      exact ⟨rfl, Below.refl w.heap.size w⟩
    have hz : (s.toList == ([] : List UInt8)) = false := by rw [Lib.toList_data]; exact beq_eq_false_iff_ne.2 h0
    by_cases he : u = s.data.toList
    · have hq2 : (u == s.toList) = true := by rw [Lib.toList_data]; exact beq_iff_eq.2 he
      rw [ptyp_S_yes h0 (hu.trans he), hv]
      clear h0 he
      go_enter Tryz.func12, Tryz.ntmps12
      go_wp2_with fail
      refine (HF.out _).mono ?_
      rintro e w9 ⟨rfl, hb9⟩
      have HB9 := Lib.hid ((Below.refl w.heap.size w).trans (hb9.mono (Below.size (Below.refl w.heap.size w))))
      clear hb9
      go_wp2
      go_ret2
      exact ⟨rfl, HB9.out⟩
    · have hq2 : (u == s.toList) = false := by rw [Lib.toList_data]; exact beq_eq_false_iff_ne.2 he
      rw [ptyp_S_no (fun e => he (hu.symm.trans e))]
      clear h0 he
      go_enter Tryz.func12, Tryz.ntmps12
      go_wp2_with fail
      refine (HF.out _).mono ?_
      rintro e w9 ⟨rfl, hb9⟩
      have HB9 := Lib.hid ((Below.refl w.heap.size w).trans (hb9.mono (Below.size (Below.refl w.heap.size w))))
      clear hb9
      go_wp2
      go_ret2
      exact ⟨rfl, HB9.out⟩
end Go.Proofs.YtgpmmlbinmdfmaaGreatDoor
