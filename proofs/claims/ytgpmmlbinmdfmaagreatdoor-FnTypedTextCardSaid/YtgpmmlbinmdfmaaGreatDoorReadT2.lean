/-
  ParseTyped in the program: readSet, readTyped, ParseTyped.
-/
import Derived.Test.YtgpmmlbinmdfmaaGreatDoorReadT
import Derived.Test.YtgpmmlbinmdfmaaGreatDoorParse2
import Derived.Test.YtgpmmlbinmdfmaaGreatDoorShelfTrim
namespace Go.Proofs.YtgpmmlbinmdfmaaGreatDoor
open Go.ChangeShapes Go.WideShapes Go.ChangeAt Go.RowKit
open Go.Lib Num Sp

theorem Trim_braces (s : ByteArray) (hs : s.size ≤ 9223372036854775807) (w : World) :
    Calls Tryz.prog 42 #[.string s, .string ⟨#[123, 125]⟩] w fun e w' => e = .returned (.string ⟨(trimS s.data.toList [123, 125]).toArray⟩) ∧ Below w.heap.size w w' :=
  Any.strings_Trim_laid Tryz.lays160 (by kernel_rfl) s ⟨#[123, 125]⟩ w hs (by decide) (fun j b hb => by
    match j with
    | 0 => simp at hb; subst hb; decide
    | 1 => simp at hb; subst hb; decide
    | j + 2 => simp at hb)

/-- The set of the first k pieces. -/
def acc (L : List ByteArray) (k : Nat) : Int := ((L.take k).map (·.data.toList)).foldl stp 0
theorem acc_next {L : List ByteArray} {k : Nat} (hk : k < L.length) : acc L (k + 1) = stp (acc L k) (L.getD k ByteArray.empty).data.toList := by
  unfold acc
  rw [List.take_succ_eq_append_getElem hk, List.map_append, List.foldl_append, List.getD_eq_getElem?_getD, List.getElem?_eq_getElem hk]
  rfl
theorem acc_all {c : UInt8} {s : ByteArray} : acc (parts c s) (parts c s).length = setOf (sp c s.data.toList) := by
  unfold acc setOf
  rw [List.take_length, parts_data]
theorem stp_some {a : Int} {x : List UInt8} {n : Int} (h : pint 0 999999 x = some n) : stp a x = withV a n := by unfold stp; rw [h]
theorem stp_none {a : Int} {x : List UInt8} (h : pint 0 999999 x = none) : stp a x = a := by unfold stp; rw [h]
theorem piece_size {L : List ByteArray} {k : Nat} (hk : k < L.length) : (L.getD k ByteArray.empty).size ≤ sumSize L := by
  have h1 := sumSize_take L k hk
  have h2 := sumSize_take_le L (k + 1)
  omega

set_option maxHeartbeats 800000 in
set_option maxRecDepth 100000 in
theorem impl_readSet (s : ByteArray) (hs : s.size ≤ 1048576) (w : World) (hm : MaxL w) (ht : Lib3 w) :
    Calls Tryz.prog 41 #[.string s] w fun e w' => e = .returned (.int .i64 (setOf (sp 32 s.data.toList))) ∧ Below w.heap.size w w' := by
  have hsum := sumSize_parts 32 s
  have HALL := Lib.hid (acc_all (c := 32) (s := s))
  have HT := Lib.hid ht
  have HM := Lib.hid hm
  clear ht hm
  go_enter Tryz.func41, Tryz.ntmps41
  go_wp2_with fail
  refine (impl_SplitByte s 32 hs w HM.out).mono ?_
  rintro e w1 ⟨g, rfl, hg, ho, hb⟩
  have hn2 := parts_length_le 32 s
  generalize parts 32 s = L at *
  have HST := Lib.hid (ho.strs (by omega))
  have HB := Lib.hid hb
  have HT1 := Lib.hid (HT.out.below hb)
  have hz1 : w.heap.size ≤ w1.heap.size := hb.size
  clear ho hb HM
  generalize hn : L.length = n at hn2
  have HN := Lib.hid hn
  clear hn
  go_wp2
  go_loopw [3, 11] (fun sv i wr => ∃ k : Nat, k ≤ n ∧ i = .int .i64 (k : Int) ∧ sv = .int .i64 (acc L k) ∧ Below w1.heap.size w1 wr) (fun _ i _ => n - (RowKit.intOf i).toNat)
  case atStart => exact ⟨0, Nat.zero_le _, rfl, rfl, Below.refl _ _⟩
  case round =>
    obtain ⟨k, hk, rfl, rfl, hbr⟩ := hrel
    have HBR := Lib.hid hbr
    clear hbr
    by_cases hlt : k < n
    · have hkl : k < L.length := by have := HN.out; omega
      obtain ⟨b, off, hg1, hb1, hz, hc⟩ := HST.out.at k hkl
      obtain ⟨rfl, rfl⟩ : g = b ∧ 0 = off := by
        simp only [Option.some.injEq, Addr.mk.injEq, and_true] at hg1
        exact hg1
      have hxs := piece_size hkl
      have HNX := Lib.hid (acc_next hkl)
      have hcr : wr.cell? ⟨g, 0 + k, none⟩ = some (.string (L.getD k ByteArray.empty)) := (HBR.out.cell (p := ⟨g, 0 + k, none⟩) hb1).trans hc
      rw [Nat.zero_add] at hcr
      clear hc hg1 hz
      generalize L.getD k ByteArray.empty = x at hcr hxs HNX
      have HPN := Lib.hid (impl_ParseNumber x (by omega) wr (HT1.out.below HBR.out))
      cases hp : pint 0 999999 x.data.toList with
      | none =>
        rw [hp] at HPN
        have HEQ := Lib.hid (HNX.out.trans (stp_none hp))
        clear hp
        go_wp2_with fail
        refine HPN.out.mono ?_
        rintro e w2 ⟨rfl, hb2⟩
        have HB2 := Lib.hid (HBR.out.trans (hb2.mono HBR.out.size))
        clear hb2
        go_wp2
        go_roundw
        case rel => exact ⟨k + 1, by omega, by go_num, by rw [HEQ.out], HB2.out⟩
        case measure => simp [RowKit.intOf]; omega
      | some v =>
        rw [hp] at HPN
        have HEQ := Lib.hid (HNX.out.trans (stp_some hp))
        clear hp
        go_wp2_with fail
        refine HPN.out.mono ?_
        rintro e w2 ⟨rfl, hb2⟩
        have HB2 := Lib.hid (HBR.out.trans (hb2.mono HBR.out.size))
        clear hb2
        go_wp2_with fail
        refine (impl_withElement _ _ _).mono ?_
        rintro e w3 ⟨rfl, rfl⟩
        go_wp2
        go_roundw
        case rel => exact ⟨k + 1, by omega, by go_num, by rw [HEQ.out], HB2.out⟩
        case measure => simp [RowKit.intOf]; omega
    · obtain rfl : k = n := by omega
      have hge : ¬ (k : Int) < (k : Int) := by omega
      rw [HN.out] at HALL
      go_wp2
      go_ret
      exact ⟨by rw [HALL.out]; rfl, HB.out.trans (HBR.out.mono hz1)⟩

theorem trimS_len (s : List UInt8) : (trimS s [123, 125]).length ≤ s.length := by
  unfold trimS trimLeftS trimRightS
  refine Nat.le_trans (List.dropWhile_sublist _).length_le ?_
  rw [List.length_reverse]
  refine Nat.le_trans (List.dropWhile_sublist _).length_le ?_
  rw [List.length_reverse]
  exact Nat.le_refl _
theorem trimPrefix_len (s p : List UInt8) : (trimPrefix s p).length ≤ s.length := by
  unfold trimPrefix
  split
  · rw [List.length_drop]; omega
  · exact Nat.le_refl _
theorem mk_size (l : List UInt8) : (⟨l.toArray⟩ : ByteArray).size = l.length := by rw [size_eq]
theorem readI_1 (s : List UInt8) : readI s 1 = (pint (-999999999999) 999999999999 s).getD 0 := by unfold readI; rw [if_pos rfl]
theorem readI_2 (s : List UInt8) : readI s 2 = setOf (sp 32 (trimS s [123, 125])) := by unfold readI; rw [if_neg (by decide), if_pos rfl]
theorem readI_3 (s : List UInt8) : readI s 3 = tr (decide (s = [116, 114, 117, 101])) := by unfold readI; rw [if_neg (by decide), if_neg (by decide), if_pos rfl]
theorem readI_4 (s : List UInt8) : readI s 4 = (pint 0 999999 (trimPrefix s [35])).getD 0 := by unfold readI; rw [if_neg (by decide), if_neg (by decide), if_neg (by decide), if_pos rfl]
theorem readI_no (s : List UInt8) {k : Int} (h1 : ¬ k = 1) (h2 : ¬ k = 2) (h3 : ¬ k = 3) (h4 : ¬ k = 4) : readI s k = 0 := by unfold readI; rw [if_neg h1, if_neg h2, if_neg h3, if_neg h4]

set_option maxHeartbeats 800000 in
set_option maxRecDepth 100000 in
theorem impl_readTyped (s : ByteArray) (k : Int) (hs : s.size ≤ 1048576) (w : World) (hm : MaxL w) (ht : Lib3 w) :
    Calls Tryz.prog 19 #[.string s, .int .i64 k] w fun e w' => e = .returned (.int .i64 (readI s.data.toList k)) ∧ Below w.heap.size w w' := by
  have HT := Lib.hid ht
  have HM := Lib.hid hm
  clear ht hm
  by_cases h1 : k = 1
  · subst h1
    have HP := Lib.hid (impl_ParseInt s (by omega) w HT.out)
    rw [readI_1]
    generalize pint (-999999999999) 999999999999 s.data.toList = o at HP ⊢
    go_enter Tryz.func19, Tryz.ntmps19
    go_wp2_with fail
    refine HP.out.mono ?_
    rintro e w2 ⟨rfl, hb2⟩
    go_wp2
    go_ret
    exact ⟨rfl, hb2⟩
  by_cases h2 : k = 2
  · subst h2
    rw [readI_2]
    have HTR := Lib.hid (Trim_braces s (by omega) w)
    have hlen := trimS_len s.data.toList
    rw [← size_eq] at hlen
    generalize trimS s.data.toList [123, 125] = t at HTR hlen ⊢
    go_enter Tryz.func19, Tryz.ntmps19
    go_wp2_with fail
    refine HTR.out.mono ?_
    rintro e w2 ⟨rfl, hb2⟩
    go_wp2_with fail
    refine (impl_readSet ⟨t.toArray⟩ (by rw [mk_size]; omega) w2 (HM.out.below hb2) (HT.out.below hb2)).mono ?_
    rintro e w3 ⟨rfl, hb3⟩
    have HB3 := Lib.hid (hb2.trans (hb3.mono hb2.size))
    clear hb2 hb3
    go_wp2
    go_ret
    exact ⟨rfl, HB3.out⟩
  by_cases h3 : k = 3
  · subst h3
    rw [readI_3]
    have hq : (s.toList == ([116, 114, 117, 101] : List UInt8)) = decide (s.data.toList = [116, 114, 117, 101]) := by rw [Lib.toList_data]; exact Bool.eq_iff_iff.2 (by simp)
    generalize decide (s.data.toList = [116, 114, 117, 101]) = q at hq ⊢
    go_enter Tryz.func19, Tryz.ntmps19
    go_wp2_with fail
    refine (impl_truthValue q _).mono ?_
    rintro e w3 ⟨rfl, rfl⟩
    go_wp2
    go_ret
    exact ⟨rfl, Below.refl _ _⟩
  by_cases h4 : k = 4
  · subst h4
    rw [readI_4]
    have HTP := Lib.hid (Tryz.strings_TrimPrefix s ⟨#[35]⟩ w)
    have hlen := trimPrefix_len s.data.toList [35]
    rw [← size_eq] at hlen
    generalize ht : trimPrefix s.data.toList [35] = t at hlen ⊢
    have HTQ := Lib.hid (show Calls Tryz.prog 45 #[.string s, .string ⟨#[35]⟩] w fun e w' => e = .returned (.string ⟨t.toArray⟩) ∧ w' = w by rw [← ht]; exact HTP.out)
    clear ht HTP
    have HPN := Lib.hid (impl_ParseNumber ⟨t.toArray⟩ (by rw [mk_size]; omega) w HT.out)
    have e1 : (⟨t.toArray⟩ : ByteArray).data.toList = t := rfl
    rw [e1] at HPN
    generalize pint 0 999999 t = o at HPN ⊢
    clear e1
    go_enter Tryz.func19, Tryz.ntmps19
    go_wp2_with fail
    refine HTQ.out.mono ?_
    rintro e w2 ⟨rfl, rfl⟩
    go_wp2_with fail
    refine HPN.out.mono ?_
    rintro e w3 ⟨rfl, hb3⟩
    go_wp2
    go_ret
    exact ⟨rfl, hb3⟩
  · rw [readI_no _ h1 h2 h3 h4]
    have c1 : (k == 1) = false := beq_eq_false_iff_ne.2 h1
    have c2 : (k == 2) = false := beq_eq_false_iff_ne.2 h2
    have c3 : (k == 3) = false := beq_eq_false_iff_ne.2 h3
    have c4 : (k == 4) = false := beq_eq_false_iff_ne.2 h4
    clear h1 h2 h3 h4
    go_enter Tryz.func19, Tryz.ntmps19
    go_wp2
    go_ret
    exact ⟨rfl, Below.refl _ _⟩

/-- What ParseTyped returns. -/
def Ptv (r : Int × Bool) : Value := .tuple #[.int .i64 r.1, .bool r.2]

set_option maxHeartbeats 800000 in
set_option maxRecDepth 100000 in
theorem impl_ParseTyped (s : ByteArray) (k : Int) (hs : s.size ≤ 1048576) (w : World) (hm : MaxL w) (ht : Lib3 w) :
    Calls Tryz.prog 8 #[.string s, .int .i64 k] w fun e w' => e = .returned (Ptv (ptyp s.data.toList k)) ∧ Below w.heap.size w w' := by
  have HR := Lib.hid (impl_readTyped s k hs w hm ht)
  have HT := Lib.hid ht
  clear ht hm
  have hy := fun h1 h2 => ptyp_yes (s := s.data.toList) (k := k) h1 h2
  have hn1 := fun h => ptyp_no1 (s := s.data.toList) (k := k) h
  have hn2 := fun h => ptyp_no2 (s := s.data.toList) (k := k) h
  generalize readI s.data.toList k = v at HR hy hn1 hn2
  have HI := Lib.hid (fun w => impl_IsOfType v k w)
  cases hi : isOf v k with
  | false =>
    rw [hn1 hi]
    rw [hi] at HI
    clear hi hy hn1 hn2
    go_enter Tryz.func8, Tryz.ntmps8
    go_wp2_with fail
    refine HR.out.mono ?_
    rintro e w2 ⟨rfl, hb2⟩
    go_wp2_with fail
    refine (HI.out _).mono ?_
    rintro e w3 ⟨rfl, rfl⟩
    go_wp2
    go_ret2
    exact ⟨rfl, hb2⟩
  | true =>
    rw [hi] at HI
    have HF := Lib.hid (fun (w : World) (hp : Pow w) => impl_FormatTyped v k w hp)
    generalize hf : ftyp v k = u at HF hy hn2
    by_cases he : u = s.data.toList
    · rw [hy hi he]
      have hq2 : (u == s.toList) = true := by rw [Lib.toList_data]; exact beq_iff_eq.2 he
      clear hi hy hn1 hn2 hf he
      go_enter Tryz.func8, Tryz.ntmps8
      go_wp2_with fail
      refine HR.out.mono ?_
      rintro e w2 ⟨rfl, hb2⟩
      have HB2 := Lib.hid hb2
      have HP2 := Lib.hid (HT.out.below hb2).pow
      clear hb2
      go_wp2_with fail
      refine (HI.out _).mono ?_
      rintro e w3 ⟨rfl, rfl⟩
      go_wp2_with fail
      refine (HF.out _ HP2.out).mono ?_
      rintro e w4 ⟨rfl, hb4⟩
      have HB4 := Lib.hid (HB2.out.trans (hb4.mono HB2.out.size))
      clear hb4
      go_wp2
      go_ret2
      exact ⟨rfl, HB4.out⟩
    · rw [hn2 he]
      have hq2 : (u == s.toList) = false := by rw [Lib.toList_data]; exact beq_eq_false_iff_ne.2 he
      clear hi hy hn1 hn2 hf he
      go_enter Tryz.func8, Tryz.ntmps8
      go_wp2_with fail
      refine HR.out.mono ?_
      rintro e w2 ⟨rfl, hb2⟩
      have HB2 := Lib.hid hb2
      have HP2 := Lib.hid (HT.out.below hb2).pow
      clear hb2
      go_wp2_with fail
      refine (HI.out _).mono ?_
      rintro e w3 ⟨rfl, rfl⟩
      go_wp2_with fail
      refine (HF.out _ HP2.out).mono ?_
      rintro e w4 ⟨rfl, hb4⟩
      have HB4 := Lib.hid (HB2.out.trans (hb4.mono HB2.out.size))
      clear hb4
      go_wp2
      go_ret2
      exact ⟨rfl, HB4.out⟩
end Go.Proofs.YtgpmmlbinmdfmaaGreatDoor
