/-
  The model's l1Read, ParseNumber and ParseInt (package spec): a string is read exactly if it is the decimal numeral of the number that its digits spell.
-/
import Derived.Test.YtgpmmlbinmdfmaaGreatDoorFmt
import Derived.Lib.Strings
import Derived.Lib.IndexBytes
namespace Go.Proofs.YtgpmmlbinmdfmaaGreatDoor
open Go.ChangeShapes Go.WideShapes Go.ChangeAt Go.RowKit
open Go.Lib Num

theorem take_snoc (s : ByteArray) (k : Nat) (h : k < s.size) : s.data.toList.take (k + 1) = s.data.toList.take k ++ [s[k]] := by
  rw [List.take_succ_eq_append_getElem (by simpa using h)]; rfl

theorem rd_of_long {most : Nat} {s : List UInt8} (h : (body s).length < 1 ∨ most < (body s).length) : rd most s = none := by unfold rd; rw [if_pos h]
theorem rd_of_bad {most : Nat} {s : List UInt8} {k : Nat} {c : UInt8} (hk : (body s)[k]? = some c) (hc : dig c = false) : rd most s = none := by
  unfold rd
  split
  · rfl
  · rw [if_neg]
    intro h
    rw [List.all_eq_true] at h
    rw [h c (List.mem_of_getElem? hk)] at hc
    cases hc
theorem rd_of_all {most : Nat} {s : List UInt8} (h : ¬ ((body s).length < 1 ∨ most < (body s).length)) (hd : (body s).all dig = true) : rd most s = if itoa (signed s) = s then some (signed s) else none := by unfold rd; rw [if_neg h, if_pos hd]

theorem dig_no {c : UInt8} (h : (c.toNat : Int) < 48 ∨ 57 < (c.toNat : Int)) : dig c = false := by
  unfold dig
  rw [Bool.and_eq_false_iff, decide_eq_false_iff_not, decide_eq_false_iff_not]
  omega

/-- What a round of the loop over digits does. -/
theorem round_step (t : ByteArray) (k : Nat) (h : k < t.size) (hd : (t.data.toList.take k).all dig = true) (c : UInt8) (hc : c = t[k]) (h1 : 48 ≤ (c.toNat : Int)) (h2 : (c.toNat : Int) ≤ 57) :
    (t.data.toList.take (k + 1)).all dig = true ∧ (val 0 (t.data.toList.take (k + 1)) : Int) = 10 * (val 0 (t.data.toList.take k) : Int) + ((c.toNat : Int) - 48) := by
  have hdc : dig c = true := by unfold dig; rw [Bool.and_eq_true, decide_eq_true_eq, decide_eq_true_eq]; omega
  rw [take_snoc t k h, List.all_append, hd, List.all_cons, ← hc, hdc, val_snoc]
  exact ⟨rfl, by omega⟩

theorem val_small (l : List UInt8) (hd : l.all dig = true) (k : Nat) (hk : k ≤ 12) (hl : l.length ≤ k) : val 0 l < 10000000000000 := by
  have h1 := val_lt l 0 hd
  have h2 : 10 ^ l.length ≤ 10 ^ 12 := Nat.pow_le_pow_right (by decide) (by omega)
  have e : (10 : Nat) ^ 12 = 1000000000000 := by decide
  omega

def Res (most : Int) (s : ByteArray) : Value := .tuple #[.int .i64 ((rd most.toNat s.data.toList).getD 0), .bool (rd most.toNat s.data.toList).isSome]
theorem Res_none {most : Int} {s : ByteArray} (h : rd most.toNat s.data.toList = none) : Res most s = .tuple #[.int .i64 0, .bool false] := by unfold Res; rw [h]; rfl
theorem Res_some {most : Int} {s : ByteArray} {n : Int} (h : rd most.toNat s.data.toList = some n) : Res most s = .tuple #[.int .i64 n, .bool true] := by unfold Res; rw [h]; rfl

set_option maxHeartbeats 800000 in
set_option maxRecDepth 100000 in
theorem read_plain (s : ByteArray) (most : Int) (hm0 : 0 ≤ most) (hm : most ≤ 12) (hs : s.size ≤ 9223372036854775807) (h0 : 0 < s.size) (hc : ((s[0].toNat : Int) == 45) = false) (w : World) :
    Calls Tryz.prog 50 #[.string s, .int .i64 most] w fun e w' => e = .returned (Res most s) ∧ Below w.heap.size w w' := by
  have hlen : s.data.toList.length = s.size := by simp
  have hb : body s.data.toList = s.data.toList := by
    unfold body
    rw [if_neg]
    intro h
    have e : s.data.toList.head? = some s[0] := by rw [List.head?_eq_getElem?, List.getElem?_eq_getElem (by rw [hlen]; exact h0)]; rfl
    rw [e] at h
    have := Option.some.inj h
    rw [this] at hc
    exact absurd hc (by decide)
  have hsg : signed s.data.toList = (val 0 s.data.toList : Int) := by
    unfold signed
    rw [hb, if_neg]
    intro h
    unfold body at hb
    rw [if_pos h] at hb
    have := congrArg List.length hb
    rw [List.length_tail] at this
    omega
  have HB := Lib.hid hb
  have HS := Lib.hid hsg
  have HL := Lib.hid hlen
  clear hb hsg hlen
  by_cases hl : most < s.size
  · have fin : Hid (Res most s = .tuple #[.int .i64 0, .bool false]) := Res_none (rd_of_long (Or.inr (by rw [HB.out, HL.out]; omega)))
    go_enter Tryz.func50, Tryz.ntmps50
    go_wp2
    go_ret2
    exact ⟨congrArg Ending.returned fin.out.symm, Below.refl _ _⟩
  · go_enter Tryz.func50, Tryz.ntmps50
    go_wp2
    go_loop [8, 9] (fun n i => ∃ k V : Nat, k ≤ s.size ∧ i = .int .i64 k ∧ n = .int .i64 V ∧ V = val 0 (s.data.toList.take k) ∧ (s.data.toList.take k).all dig = true) (fun _ i => s.size - (intOf i).toNat)
    case atStart => exact ⟨0, 0, Nat.zero_le _, rfl, rfl, rfl, rfl⟩
    case round =>
      obtain ⟨k, V, hk, rfl, rfl, hV, hd⟩ := hrel
      have hv : V < 10000000000000 := by rw [hV]; exact val_small _ hd s.size (by omega) (Nat.le_trans (List.length_take_le _ _) hk)
      have HD := Lib.hid hd
      have HV := Lib.hid hV
      clear hd hV
      by_cases hlt : k < s.size
      · have bad : Hid ((s[k].toNat : Int) < 48 ∨ 57 < (s[k].toNat : Int) → Res most s = .tuple #[.int .i64 0, .bool false]) := fun h => Res_none (rd_of_bad (k := k) (c := s[k]) (by rw [HB.out, List.getElem?_eq_getElem (by rw [HL.out]; exact hlt)]; rfl) (dig_no h))
        by_cases h1 : (s[k].toNat : Int) < 48
        · go_wp2
          go_ret2
          exact ⟨congrArg Ending.returned (bad.out (Or.inl h1)).symm, Below.refl _ _⟩
        · by_cases h2 : 57 < (s[k].toNat : Int)
          · go_wp2
            go_ret2
            exact ⟨congrArg Ending.returned (bad.out (Or.inr h2)).symm, Below.refl _ _⟩
          · have HR := Lib.hid (round_step s k hlt HD.out s[k] rfl (by omega) (by omega))
            go_wp2
            go_round
            case rel => exact ⟨k + 1, V * 10 + (s[k].toNat - 48), by omega, by go_num, by go_num, (by have := HR.out.2; rw [← HV.out] at this; omega), HR.out.1⟩
            case measure => simp [intOf]; omega
      · obtain rfl : k = s.size := by omega
        have e1 : s.data.toList.take s.size = s.data.toList := List.take_of_length_le (by rw [HL.out]; omega)
        have hall : s.data.toList.all dig = true := by have := HD.out; rw [e1] at this; exact this
        have hVs : (V : Int) = signed s.data.toList := by rw [HS.out, HV.out, e1]
        have HA := Lib.hid (rd_of_all (most := most.toNat) (by rw [HB.out, HL.out]; omega) (by rw [HB.out]; exact hall))
        have HVS := Lib.hid hVs
        clear hVs hall e1
        go_wp2_with fail
        refine (spec_FormatInt (V : Int) (by omega) (by omega) _).mono ?_
        rintro e w1 ⟨rfl, hb1⟩
        by_cases hq : itoa (V : Int) = s.data.toList
        · have fin := Lib.hid (Res_some (most := most) (by rw [HA.out, ← HVS.out, if_pos hq]))
          have hqb : (itoa (V : Int) == s.toList) = true := by rw [toList_data, hq]; exact beq_self_eq_true _
          have HQ := Lib.hid hq
          clear hq
          go_wp2
          go_ret2
          exact ⟨congrArg Ending.returned fin.out.symm, hb1⟩
        · have fin := Lib.hid (Res_none (most := most) (by rw [HA.out, ← HVS.out, if_neg hq]))
          have hqb : (itoa (V : Int) == s.toList) = false := by rw [toList_data]; exact beq_eq_false_iff_ne.2 hq
          have HQ := Lib.hid hq
          clear hq
          go_wp2
          go_ret2
          exact ⟨congrArg Ending.returned fin.out.symm, hb1⟩

set_option maxHeartbeats 800000 in
set_option maxRecDepth 100000 in
theorem read_neg (s : ByteArray) (most : Int) (hm0 : 0 ≤ most) (hm : most ≤ 12) (hs : s.size ≤ 9223372036854775807) (h0 : 0 < s.size) (hc : ((s[0].toNat : Int) == 45) = true) (w : World) :
    Calls Tryz.prog 50 #[.string s, .int .i64 most] w fun e w' => e = .returned (Res most s) ∧ Below w.heap.size w w' := by
  have hlen : s.data.toList.length = s.size := by simp
  have hh : s.data.toList.head? = some 45 := by
    have e : s.data.toList.head? = some s[0] := by rw [List.head?_eq_getElem?, List.getElem?_eq_getElem (by rw [hlen]; exact h0)]; rfl
    rw [e, UInt8.toNat_inj.1 (show s[0].toNat = (45 : UInt8).toNat from by have h := beq_iff_eq.1 hc; have h5 : (45 : UInt8).toNat = 45 := rfl; omega)]
  have hb : body s.data.toList = (s.extract 1 s.size).data.toList := by
    unfold body
    rw [if_pos hh, extract_to_end s 1, List.drop_one]
  have hsg : signed s.data.toList = -(val 0 (s.extract 1 s.size).data.toList : Int) := by
    unfold signed
    rw [if_pos hh, hb]
  have htl : (s.extract 1 s.size).data.toList.length = s.size - 1 := by rw [extract_to_end s 1, List.length_drop, hlen]
  have HB := Lib.hid hb
  have HS := Lib.hid hsg
  have HL := Lib.hid htl
  clear hb hsg hlen hh htl
  by_cases hl : ((s.size - 1 : Nat) : Int) < 1 ∨ most < ((s.size - 1 : Nat) : Int)
  · have fin : Hid (Res most s = .tuple #[.int .i64 0, .bool false]) := Res_none (rd_of_long (by rw [HB.out, HL.out]; omega))
    go_enter Tryz.func50, Tryz.ntmps50
    go_wp2
    all_goals go_ret2
    all_goals exact ⟨congrArg Ending.returned fin.out.symm, Below.refl _ _⟩
  · have hl1 : 1 ≤ ((s.size - 1 : Nat) : Int) := by omega
    have hl2 : ((s.size - 1 : Nat) : Int) ≤ most := by omega
    clear hl
    go_enter Tryz.func50, Tryz.ntmps50
    go_wp2
    go_loop [8, 9] (fun n i => ∃ k V : Nat, k ≤ s.size - 1 ∧ i = .int .i64 k ∧ n = .int .i64 V ∧ V = val 0 ((s.extract 1 s.size).data.toList.take k) ∧ ((s.extract 1 s.size).data.toList.take k).all dig = true) (fun _ i => s.size - 1 - (intOf i).toNat)
    case atStart => exact ⟨0, 0, Nat.zero_le _, rfl, rfl, rfl, rfl⟩
    case round =>
      obtain ⟨k, V, hk, rfl, rfl, hV, hd⟩ := hrel
      have hv : V < 10000000000000 := by rw [hV]; exact val_small _ hd (s.size - 1) (by omega) (Nat.le_trans (List.length_take_le _ _) hk)
      have HD := Lib.hid hd
      have HV := Lib.hid hV
      clear hd hV
      by_cases hlt : k < s.size - 1
      · have hke : k < (s.extract 1 s.size).size := by rw [← ByteArray.size_data, ← Array.length_toList, HL.out]; exact hlt
        have bad : Hid (((s.extract 1 s.size)[k].toNat : Int) < 48 ∨ 57 < ((s.extract 1 s.size)[k].toNat : Int) → Res most s = .tuple #[.int .i64 0, .bool false]) := fun h => Res_none (rd_of_bad (k := k) (c := (s.extract 1 s.size)[k]) (by rw [HB.out, List.getElem?_eq_getElem (by rw [HL.out]; exact hlt)]; rfl) (dig_no h))
        by_cases h1 : ((s.extract 1 s.size)[k].toNat : Int) < 48
        · go_wp2
          go_ret2
          exact ⟨congrArg Ending.returned (bad.out (Or.inl h1)).symm, Below.refl _ _⟩
        · by_cases h2 : 57 < ((s.extract 1 s.size)[k].toNat : Int)
          · go_wp2
            go_ret2
            exact ⟨congrArg Ending.returned (bad.out (Or.inr h2)).symm, Below.refl _ _⟩
          · have HR := Lib.hid (round_step (s.extract 1 s.size) k hke HD.out (s.extract 1 s.size)[k] rfl (by omega) (by omega))
            go_wp2
            go_round
            case rel => exact ⟨k + 1, V * 10 + ((s.extract 1 s.size)[k].toNat - 48), by omega, by go_num, by go_num, (by have := HR.out.2; rw [← HV.out] at this; omega), HR.out.1⟩
            case measure => simp [intOf]; omega
      · obtain rfl : k = s.size - 1 := by omega
        have e1 : (s.extract 1 s.size).data.toList.take (s.size - 1) = (s.extract 1 s.size).data.toList := List.take_of_length_le (by rw [HL.out]; omega)
        have hall : (s.extract 1 s.size).data.toList.all dig = true := by have := HD.out; rw [e1] at this; exact this
        have hVs : -(V : Int) = signed s.data.toList := by rw [HS.out, HV.out, e1]
        have HA := Lib.hid (rd_of_all (most := most.toNat) (by rw [HB.out, HL.out]; omega) (by rw [HB.out]; exact hall))
        have HVS := Lib.hid hVs
        clear hVs hall e1
        go_wp2_with fail
        refine (spec_FormatInt (-(V : Int)) (by omega) (by omega) _).mono ?_
        rintro e w1 ⟨rfl, hb1⟩
        by_cases hq : itoa (-(V : Int)) = s.data.toList
        · have fin := Lib.hid (Res_some (most := most) (by rw [HA.out, ← HVS.out, if_pos hq]))
          have hqb : (itoa (-(V : Int)) == s.toList) = true := by rw [toList_data, hq]; exact beq_self_eq_true _
          have HQ := Lib.hid hq
          clear hq
          go_wp2
          go_ret2
          exact ⟨congrArg Ending.returned fin.out.symm, hb1⟩
        · have fin := Lib.hid (Res_none (most := most) (by rw [HA.out, ← HVS.out, if_neg hq]))
          have hqb : (itoa (-(V : Int)) == s.toList) = false := by rw [toList_data]; exact beq_eq_false_iff_ne.2 hq
          have HQ := Lib.hid hq
          clear hq
          go_wp2
          go_ret2
          exact ⟨congrArg Ending.returned fin.out.symm, hb1⟩

/-- l1Read of package spec, at every string. -/
theorem spec_l1Read (s : ByteArray) (most : Int) (hm0 : 0 ≤ most) (hm : most ≤ 12) (hs : s.size ≤ 9223372036854775807) (w : World) :
    Calls Tryz.prog 50 #[.string s, .int .i64 most] w fun e w' => e = .returned (Res most s) ∧ Below w.heap.size w w' := by
  by_cases h0 : 0 < s.size
  · by_cases hc : ((s[0].toNat : Int) == 45) = true
    · exact read_neg s most hm0 hm hs h0 hc w
    · exact read_plain s most hm0 hm hs h0 (by simpa using hc) w
  · have hn : s.data.toList = [] := by
      have : s.data.toList.length = s.size := by simp
      exact List.eq_nil_of_length_eq_zero (by omega)
    have fin : Hid (Res most s = .tuple #[.int .i64 0, .bool false]) := Res_none (rd_of_long (Or.inl (by rw [hn]; decide)))
    have hz : s.size = 0 := by omega
    have hz1 : decide (0 < s.size) = false := by rw [hz]; rfl
    clear hn
    go_enter Tryz.func50, Tryz.ntmps50
    go_wp2
    go_ret2
    exact ⟨congrArg Ending.returned fin.out.symm, Below.refl _ _⟩

set_option maxRecDepth 100000 in
/-- ParseInt of package spec. -/
theorem spec_ParseInt (s : ByteArray) (hs : s.size ≤ 9223372036854775807) (w : World) :
    Calls Tryz.prog 28 #[.string s] w fun e w' => e = .returned (.tuple #[.int .i64 ((pint (-999999999999) 999999999999 s.data.toList).getD 0), .bool (pint (-999999999999) 999999999999 s.data.toList).isSome]) ∧ Below w.heap.size w w' := by
  have hI := spec_l1Read s 12 (by decide) (by decide) hs w
  unfold Res at hI
  rw [show (12 : Int).toNat = 12 from rfl, rd_int] at hI
  generalize pint (-999999999999) 999999999999 s.data.toList = o at *
  have HI := Lib.hid hI
  clear hI
  go_enter Tryz.func28, Tryz.ntmps28
  go_wp2_with (go_at_call 50; refine HI.out.mono ?_; rintro e w' ⟨rfl, hb⟩)
  go_ret2
  exact ⟨rfl, hb⟩

set_option maxRecDepth 100000 in
/-- ParseNumber of package spec. -/
theorem spec_ParseNumber (s : ByteArray) (hs : s.size ≤ 9223372036854775807) (w : World) :
    Calls Tryz.prog 30 #[.string s] w fun e w' => e = .returned (.tuple #[.int .i64 ((pint 0 999999 s.data.toList).getD 0), .bool (pint 0 999999 s.data.toList).isSome]) ∧ Below w.heap.size w w' := by
  have hI := spec_l1Read s 6 (by decide) (by decide) hs w
  unfold Res at hI
  rw [show (6 : Int).toNat = 6 from rfl] at hI
  rw [← rd_num]
  unfold rdN
  generalize rd 6 s.data.toList = o at *
  have HI := Lib.hid hI
  clear hI
  cases o with
  | none =>
    go_enter Tryz.func30, Tryz.ntmps30
    go_wp2_with (go_at_call 50; refine HI.out.mono ?_; rintro e w' ⟨rfl, hb⟩)
    go_ret2
    exact ⟨rfl, hb⟩
  | some n =>
    by_cases hn : n < 0
    · simp only [if_pos hn]
      go_enter Tryz.func30, Tryz.ntmps30
      go_wp2_with (go_at_call 50; refine HI.out.mono ?_; rintro e w' ⟨rfl, hb⟩)
      go_ret2
      exact ⟨rfl, hb⟩
    · simp only [if_neg hn]
      go_enter Tryz.func30, Tryz.ntmps30
      go_wp2_with (go_at_call 50; refine HI.out.mono ?_; rintro e w' ⟨rfl, hb⟩)
      go_ret2
      exact ⟨rfl, hb⟩
end Go.Proofs.YtgpmmlbinmdfmaaGreatDoor
