/-
  Chapter 3: the representation of a value of a type, in the model and in the program.
-/
import Derived.Test.YtgpmmlbinmdfmaaGreatDoorOpF
import Derived.Test.YtgpmmlbinmdfmaaGreatDoorFmt
import Derived.Test.YtgpmmlbinmdfmaaGreatDoorItoa
import Derived.Test.YtgpmmlbinmdfmaaGreatDoorJoin
import Derived.Test.YtgpmmlbinmdfmaaGreatDoorWith
import Derived.Test.YtgpmmlbinmdfmaaGreatDoorShelfJoin
namespace Go.Proofs.YtgpmmlbinmdfmaaGreatDoor
open Go.ChangeShapes Go.WideShapes Go.ChangeAt Go.RowKit
open Go.Lib Num

theorem ret_str {a b : List UInt8} (h : a = b) : Ending.returned (.string ⟨a.toArray⟩) = .returned (.string ⟨b.toArray⟩) := by rw [h]
theorem mk_app (x y : List UInt8) : ((⟨x.toArray⟩ : ByteArray) ++ (⟨y.toArray⟩ : ByteArray)) = ⟨(x ++ y).toArray⟩ := by rw [ByteArray.mk_append_mk]
/-- The numeral of k. -/
def num (k : Nat) : ByteArray := ⟨(itoa (k : Int)).toArray⟩
theorem num_size (k : Nat) (h : k < 100) : (num k).size ≤ 2 := by
  have e : (num k).size = (itoa (k : Int)).length := by unfold num; simp [ByteArray.size]
  rw [e]
  unfold itoa
  rw [if_neg (by omega), decDigits_length]
  exact nDigits_le 2 _ (by decide) (by omega)
/-- The elements of a set below k, as numerals. -/
def elems (v : Int) : Nat → List ByteArray
  | 0 => []
  | k + 1 => elems v k ++ (if hasB v (k : Int) = true then [num k] else [])
theorem elems_yes {v : Int} {k : Nat} (h : hasB v (k : Int) = true) : elems v (k + 1) = elems v k ++ [num k] := by
  show elems v k ++ (if hasB v (k : Int) = true then [num k] else []) = _
  rw [if_pos h]
theorem elems_no {v : Int} {k : Nat} (h : hasB v (k : Int) = false) : elems v (k + 1) = elems v k := by
  show elems v k ++ (if hasB v (k : Int) = true then [num k] else []) = _
  rw [if_neg (by rw [h]; decide), List.append_nil]
theorem elems_length (v : Int) : ∀ k, (elems v k).length ≤ k
  | 0 => Nat.le_refl _
  | k + 1 => by
    have := elems_length v k
    cases h : hasB v (k : Int)
    · rw [elems_no h]; omega
    · rw [elems_yes h, List.length_append, List.length_singleton]; omega
theorem elems_short (v : Int) : ∀ k, k ≤ 12 → ∀ s ∈ elems v k, s.size ≤ 2
  | 0, _ => by intro s hs; cases hs
  | k + 1, hk => by
    intro s hs
    have ih := elems_short v k (by omega)
    cases h : hasB v (k : Int)
    · rw [elems_no h] at hs; exact ih s hs
    · rw [elems_yes h] at hs
      rcases List.mem_append.1 hs with h' | h'
      · exact ih s h'
      · rw [List.mem_singleton] at h'; rw [h']; exact num_size k (by omega)
theorem sum_two : ∀ {L : List ByteArray}, (∀ s ∈ L, s.size ≤ 2) → sumSize L ≤ 2 * L.length
  | [], _ => Nat.le_refl _
  | x :: r, h => by
    have h1 := sum_two (L := r) fun s hs => h s (List.mem_cons_of_mem _ hs)
    have h2 := h x List.mem_cons_self
    unfold sumSize at *
    rw [List.map_cons, List.sum_cons, List.length_cons]
    omega
theorem elems_sum (v : Int) : sumSize (elems v 12) ≤ 24 := Nat.le_trans (sum_two (elems_short v 12 (Nat.le_refl _))) (by have := elems_length v 12; omega)

def setB (v : Int) : List UInt8 := join ((elems v 12).map (·.data.toList)) [32]
theorem join_len : ∀ (L : List (List UInt8)) (c : UInt8), (join L [c]).length ≤ (L.map List.length).sum + L.length
  | L, c => by
    cases L with
    | nil => exact Nat.zero_le _
    | cons x r =>
      rw [join_cons, List.length_append, List.map_cons, List.sum_cons, List.length_cons]
      have : ∀ r : List (List UInt8), (joinTail [c] r).length ≤ (r.map List.length).sum + r.length := by
        intro r
        induction r with
        | nil => exact Nat.zero_le _
        | cons y t ih =>
          unfold joinTail at *
          simp only [List.map_cons, List.sum_cons, List.length_cons] at *
          simp at ih ⊢
          omega
      have := this r
      omega
theorem setB_short (v : Int) : (setB v).length ≤ 36 := by
  have h1 := join_len ((elems v 12).map (·.data.toList)) 32
  have h2 := elems_sum v
  have h3 := elems_length v 12
  have e : (((elems v 12).map (·.data.toList)).map List.length).sum = sumSize (elems v 12) := by
    unfold sumSize
    rw [List.map_map]
    congr 1
  rw [e, List.length_map] at h1
  unfold setB
  omega
/-- The representation of v as a value of the type k; none if it is not one. -/
def ftyp (v k : Int) : List UInt8 :=
  if isOf v k = true then (if k = 2 then 123 :: setB v ++ [125] else if k = 3 then (if v = 0 then [102, 97, 108, 115, 101] else [116, 114, 117, 101]) else if k = 4 then (if v = 0 then [110, 111, 110, 101] else 35 :: itoa v) else itoa v) else []
theorem ftyp_no {v k : Int} (h : isOf v k = false) : ftyp v k = [] := by unfold ftyp; rw [if_neg (by rw [h]; decide)]
theorem ftyp_1 {v : Int} (h : isOf v 1 = true) : ftyp v 1 = itoa v := by unfold ftyp; rw [if_pos h, if_neg (by decide), if_neg (by decide), if_neg (by decide)]
theorem ftyp_2 {v : Int} (h : isOf v 2 = true) : ftyp v 2 = 123 :: setB v ++ [125] := by unfold ftyp; rw [if_pos h, if_pos rfl]
theorem ftyp_3 {v : Int} (h : isOf v 3 = true) : ftyp v 3 = if v = 0 then [102, 97, 108, 115, 101] else [116, 114, 117, 101] := by unfold ftyp; rw [if_pos h, if_neg (by decide), if_pos rfl]
theorem ftyp_4 {v : Int} (h : isOf v 4 = true) : ftyp v 4 = if v = 0 then [110, 111, 110, 101] else 35 :: itoa v := by unfold ftyp; rw [if_pos h, if_neg (by decide), if_neg (by decide), if_pos rfl]
theorem isOf_kind {v k : Int} (h : isOf v k = true) : 1 ≤ k ∧ k ≤ 4 := by
  unfold isOf at h; rw [Bool.and_eq_true] at h; exact inR_iff.1 h.1
theorem isOf_range {v k : Int} (h : isOf v k = true) : -1000000 ≤ v ∧ v ≤ 1000000 := by
  have hk := isOf_kind h
  unfold isOf at h
  rw [Bool.and_eq_true, beq_iff_eq] at h
  obtain ⟨_, e⟩ := h
  rw [← e]
  rcases (by omega : k = 1 ∨ k = 2 ∨ k = 3 ∨ k = 4) with rfl | rfl | rfl | rfl
  · exact coe_num v
  · have := coe_set v; omega
  · rw [coe_3]; cases (v != 0)
    · exact ⟨by decide, by decide⟩
    · exact ⟨by decide, by decide⟩
  · rw [coe_4]; split
    · rename_i h; have := inR_iff.1 h; omega
    · omega
theorem isOf_truth {v : Int} (h : isOf v 3 = true) : v = 0 ∨ v = 1 := by
  unfold isOf at h
  rw [Bool.and_eq_true, beq_iff_eq] at h
  obtain ⟨_, e⟩ := h
  rw [← e, coe_3]; cases (v != 0)
  · exact Or.inl rfl
  · exact Or.inr rfl
theorem itoa_short (v : Int) (h : -1000000 ≤ v) (h' : v ≤ 1000000) : (itoa v).length ≤ 8 := by
  have h1 := nDigits_le 7 v.natAbs (by decide) (by omega)
  unfold itoa
  split
  · rw [List.length_cons, decDigits_length]; omega
  · have e : v.toNat = v.natAbs := by omega
    rw [decDigits_length, e]; omega

/-- The program's Join, over a slice of its own, perhaps nil. -/
theorem impl_JoinV {B : Nat} {v : Value} (L : List ByteArray) (b : ByteArray) (hn : L.length ≤ 1048576) (hlen : (join (L.map (·.data.toList)) b.data.toList).length ≤ 140737488355328) (w : World) (ho : w.ownsRow B 9 1 v L.length (L.map Value.string)) :
    Calls Tryz.prog 38 #[v, .string b] w fun e w' => e = .returned (.string ⟨(join (L.map (·.data.toList)) b.data.toList).toArray⟩) ∧ Below w.heap.size w w' := by
  have hJ : Calls Tryz.prog 53 #[v, .string b] w fun e w' => e = .returned (.string ⟨(join (L.map (·.data.toList)) b.data.toList).toArray⟩) ∧ Below w.heap.size w w' := by
    rcases ho.2 with ⟨h, hx⟩ | ⟨g, cap, cur, rfl, hg, hblk, h1, h2, h3, h4⟩
    · have hL : L = [] := by cases L with
        | nil => rfl
        | cons x r => simp at hx
      subst hL
      subst h
      refine (Tryz.strings_Join_none none 0 b w).mono fun e w' h => ⟨?_, by rw [h.2]; exact Below.refl _ _⟩
      rw [h.1]; rfl
    · refine Tryz.strings_Join g 0 cap L b w (fun j x hx => ?_) (Array.getElem?_eq_some_iff.1 hblk).1 (by omega) h1 hlen
      have hj : j < L.length := (List.getElem?_eq_some_iff.1 hx).1
      rw [Nat.zero_add, ho.cellAt j (by omega), List.getElem?_map, hx]
      rfl
  have HJ := Lib.hid hJ
  clear hJ ho
  go_enter Tryz.func38, Tryz.ntmps38
  go_wp2_with (go_at_call 53; refine HJ.out.mono ?_; rintro e w1 ⟨rfl, hb1⟩)
  go_ret
  exact ⟨rfl, hb1⟩

set_option maxHeartbeats 1600000 in
set_option maxRecDepth 100000 in
theorem impl_formatSet (x : Int) (w : World) (hp : Pow w) :
    Calls Tryz.prog 15 #[.int .i64 x] w fun e w' => e = .returned (.string ⟨(123 :: setB x ++ [125]).toArray⟩) ∧ Below w.heap.size w w' := by
  have HP := Lib.hid hp
  clear hp
  obtain ⟨i0, hi, hz0, hz1, hz2⟩ := info_parts info_string
  go_enter Tryz.func15, Tryz.ntmps15
  go_wp2
  go_loopw [3, 5] (fun v i wr => ∃ k : Nat, k ≤ 12 ∧ i = .int .i64 (k : Int) ∧ wr.ownsRow w.heap.size 9 1 v (elems x k).length ((elems x k).map Value.string) ∧ Below w.heap.size w wr) (fun _ i _ => 12 - (RowKit.intOf i).toNat)
  case atStart => exact ⟨0, Nat.zero_le _, rfl, ⟨rfl, Or.inl ⟨rfl, rfl⟩⟩, Below.refl _ _⟩
  case round =>
    obtain ⟨k, hk, rfl, hown, hbl⟩ := hrel
    have HO := Lib.hid hown
    have HB := Lib.hid hbl
    have hl := elems_length x k
    have hsz : w.heap.size ≤ wr.heap.size := hbl.size
    clear hown hbl
    generalize hL : (elems x k).length = L at hl
    have HL := Lib.hid hL
    clear hL
    by_cases hlt : k < 12
    · cases hh : hasB x (k : Int)
      · have hst := Lib.hid (elems_no hh)
        have HH := Lib.hid hh
        clear hh
        go_wp2_with fail
        refine (impl_hasElement _ _ _).mono ?_
        rintro e w' ⟨rfl, rfl⟩
        have hh := HH.out
        go_wp2
        go_roundw
        case rel => exact ⟨k + 1, by omega, by go_num, by rw [hst.out]; exact HO.out, HB.out⟩
        case measure => simp [RowKit.intOf]; omega
      · have hst := Lib.hid (elems_yes hh)
        have HH := Lib.hid hh
        clear hh
        go_wp2_with fail
        refine (impl_hasElement _ _ _).mono ?_
        rintro e w' ⟨rfl, rfl⟩
        have hh := HH.out
        go_wp2_with fail
        refine (impl_FormatInt (k : Int) (by omega) (by omega) _ (HP.out.below HB.out)).mono ?_
        rintro e w2 ⟨rfl, hb2⟩
        have HO2 := Lib.hid (HO.out.kept (row := none) ⟨hb2.os, hb2.tape, hb2.output, hb2.size, fun k hk _ => hb2.block k hk⟩ (by
          cases hv : (Value.ownBlock u3) with
          | none => exact Or.inl rfl
          | some j => exact Or.inr (by simp)))
        have HB2 := Lib.hid (HB.out.trans (hb2.mono HB.out.size))
        have hsz2 : w.heap.size ≤ w2.heap.size := HB2.out.size
        clear hb2 hh
        change Hid (elems x (k + 1) = elems x k ++ [num k]) at hst
        go_wp2_with (at_builtin; refine wpList_append_own _ rfl (.tmp 11) (.tmp 14) 35 rfl w.heap.size 9 i0 (.string ⟨#[]⟩) 1 16 Tryz.underlying35 hi hz0 hz1 hz2 rfl (by decide) _ _ _ rfl (HO2.out.alloc _) ⟨w2.heap.size, 0, none⟩ 1 1 [.string (num k)] rfl rfl (cell_one_new _ _ _) (by intro u hu; simp at hu; subst hu; rfl) (by unfold maxLen; have := HL.out; omega) (by have := HL.out; omega) (by simp; omega) ?_; intro v' w3 hown' hgrow hnil)
        have R1 := own_one hown' rfl
        rw [← hst.out] at R1
        have R3 : Below w.heap.size w w3 := (HB2.out.alloc HB2.out.size _).grown hgrow (by simp; omega) (fun g hg => (HO2.out.lt g hg).1)
        have R1' := Lib.hid R1
        clear hown' hgrow hnil R1
        go_wp2
        go_roundw
        case rel => exact ⟨k + 1, by omega, by go_num, R1'.out, R3⟩
        case measure => simp [RowKit.intOf]; omega
    · obtain rfl : k = 12 := by omega
      have hJ := impl_JoinV (elems x 12) ⟨#[32]⟩ (by have := HL.out; omega) (by have := setB_short x; unfold setB at this; exact Nat.le_trans this (by decide)) wr HO.out
      have hJ2 : Calls Tryz.prog 38 #[u3, .string ⟨#[32]⟩] wr fun e w' => e = .returned (.string ⟨(setB x).toArray⟩) ∧ Below wr.heap.size wr w' := hJ
      have HJ := Lib.hid hJ2
      have hs := setB_short x
      clear hJ hJ2
      generalize hu : setB x = u at HJ hs
      have HU := Lib.hid hu
      clear hu
      have hadd1 := fun w' => run_string_add_lists (P := Tryz.prog) w' [123] u (by simp) (by omega)
      have hadd2 := fun w' => run_string_add_lists (P := Tryz.prog) w' ([123] ++ u) [125] (by simp; omega) (by simp)
      go_wp2_with fail
      refine HJ.out.mono ?_
      rintro e w2 ⟨rfl, hb2⟩
      go_wp2
      go_ret
      exact ⟨by rw [HU.out]; exact congrArg (fun b => Ending.returned (Value.string b)) (mk_app (123 :: u) [125]), HB.out.trans (hb2.mono HB.out.size)⟩

theorem impl_formatTruth (x : Int) (w : World) :
    Calls Tryz.prog 16 #[.int .i64 x] w fun e w' => e = .returned (.string ⟨(if x = 0 then [102, 97, 108, 115, 101] else [116, 114, 117, 101] : List UInt8).toArray⟩) ∧ w = w' := by
  by_cases h : x = 0
  · subst h
    rw [if_pos rfl]
    go_enter Tryz.func16, Tryz.ntmps16
    go_wp2
    go_ret
    exact ⟨rfl, rfl⟩
  · rw [if_neg h]
    have e0 : (x == 0) = false := beq_eq_false_iff_ne.2 h
    clear h
    go_enter Tryz.func16, Tryz.ntmps16
    go_wp2
    go_ret
    exact ⟨rfl, rfl⟩

set_option maxRecDepth 100000 in
theorem impl_formatNode (x : Int) (h0 : -1000000 ≤ x) (h1 : x ≤ 1000000) (w : World) (hp : Pow w) :
    Calls Tryz.prog 17 #[.int .i64 x] w fun e w' => e = .returned (.string ⟨(if x = 0 then [110, 111, 110, 101] else 35 :: itoa x : List UInt8).toArray⟩) ∧ Below w.heap.size w w' := by
  by_cases h : x = 0
  · subst h
    rw [if_pos rfl]
    clear hp
    go_enter Tryz.func17, Tryz.ntmps17
    go_wp2
    go_ret
    exact ⟨rfl, Below.refl _ _⟩
  · rw [if_neg h]
    have e0 : (x == 0) = false := beq_eq_false_iff_ne.2 h
    have HF := Lib.hid (impl_FormatInt x (by omega) (by omega) w hp)
    have hl := itoa_short x h0 h1
    clear h hp
    generalize itoa x = u at HF hl ⊢
    have hadd1 := fun w' => run_string_add_lists (P := Tryz.prog) w' [35] u (by simp) (by omega)
    go_enter Tryz.func17, Tryz.ntmps17
    go_wp2_with fail
    refine HF.out.mono ?_
    rintro e w2 ⟨rfl, hb2⟩
    go_wp2
    go_ret
    exact ⟨rfl, hb2⟩

set_option maxHeartbeats 800000 in
set_option maxRecDepth 100000 in
theorem impl_FormatTyped (x k : Int) (w : World) (hp : Pow w) :
    Calls Tryz.prog 7 #[.int .i64 x, .int .i64 k] w fun e w' => e = .returned (.string ⟨(ftyp x k).toArray⟩) ∧ Below w.heap.size w w' := by
  have HI := Lib.hid (fun w => impl_IsOfType x k w)
  cases ht : isOf x k
  · rw [ht] at HI
    rw [ftyp_no ht]
    clear ht hp
    go_enter Tryz.func7, Tryz.ntmps7
    go_wp2_with fail
    refine (HI.out _).mono ?_
    rintro e w' ⟨rfl, rfl⟩
    go_wp2
    go_ret
    exact ⟨rfl, Below.refl _ _⟩
  · have hr := isOf_range ht
    rw [ht] at HI
    rcases (by have := isOf_kind ht; omega : k = 1 ∨ k = 2 ∨ k = 3 ∨ k = 4) with rfl | rfl | rfl | rfl
    · rw [ftyp_1 ht]
      have HF := Lib.hid (impl_FormatInt x (by omega) (by omega) w hp)
      clear ht hp
      generalize itoa x = u at HF ⊢
      go_enter Tryz.func7, Tryz.ntmps7
      go_wp2_with fail
      refine (HI.out _).mono ?_
      rintro e w' ⟨rfl, rfl⟩
      go_wp2_with fail
      refine HF.out.mono ?_
      rintro e w2 ⟨rfl, hb2⟩
      go_wp2
      go_ret
      exact ⟨rfl, hb2⟩
    · rw [ftyp_2 ht]
      have HF := Lib.hid (impl_formatSet x w hp)
      clear ht hp
      generalize (123 :: setB x ++ [125] : List UInt8) = u at HF ⊢
      go_enter Tryz.func7, Tryz.ntmps7
      go_wp2_with fail
      refine (HI.out _).mono ?_
      rintro e w' ⟨rfl, rfl⟩
      go_wp2_with fail
      refine HF.out.mono ?_
      rintro e w2 ⟨rfl, hb2⟩
      go_wp2
      go_ret
      exact ⟨rfl, hb2⟩
    · rw [ftyp_3 ht]
      have HF := Lib.hid (fun w => impl_formatTruth x w)
      clear ht hp
      generalize (if x = 0 then [102, 97, 108, 115, 101] else [116, 114, 117, 101] : List UInt8) = u at HF ⊢
      go_enter Tryz.func7, Tryz.ntmps7
      go_wp2_with fail
      refine (HI.out _).mono ?_
      rintro e w' ⟨rfl, rfl⟩
      go_wp2_with fail
      refine (HF.out _).mono ?_
      rintro e w2 ⟨rfl, rfl⟩
      go_wp2
      go_ret
      exact ⟨rfl, Below.refl _ _⟩
    · rw [ftyp_4 ht]
      have HF := Lib.hid (impl_formatNode x hr.1 hr.2 w hp)
      clear ht hp
      generalize (if x = 0 then [110, 111, 110, 101] else 35 :: itoa x : List UInt8) = u at HF ⊢
      go_enter Tryz.func7, Tryz.ntmps7
      go_wp2_with fail
      refine (HI.out _).mono ?_
      rintro e w' ⟨rfl, rfl⟩
      go_wp2_with fail
      refine HF.out.mono ?_
      rintro e w2 ⟨rfl, hb2⟩
      go_wp2
      go_ret
      exact ⟨rfl, hb2⟩
end Go.Proofs.YtgpmmlbinmdfmaaGreatDoor
