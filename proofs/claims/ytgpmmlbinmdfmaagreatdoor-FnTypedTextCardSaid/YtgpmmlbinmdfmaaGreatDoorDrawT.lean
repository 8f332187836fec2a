/-
  The draws of the law on typed texts.
-/
import Derived.Test.YtgpmmlbinmdfmaaGreatDoorDrawV
import Derived.Test.YtgpmmlbinmdfmaaGreatDoorReadT3
namespace Go.Proofs.YtgpmmlbinmdfmaaGreatDoor
open Go.ChangeShapes Go.WideShapes Go.ChangeAt Go.RowKit
open Go.Lib Num Sp

theorem ftyp_len (v k : Int) : (ftyp v k).length ≤ 40 := by
  cases h : isOf v k with
  | false => rw [ftyp_no h]; decide
  | true =>
    have hr := isOf_range h
    rcases (by have := isOf_kind h; omega : k = 1 ∨ k = 2 ∨ k = 3 ∨ k = 4) with rfl | rfl | rfl | rfl
    · rw [ftyp_1 h]; have := itoa_short v hr.1 hr.2; omega
    · rw [ftyp_2 h]; have := setB_short v; simp only [List.cons_append, List.length_cons, List.length_append, List.length_nil]; omega
    · rw [ftyp_3 h]; split <;> decide
    · rw [ftyp_4 h]; have := itoa_short v hr.1 hr.2; split
      · decide
      · simp only [List.length_cons]; omega
def turns : List ByteArray := [⟨#[32]⟩, ⟨#[49]⟩, ⟨#[123]⟩, ⟨#[125]⟩, ⟨#[35]⟩, ⟨#[45]⟩]
theorem turns_short : ∀ s ∈ turns, s.size ≤ 1 := by decide

set_option maxHeartbeats 800000 in
set_option maxRecDepth 100000 in
theorem spec_l1Turned {B C : Nat} {a : Option Addr} {len cap : Nat} (s : ByteArray) (hs : s.size ≤ 1000) (w : World) (hc : Cur B C a len cap w) (g : Nat) (hg : g ≠ C) (hlt : g < w.heap.size)
    (hl : ∀ j, j < turns.length → w.cell? ⟨g, j, none⟩ = some (.string (turns.getD j ByteArray.empty))) :
    Calls Tryz.prog 26 #[.pointer (some ⟨C, 0, none⟩), .string s, .slice (some ⟨g, 0, none⟩) 6 6] w fun e w' => ∃ t : ByteArray, e = .returned (.string t) ∧ t.size ≤ 3000 ∧ Cur B C a len cap w' ∧ Writes C w w' := by
  have HC := Lib.hid hc
  have HL := Lib.hid hl
  clear hc hl
  go_enter Tryz.func26, Tryz.ntmps26
  go_wp2_with fail
  refine (draw_below _ HC.out ((s.size : Int) + 1) (by omega)).mono ?_
  rintro e w1 ⟨at0, rfl, ha0, ha1, hc1, hw1⟩
  obtain ⟨at1, rfl⟩ : ∃ n : Nat, at0 = n := ⟨at0.toNat, by omega⟩
  have hat : at1 ≤ s.size := by omega
  have HC1 := Lib.hid hc1
  have HW1 := Lib.hid hw1
  clear hc1 hw1
  go_wp2_with fail
  refine (draw_below _ HC1.out 6 (by decide)).mono ?_
  rintro e w2 ⟨x, rfl, hx0, hx1, hc2, hw2⟩
  have HC2 := Lib.hid hc2
  have HW2 := Lib.hid (HW1.out.trans hw2)
  clear hc2 hw2
  have e1 : (s.extract 0 at1).size ≤ s.size := by have h := size_eq (s.extract 0 at1); rw [ByteArray.data_extract, Array.toList_extract, List.extract_eq_take_drop, List.length_take, List.length_drop, ← size_eq] at h; omega
  by_cases h0 : x = 0
  · have c0 : (x == 0) = true := beq_iff_eq.2 h0
    clear h0
    have e2 : (s.extract at1 s.size).size ≤ s.size := by have h := size_eq (s.extract at1 s.size); rw [ByteArray.data_extract, Array.toList_extract, List.extract_eq_take_drop, List.length_take, List.length_drop, ← size_eq] at h; omega
    have HPK := Lib.hid (fun (w' : World) (n : Nat) (hw' : w' = w2.drewN n) => pick_str (w') (hw' ▸ HC2.out.drewN n) g turns (by decide) (by decide) hg (by rw [hw']; exact Nat.lt_of_lt_of_le hlt HW2.out.size) (fun j hj => by rw [hw']; exact (HW2.out.cell (p := ⟨g, j, none⟩) hlt hg).trans (HL.out j hj)))
    go_wp2_with fail
    go_region_with ((go_at_call 48; refine (HPK.out _ _ rfl).mono ?_; rintro e w3 ⟨j, hj, rfl, hc3, hw3⟩; have hsh := turns_short _ (getD_mem (d := ByteArray.empty) turns j hj); generalize turns.getD j ByteArray.empty = y at hsh; have HC3 := Lib.hid hc3; have HW3 := Lib.hid (show Writes C w w3 from HW2.out.trans ((Writes.refl C w2).trans ⟨hw3.os, hw3.tape, hw3.output, hw3.size, hw3.block⟩)); clear hc3 hw3 hj))
    all_goals
      go_wp2
      go_ret
      refine ⟨_, rfl, ?_, HC3.out, HW3.out⟩
      simp only [ByteArray.size_append]
      omega
  · have c0 : (x == 0) = false := beq_eq_false_iff_ne.2 h0
    by_cases h1 : x = 1
    · have c1 : (x == 1) = true := beq_iff_eq.2 h1
      clear h0 h1
      go_wp2
      go_ret
      exact ⟨_, rfl, by omega, HC2.out, HW2.out⟩
    · have c1 : (x == 1) = false := beq_eq_false_iff_ne.2 h1
      clear h0 h1
      go_wp2
      go_ret
      exact ⟨_, rfl, by omega, HC2.out, HW2.out⟩

set_option maxHeartbeats 800000 in
set_option maxRecDepth 100000 in
theorem spec_DrawFormatTyped {B : Nat} {a : Option Addr} {len cap : Nat} (w : World) (hB : B ≤ w.heap.size) (hl : len ≤ 1048576) (hc : Code B w a len) :
    Calls Tryz.prog 6 #[.slice a len cap] w fun e w' => ∃ v k : Int, e = .returned (.tuple #[.int .i64 v, .int .i64 k]) ∧ -9223372036854775808 ≤ v ∧ v ≤ 9223372036854775807 ∧ 0 ≤ k ∧ k ≤ 5 ∧ Below w.heap.size w w' := by
  have HC := Lib.hid hc
  clear hc
  go_enter Tryz.func6, Tryz.ntmps6
  go_wp2_with fail
  refine (DrawIsOfType w hB hl HC.out).mono ?_
  rintro e w1 ⟨v, k, rfl, h1, h2, h3, h4, hb⟩
  have HB := Lib.hid hb
  clear hb
  go_wp2
  go_ret2
  exact ⟨_, _, rfl, h1, h2, h3, h4, HB.out⟩

set_option maxHeartbeats 800000 in
set_option maxRecDepth 100000 in
theorem spec_DrawParseTyped {B : Nat} {a : Option Addr} {len cap : Nat} (w : World) (hB : B ≤ w.heap.size) (hl : len ≤ 1048576) (hc : Code B w a len) :
    Calls Tryz.prog 11 #[.slice a len cap] w fun e w' => ∃ (t : ByteArray) (k : Int), e = .returned (.tuple #[.string t, .int .i64 k]) ∧ t.size ≤ 3000 ∧ 1 ≤ k ∧ k ≤ 4 ∧ Below w.heap.size w w' := by
  have HC := Lib.hid hc
  clear hc
  go_enter Tryz.func11, Tryz.ntmps11
  go_wp2_with fail
  refine (draw_new _ hB hl HC.out).mono ?_
  rintro e w1 ⟨C, rfl, hC, hc1, hb1⟩
  have HC1 := Lib.hid hc1
  have HB1 := Lib.hid hb1
  have hlt := hc1.lt
  have hz1 : w.heap.size ≤ w1.heap.size := hb1.size
  clear hc1 hb1
  go_wp2_with fail
  refine (draw_below _ HC1.out 4 (by decide)).mono ?_
  rintro e w2 ⟨x, rfl, hx0, hx1, hc2, hw2⟩
  have HC2 := Lib.hid hc2
  have HB2 := Lib.hid (HB1.out.trans ((hw2.below HC1.out.lt).mono hC))
  clear hc2 hw2
  go_wp2_with fail
  refine (spec_l3Value (1 + x) _ HC2.out).mono ?_
  rintro e w3 ⟨v, rfl, hv0, hv1, hc3, hw3⟩
  have HC3 := Lib.hid hc3
  have HB3 := Lib.hid (HB2.out.trans ((hw3.below HC2.out.lt).mono hC))
  clear hc3 hw3
  go_wp2_with fail
  refine (spec_FormatTyped v (1 + x) _).mono ?_
  rintro e w4 ⟨rfl, hb4⟩
  have hfl := ftyp_len v (1 + x)
  have HC4 := Lib.hid (HC3.out.later hb4)
  have HB4 := Lib.hid (HB3.out.trans (hb4.mono HB3.out.size))
  generalize ftyp v (1 + x) = u at hfl ⊢
  clear hb4
  have hC4 := HC4.out.lt
  go_wp2_with fail
  refine (spec_l1Turned ⟨u.toArray⟩ (by rw [mk_size]; omega) _ (HC4.out.later ((Below.refl _ w4).alloc (Nat.le_refl _) _)) w4.heap.size (by omega) (by simp) (fun j hj => strs_new w4 turns 9 j hj)).mono ?_
  rintro e w5 ⟨t, rfl, ht, hc5, hw5⟩
  have HB5 := Lib.hid ((HB4.out.alloc HB4.out.size _).trans ((hw5.below (by simp; omega)).mono hC))
  clear hc5 hw5
  go_wp2
  go_ret2
  exact ⟨_, _, rfl, ht, by omega, by omega, HB5.out⟩
theorem ptyp_back (v k : Int) : ptyp (ftyp v k) k = if isOf v k = true then (v, true) else (0, false) := by
  cases h : isOf v k with
  | false => rw [ftyp_no h, if_neg (by decide)]; exact ptyp_S_nil
  | true =>
    have e := readI_of h
    rw [ptyp_yes (by rw [e]; exact h) (by rw [e]), e, if_pos rfl]
theorem ptyp_fmt {s : List UInt8} {k : Int} (h : (ptyp s k).2 = true) : ftyp (ptyp s k).1 k = s := by
  by_cases h2 : isOf (readI s k) k = true ∧ ftyp (readI s k) k = s
  · rw [ptyp_yes h2.1 h2.2]; exact h2.2
  · have e : ptyp s k = (0, false) := if_neg h2
    rw [e] at h; cases h
end Go.Proofs.YtgpmmlbinmdfmaaGreatDoor
