/-
  Plain facts on relations: the closure is transitive and idempotent, a union is idempotent, a projection has the pairs it should.
-/
import Derived.Test.YtkfonlejblcknaaHasLoop
import Derived.Test.YtkfonlejblcknaaProject
namespace Go.Proofs.Ytkfonlejblcknaa
open Go.ChangeShapes Go.WideShapes Go.ChangeAt Go.RowKit Go.Deep

theorem bitB_nat {a k : Nat} (ha : a < 2 ^ 16) : bitB (a : Int) k = a.testBit k := by
  unfold bitB
  have e2 : (a : Int) / 2 ^ k = ((a / 2 ^ k : Nat) : Int) := by push_cast; rfl
  have hle : a / 2 ^ k ≤ a := Nat.div_le_self _ _
  rw [e2]
  generalize hq : a / 2 ^ k = q at hle ⊢
  have e1 : bits BinOp.and IntKind.i64 (q : Int) 1 = IntKind.i64.wrap ((BitVec.ofInt 64 (q : Int) &&& BitVec.ofInt 64 ((1 : Nat) : Int)).toNat : Int) := by unfold bits; rfl
  have e3 : (q : Nat) &&& 1 = q % 2 := Nat.and_one_is_mod q
  rw [e1, BitVec.toNat_and, BitVec.ofInt_natCast, BitVec.ofInt_natCast, BitVec.toNat_ofNat, BitVec.toNat_ofNat, Nat.mod_eq_of_lt (by omega), Nat.mod_eq_of_lt (by omega), e3]
  have h2 : q % 2 < 2 := Nat.mod_lt _ (by decide)
  have e4 : IntKind.i64.wrap ((q % 2 : Nat) : Int) = ((q % 2 : Nat) : Int) := IntWalk.i64_in _ (by omega)
  rw [e4, Nat.testBit_eq_decide_div_mod_eq, hq]
  rcases Nat.mod_two_eq_zero_or_one q with h | h <;> rw [h] <;> rfl
theorem orI_nat {a b : Nat} (ha : a < 2 ^ 16) (hb : b < 2 ^ 16) : orI (a : Int) (b : Int) = ((a ||| b : Nat) : Int) := by
  have h := Nat.or_lt_two_pow ha hb
  unfold orI
  have e1 : bits BinOp.or IntKind.i64 (a : Int) (b : Int) = IntKind.i64.wrap ((BitVec.ofInt 64 (a : Int) ||| BitVec.ofInt 64 (b : Int)).toNat : Int) := by unfold bits; rfl
  rw [e1, BitVec.toNat_or, BitVec.ofInt_natCast, BitVec.ofInt_natCast, BitVec.toNat_ofNat, BitVec.toNat_ofNat, Nat.mod_eq_of_lt (by omega), Nat.mod_eq_of_lt (by omega)]
  exact IntWalk.i64_in _ (by omega)
/-- In range of 16 bits. -/
def In16 (x : Int) : Prop := 0 ≤ x ∧ x < 65536
theorem In16.nat {x : Int} (h : In16 x) : ∃ a : Nat, x = a ∧ a < 2 ^ 16 := ⟨x.toNat, by have := h.1; omega, by have h1 := h.1; have h2 := h.2; omega⟩
theorem In16.of_pow {n : Nat} (hn : n ≤ 16) {x : Int} (h : 0 ≤ x ∧ x < 2 ^ n) : In16 x := by
  have := pow_in hn
  exact ⟨h.1, by omega⟩
theorem bit_or {x y : Int} (hx : In16 x) (hy : In16 y) (k : Nat) : bitB (orI x y) k = (bitB x k || bitB y k) := by
  obtain ⟨a, rfl, ha⟩ := hx.nat
  obtain ⟨b, rfl, hb⟩ := hy.nat
  rw [orI_nat ha hb, bitB_nat (Nat.or_lt_two_pow ha hb), bitB_nat ha, bitB_nat hb, Nat.testBit_or]
theorem or_in16 {x y : Int} (hx : In16 x) (hy : In16 y) : In16 (orI x y) := by
  obtain ⟨a, rfl, ha⟩ := hx.nat
  obtain ⟨b, rfl, hb⟩ := hy.nat
  rw [orI_nat ha hb]
  have := Nat.or_lt_two_pow ha hb
  exact ⟨by omega, by omega⟩
theorem bit_ext {x y : Int} (hx : In16 x) (hy : In16 y) (h : ∀ k, bitB x k = bitB y k) : x = y := by
  obtain ⟨a, rfl, ha⟩ := hx.nat
  obtain ⟨b, rfl, hb⟩ := hy.nat
  have : a = b := Nat.eq_of_testBit_eq fun k => by
    have hk := h k
    rw [bitB_nat ha, bitB_nat hb] at hk
    exact hk
  rw [this]
theorem or_same {x y : Int} (hx : In16 x) (hy : In16 y) (h : ∀ k, bitB y k = true → bitB x k = true) : orI x y = x := by
  refine bit_ext (or_in16 hx hy) hx fun k => ?_
  rw [bit_or hx hy]
  cases h1 : bitB y k with
  | false => rw [Bool.or_false]
  | true => rw [h k h1]; rfl
theorem bit_high {x : Int} {n k : Nat} (hn : n ≤ 16) (hx : 0 ≤ x ∧ x < 2 ^ n) (hk : n ≤ k) : bitB x k = false := by
  obtain ⟨a, rfl, ha⟩ := (In16.of_pow hn hx).nat
  rw [bitB_nat ha]
  have e : ((2 ^ n : Nat) : Int) = (2 : Int) ^ n := by push_cast; rfl
  have h2 := hx.2
  rw [← e] at h2
  exact Nat.testBit_lt_two_pow (Nat.lt_of_lt_of_le (by omega) (Nat.pow_le_pow_right (by decide) hk))

/-- What the inner loop has done after i rows. -/
theorem inF_eq {g : Nat → Int} {n k : Nat} (hn : n ≤ 16) (hk : k < n) (h : ∀ j, j < n → 0 ≤ g j ∧ g j < 2 ^ n) : ∀ i, i ≤ n → ∀ j, j < n → inF g k i j = if j < i ∧ bitB (g j) k = true then orI (g j) (g k) else g j
  | 0, _, j, _ => by rw [if_neg (fun e => Nat.not_lt_zero _ e.1)]; rfl
  | i + 1, hi, j, hj => by
    have ih := inF_eq hn hk h i (by omega)
    have hkk : orI (g k) (g k) = g k := or_same (In16.of_pow hn (h k hk)) (In16.of_pow hn (h k hk)) fun _ h => h
    have e0 : inF g k (i + 1) j = stF (inF g k i) k i j := rfl
    have ek : inF g k i k = g k := by
      rw [ih k hk]; split
      · exact hkk
      · rfl
    have ei : inF g k i i = g i := by rw [ih i (by omega), if_neg (fun e => Nat.lt_irrefl _ e.1)]
    rw [e0]
    unfold stF
    rw [ek, ei]
    by_cases hji : j = i
    · subst hji
      by_cases hb : bitB (g j) k = true
      · rw [if_pos ⟨rfl, hb⟩, if_pos ⟨Nat.lt_succ_self _, hb⟩]
      · rw [if_neg (fun e => hb e.2), if_neg (fun e => hb e.2), ei]
    · rw [if_neg (fun e => hji e.1), ih j hj]
      by_cases hb : j < i ∧ bitB (g j) k = true
      · rw [if_pos hb, if_pos ⟨by omega, hb.2⟩]
      · rw [if_neg hb, if_neg (fun e => hb ⟨by omega, e.2⟩)]
theorem in_bit {g : Nat → Int} {n k : Nat} (hn : n ≤ 16) (hk : k < n) (h : ∀ j, j < n → 0 ≤ g j ∧ g j < 2 ^ n) {i : Nat} (hi : i < n) (j : Nat) :
    bitB (inF g k n i) j = (bitB (g i) j || (bitB (g i) k && bitB (g k) j)) := by
  rw [inF_eq hn hk h n (Nat.le_refl _) i hi]
  cases hb : bitB (g i) k with
  | true => rw [if_pos ⟨hi, rfl⟩, bit_or (In16.of_pow hn (h i hi)) (In16.of_pow hn (h k hk)), Bool.true_and]
  | false => rw [if_neg (fun e => by cases e.2), Bool.false_and, Bool.or_false]
theorem out_sub {g : Nat → Int} {n : Nat} (hn : n ≤ 16) (h : ∀ j, j < n → 0 ≤ g j ∧ g j < 2 ^ n) {i j : Nat} (hi : i < n) (hb : bitB (g i) j = true) : ∀ k, k ≤ n → bitB (outF g n k i) j = true
  | 0, _ => hb
  | k + 1, hk => by
    have ih := out_sub hn h hi hb k (by omega)
    have e := in_bit (g := outF g n k) hn (show k < n by omega) (outF_in hn h k (by omega)) hi j
    show bitB (inF (outF g n k) k n i) j = true
    rw [e, ih]; rfl
theorem out_trans {g : Nat → Int} {n : Nat} (hn : n ≤ 16) (h : ∀ j, j < n → 0 ≤ g j ∧ g j < 2 ^ n) : ∀ k, k ≤ n → ∀ i, i < n → ∀ m, m < k → ∀ j, bitB (outF g n k i) m = true → bitB (outF g n k m) j = true → bitB (outF g n k i) j = true
  | 0, _, _, _, _, hm, _, _, _ => absurd hm (Nat.not_lt_zero _)
  | k + 1, hk, i, hi, m, hm, j, h1, h2 => by
    have hT := out_trans hn h k (by omega)
    have hin := outF_in hn h k (by omega)
    have E := fun (i : Nat) (hi : i < n) (j : Nat) => in_bit (g := outF g n k) hn (show k < n by omega) hin hi j
    change bitB (inF (outF g n k) k n i) m = true at h1
    change bitB (inF (outF g n k) k n m) j = true at h2
    show bitB (inF (outF g n k) k n i) j = true
    generalize outF g n k = G at hT E h1 h2
    rw [E i hi] at h1 ⊢
    rw [E m (by omega)] at h2
    rcases Nat.lt_or_ge m k with hmk | hmk
    · have T1 := hT i hi m hmk
      have T2 := hT k (by omega) m hmk
      have a1 := T1 j
      have a2 := T1 k
      have a3 := T2 j
      revert h1 h2 a1 a2 a3
      cases bitB (G i) m <;> cases bitB (G i) k <;> cases bitB (G k) m <;> cases bitB (G m) j <;> cases bitB (G m) k <;> cases bitB (G k) j <;> cases bitB (G i) j <;> simp
    · obtain rfl : m = k := by omega
      revert h1 h2
      cases bitB (G i) m <;> cases bitB (G m) m <;> cases bitB (G m) j <;> cases bitB (G i) j <;> simp
theorem inF_same {g : Nat → Int} {n k : Nat} (hn : n ≤ 16) (hk : k < n) (h : ∀ j, j < n → 0 ≤ g j ∧ g j < 2 ^ n) (ht : ∀ i, i < n → ∀ m, m < n → ∀ j, bitB (g i) m = true → bitB (g m) j = true → bitB (g i) j = true) : ∀ j, j < n → inF g k n j = g j := by
  intro j hj
  rw [inF_eq hn hk h n (Nat.le_refl _) j hj]
  split
  · rename_i hb
    exact or_same (In16.of_pow hn (h j hj)) (In16.of_pow hn (h k hk)) fun m hm => ht j hj k hk m hb.2 hm
  · rfl
theorem inF_congr {g g' : Nat → Int} {n k : Nat} (hk : k < n) (h : ∀ j, j < n → g j = g' j) : ∀ i, i ≤ n → ∀ j, j < n → inF g k i j = inF g' k i j
  | 0, _, j, hj => h j hj
  | i + 1, hi, j, hj => by
    have ih := inF_congr hk h i (by omega)
    show stF (inF g k i) k i j = stF (inF g' k i) k i j
    unfold stF
    rw [ih i (by omega), ih k hk, ih j hj]
theorem outF_same {g : Nat → Int} {n : Nat} (hn : n ≤ 16) (h : ∀ j, j < n → 0 ≤ g j ∧ g j < 2 ^ n) (ht : ∀ i, i < n → ∀ m, m < n → ∀ j, bitB (g i) m = true → bitB (g m) j = true → bitB (g i) j = true) : ∀ k, k ≤ n → ∀ j, j < n → outF g n k j = g j
  | 0, _, _, _ => rfl
  | k + 1, hk, j, hj => by
    have ih := outF_same hn h ht k (by omega)
    show inF (outF g n k) k n j = g j
    rw [inF_congr (show k < n by omega) ih n (Nat.le_refl _) j hj]
    exact inF_same hn (by omega) h ht j hj

theorem relB_rows {r : DRelation} (h : relB r = true) : r.fRows.length ≤ 16 ∧ r.fN = r.fRows.length ∧ ∀ j, j < r.fRows.length → 0 ≤ r.fRows.getD j default ∧ r.fRows.getD j default < 2 ^ r.fRows.length := by
  obtain ⟨n, hn, h1, h2, h3⟩ := relB_parts h
  subst h2
  exact ⟨hn, h1, h3⟩
/-- The closure of a relation is transitive. -/
theorem close_trans {r : DRelation} (h : relB r = true) {i m j : Nat} (hi : i < r.fRows.length) (hm : m < r.fRows.length) (h1 : bitB ((closeRel r).fRows.getD i default) m = true) (h2 : bitB ((closeRel r).fRows.getD m default) j = true) : bitB ((closeRel r).fRows.getD i default) j = true := by
  obtain ⟨hn, _, hr⟩ := relB_rows h
  rw [closeRel_row h hi] at h1 ⊢
  rw [closeRel_row h hm] at h2
  exact out_trans hn hr _ (Nat.le_refl _) i hi m hm j h1 h2
theorem close_sub {r : DRelation} (h : relB r = true) {i j : Nat} (hi : i < r.fRows.length) (h1 : bitB (r.fRows.getD i default) j = true) : bitB ((closeRel r).fRows.getD i default) j = true := by
  obtain ⟨hn, _, hr⟩ := relB_rows h
  rw [closeRel_row h hi]
  exact out_sub hn hr hi h1 _ (Nat.le_refl _)
theorem list_ext {l m : List Int} (h : l.length = m.length) (he : ∀ j, j < l.length → l.getD j default = m.getD j default) : l = m := by
  apply List.ext_getElem h
  intro j h1 h2
  have := he j h1
  rw [List.getD_eq_getElem?_getD, List.getD_eq_getElem?_getD, List.getElem?_eq_getElem h1, List.getElem?_eq_getElem h2] at this
  exact this
theorem rel_ext {a b : DRelation} (h : a.fN = b.fN) (h2 : a.fRows = b.fRows) : a = b := by
  cases a; cases b
  simp only at h h2
  subst h; subst h2
  rfl
theorem close_close (r : DRelation) : closeRel (closeRel r) = closeRel r := by
  cases h : relB r with
  | false => rw [closeRel_no h, closeRel_no h]
  | true =>
    have hv := closeRel_valid h
    obtain ⟨hn, hN, hr⟩ := relB_rows hv
    have hl := closeRel_len r
    refine rel_ext (closeRel_N _) (list_ext (closeRel_len _) fun j hj => ?_)
    rw [closeRel_len] at hj
    rw [closeRel_row hv hj]
    exact outF_same hn hr (fun i hi m hm j h1 h2 => close_trans h (by omega) (by omega) h1 h2) _ (Nat.le_refl _) j hj
/-- The pairs of a valid relation. -/
theorem pair_bit {r : DRelation} (h : relB r = true) {i k : Nat} (hi : i < r.fRows.length) (hk : k < r.fRows.length) : hasPair r i k = bitB (r.fRows.getD i default) k := by
  have hN := (relB_rows h).2.1
  exact hasPair_yes h (inR_yes (by omega) (by omega)) (inR_yes (by omega) (by omega))
theorem pair_close {r : DRelation} (h : relB r = true) {i k : Nat} (hi : i < r.fRows.length) (hk : k < r.fRows.length) (hp : hasPair r i k = true) : hasPair (closeRel r) i k = true := by
  have hl := closeRel_len r
  rw [pair_bit h hi hk] at hp
  rw [pair_bit (closeRel_valid h) (by omega) (by omega)]
  exact close_sub h hi hp
theorem pair_trans {r : DRelation} (h : relB r = true) {i k j : Nat} (hi : i < r.fRows.length) (hk : k < r.fRows.length) (hj : j < r.fRows.length) (h1 : hasPair (closeRel r) i k = true) (h2 : hasPair (closeRel r) k j = true) : hasPair (closeRel r) i j = true := by
  have hl := closeRel_len r
  have hv := closeRel_valid h
  rw [pair_bit hv (by omega) (by omega)] at h1 h2 ⊢
  exact close_trans h hi hk h1 h2
/-- A loop at one of the first k numbers. -/
def loopTo (r : DRelation) (k : Nat) : Bool := (List.range k).any (loopAt r)
theorem loopTo_next {r : DRelation} (h : relB r = true) {k : Nat} (hk : k < r.fRows.length) : loopTo r (k + 1) = (loopTo r k || hasPair (closeRel r) k k) := by
  unfold loopTo
  rw [List.range_succ, List.any_append, pair_loop h hk]
  simp
theorem loopTo_all {r : DRelation} (h : relB r = true) : hasLoop r = loopTo r r.fRows.length := by unfold hasLoop loopTo; rw [h]; rfl

/-! Unions. -/
theorem uni_row {a b : DRelation} (h : uniB a b = true) {j : Nat} (hj : j < a.fRows.length) : (unionRel a b).fRows.getD j default = orI (a.fRows.getD j default) (b.fRows.getD j default) := by
  rw [unionRel_yes h]
  show ((List.range a.fRows.length).map (uniF a.fRows b.fRows a.fRows.length)).getD j default = _
  rw [List.getD_eq_getElem?_getD, List.getElem?_map, List.getElem?_range hj]
  show uniF a.fRows b.fRows a.fRows.length j = _
  unfold uniF
  rw [if_pos hj]
theorem uni_parts {a b : DRelation} (h : uniB a b = true) : relB a = true ∧ relB b = true ∧ a.fN = b.fN := by
  unfold uniB at h
  simp only [Bool.and_eq_true, beq_iff_eq] at h
  exact ⟨h.1.1, h.1.2, h.2⟩
theorem uni_valid {a b : DRelation} (h : uniB a b = true) : relB (unionRel a b) = true := by
  obtain ⟨ha, hb, hN⟩ := uni_parts h
  obtain ⟨hn, hNa, hra⟩ := relB_rows ha
  obtain ⟨hnb, hNb, hrb⟩ := relB_rows hb
  have hl : b.fRows.length = a.fRows.length := by omega
  have hlen := unionRel_len a b
  have hN2 : (unionRel a b).fN = a.fRows.length := by rw [unionRel_yes h]; exact hNa
  rw [relB_yes hn hN2 hlen]
  refine rows_all fun i hi => ?_
  rw [hlen] at hi
  rw [uni_row h hi]
  rw [hl] at hrb
  have h1 := or_in hn (hra i hi).1 (hra i hi).2 (hrb i hi).1 (hrb i hi).2
  unfold rowB
  rw [decide_eq_true h1.1, decide_eq_true h1.2]; rfl
theorem union_again (a b : DRelation) : unionRel (unionRel a b) b = unionRel a b := by
  cases h : uniB a b with
  | false => rw [unionRel_no h, unionRel_no h]
  | true =>
    obtain ⟨ha, hb, hN⟩ := uni_parts h
    obtain ⟨hn, hNa, hra⟩ := relB_rows ha
    obtain ⟨hnb, hNb, hrb⟩ := relB_rows hb
    have hl : b.fRows.length = a.fRows.length := by omega
    have hlen := unionRel_len a b
    have hN2 : (unionRel a b).fN = a.fN := by rw [unionRel_yes h]
    have hu : uniB (unionRel a b) b = true := by
      unfold uniB
      rw [uni_valid h, hb, hN2, hN]; simp
    refine rel_ext (by rw [unionRel_yes hu]) (list_ext (unionRel_len _ _) fun j hj => ?_)
    rw [unionRel_len] at hj
    rw [uni_row hu hj]
    rw [hlen] at hj
    rw [uni_row h hj]
    rw [hl] at hrb
    have x1 := In16.of_pow hn (hra j hj)
    have x2 := In16.of_pow hn (hrb j hj)
    refine or_same (or_in16 x1 x2) x2 fun k hk => ?_
    rw [bit_or x1 x2, hk, Bool.or_true]

/-! Projections. -/
theorem bit_pow {k : Nat} (hk : k < 16) (j : Nat) : bitB ((2 : Int) ^ k) j = decide (k = j) := by
  have e : ((2 ^ k : Nat) : Int) = (2 : Int) ^ k := by push_cast; rfl
  rw [← e, bitB_nat (Nat.pow_lt_pow_right (by decide) hk), Nat.testBit_two_pow]
theorem bit_zero (j : Nat) : bitB 0 j = false := by
  have := bitB_nat (a := 0) (k := j) (by decide)
  rw [Nat.zero_testBit] at this
  exact this
theorem pow_lt {n b : Nat} (hb : b < n) : (0 : Int) ≤ 2 ^ b ∧ (2 : Int) ^ b < 2 ^ n := by
  have e : ∀ k : Nat, ((2 ^ k : Nat) : Int) = (2 : Int) ^ k := fun k => by push_cast; rfl
  have h := Nat.pow_lt_pow_right (a := 2) (by decide) hb
  exact ⟨by rw [← e b]; exact Int.natCast_nonneg _, by rw [← e b, ← e n]; exact Int.ofNat_lt.2 h⟩
theorem inP_other {P : Nat → Nat → Bool} {g : Nat → Int} {a j : Nat} (h : j ≠ a) : ∀ b, inP P g a b j = g j
  | 0 => rfl
  | b + 1 => by
    show stP P (inP P g a b) a b j = g j
    rw [stP_other h, inP_other h b]
theorem inP_row {P : Nat → Nat → Bool} {g : Nat → Int} {a n : Nat} (hn : n ≤ 16) (h0 : g a = 0) : ∀ b, b ≤ n → (0 ≤ inP P g a b a ∧ inP P g a b a < 2 ^ n) ∧ ∀ j, bitB (inP P g a b a) j = (decide (j < b) && P a j)
  | 0, _ => by
    have e : inP P g a 0 a = 0 := h0
    have hp := pow_in hn
    rw [e]
    refine ⟨⟨Int.le_refl _, by omega⟩, fun j => ?_⟩
    rw [bit_zero, decide_eq_false (Nat.not_lt_zero _)]; rfl
  | b + 1, hb => by
    obtain ⟨hr, hbits⟩ := inP_row (P := P) (g := g) hn h0 b (by omega)
    have e : inP P g a (b + 1) a = stP P (inP P g a b) a b a := rfl
    rw [e]
    cases hP : P a b with
    | true =>
      have hpw := pow_lt (show b < n by omega)
      have e2 : orB (inP P g a b a) b = orI (inP P g a b a) (2 ^ b) := rfl
      rw [stP_yes hP, e2]
      refine ⟨or_in hn hr.1 hr.2 hpw.1 hpw.2, fun j => ?_⟩
      rw [bit_or (In16.of_pow hn hr) (In16.of_pow hn hpw), hbits, bit_pow (by omega)]
      by_cases hj : b = j
      · subst hj
        rw [decide_eq_true (rfl : b = b), decide_eq_true (Nat.lt_succ_self b), hP]; simp
      · rw [decide_eq_false hj, Bool.or_false]
        by_cases h2 : j < b
        · rw [decide_eq_true h2, decide_eq_true (show j < b + 1 by omega)]
        · rw [decide_eq_false h2, decide_eq_false (show ¬ j < b + 1 by omega)]
    | false =>
      rw [stP_no hP]
      refine ⟨hr, fun j => ?_⟩
      rw [hbits]
      by_cases hj : b = j
      · subst hj
        rw [hP, Bool.and_false, Bool.and_false]
      · by_cases h2 : j < b
        · rw [decide_eq_true h2, decide_eq_true (show j < b + 1 by omega)]
        · rw [decide_eq_false h2, decide_eq_false (show ¬ j < b + 1 by omega)]
theorem outP_row {P : Nat → Nat → Bool} {n : Nat} (hn : n ≤ 16) : ∀ a, a ≤ n → ∀ m, m < n → (m < a → (0 ≤ outP P n a m ∧ outP P n a m < 2 ^ n) ∧ ∀ j, bitB (outP P n a m) j = (decide (j < n) && P m j)) ∧ (a ≤ m → outP P n a m = 0)
  | 0, _, m, _ => ⟨fun h => absurd h (Nat.not_lt_zero _), fun _ => rfl⟩
  | a + 1, ha, m, hm => by
    obtain ⟨ih1, ih2⟩ := outP_row (P := P) hn a (by omega) m hm
    have e : outP P n (a + 1) m = inP P (outP P n a) a n m := rfl
    rw [e]
    by_cases hma : m = a
    · subst hma
      exact ⟨fun _ => inP_row hn (ih2 (Nat.le_refl _)) n (Nat.le_refl _), fun h => absurd h (by omega)⟩
    · rw [inP_other hma]
      exact ⟨fun h => ih1 (by omega), fun h => ih2 (by omega)⟩
theorem proj_row {r : DRelation} {l : List Int} (h : relB r = true) (h2 : l.length ≤ 16) {j : Nat} (hj : j < l.length) : (projRel r l).fRows.getD j default = outP (pairP r l) l.length l.length j := by
  rw [projRel_yes h h2]
  show ((List.range l.length).map (outP (pairP r l) l.length l.length)).getD j default = _
  rw [List.getD_eq_getElem?_getD, List.getElem?_map, List.getElem?_range hj]
  rfl
theorem proj_valid {r : DRelation} {l : List Int} (h : relB r = true) (h2 : l.length ≤ 16) : relB (projRel r l) = true := by
  have hN : (projRel r l).fN = l.length := by rw [projRel_yes h h2]
  have hlen : (projRel r l).fRows.length = l.length := by rw [projRel_yes h h2]; simp
  rw [relB_yes h2 hN hlen]
  refine rows_all fun i hi => ?_
  rw [hlen] at hi
  rw [proj_row h h2 hi]
  have h1 := ((outP_row (P := pairP r l) h2 _ (Nat.le_refl _) i hi).1 hi).1
  unfold rowB
  rw [decide_eq_true h1.1, decide_eq_true h1.2]; rfl
theorem proj_pair {r : DRelation} {l : List Int} (h : relB r = true) (h2 : l.length ≤ 16) {m k : Nat} (hm : m < l.length) (hk : k < l.length) : hasPair (projRel r l) m k = hasPair r (l.getD m default) (l.getD k default) := by
  have hlen : (projRel r l).fRows.length = l.length := by rw [projRel_yes h h2]; simp
  rw [pair_bit (proj_valid h h2) (by omega) (by omega), proj_row h h2 hm]
  rw [((outP_row (P := pairP r l) h2 _ (Nat.le_refl _) m hm).1 hm).2 k, decide_eq_true hk, Bool.true_and]
  rfl
theorem proj_none {r : DRelation} {l : List Int} (h : ¬ (relB r = true ∧ l.length ≤ 16)) : projRel r l = ⟨0, []⟩ := if_neg h
theorem proj_N {r : DRelation} {l : List Int} (h : relB r = true ∧ l.length ≤ 16) : (projRel r l).fN = l.length := by rw [projRel_yes h.1 h.2]
end Go.Proofs.Ytkfonlejblcknaa
