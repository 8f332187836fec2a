/-
  Plain facts on decimal numerals: the digits that a division loop yields one by one, the value that a loop over digits computes, and that a string is parsed exactly if it is the numeral of the number. Nothing of the program stands here.
-/
import Derived.Lib.ItoaNum
import Derived.Lib.AtoiAll
namespace Go.Proofs.YtjlcbbaicengbaaDoor.Num
open Go.Lib

/-- The digits of a; none for 0. -/
def dd (a : Nat) : List UInt8 := if a = 0 then [] else decDigits a

theorem dd_step (a : Nat) (h : a ≠ 0) : dd a = dd (a / 10) ++ [UInt8.ofNat (48 + a % 10)] := by
  unfold dd
  rw [if_neg h]
  by_cases h9 : a < 10
  · rw [decDigits, dif_pos h9, if_pos (by omega), Nat.mod_eq_of_lt h9]; rfl
  · rw [decDigits, dif_neg h9, if_neg (by omega)]

theorem dd_zero : dd 0 = [] := rfl
theorem dd_pos (a : Nat) (h : a ≠ 0) : dd a = decDigits a := by unfold dd; rw [if_neg h]

/-- A byte that is a decimal digit. -/
def dig (c : UInt8) : Bool := decide (48 ≤ c.toNat) && decide (c.toNat ≤ 57)
/-- What the digits spell, behind acc. -/
def val (acc : Nat) (l : List UInt8) : Nat := l.foldl (fun a c => a * 10 + (c.toNat - 48)) acc

theorem val_nil (acc : Nat) : val acc [] = acc := by unfold val; exact List.foldl_nil
theorem val_cons (acc : Nat) (c : UInt8) (r : List UInt8) : val acc (c :: r) = val (acc * 10 + (c.toNat - 48)) r := by unfold val; exact List.foldl_cons
theorem val_snoc (l : List UInt8) (c : UInt8) (acc : Nat) : val acc (l ++ [c]) = val acc l * 10 + (c.toNat - 48) := by
  unfold val
  rw [List.foldl_append, List.foldl_cons, List.foldl_nil]

theorem val_ge (l : List UInt8) : ∀ acc : Nat, acc ≤ val acc l := by
  induction l with
  | nil => intro acc; rw [val_nil]; exact Nat.le_refl _
  | cons c r ih => intro acc; rw [val_cons]; exact Nat.le_trans (show acc ≤ acc * 10 + (c.toNat - 48) by omega) (ih _)

theorem val_lt_step (acc d p v : Nat) (hd : d ≤ 9) (h : v < (acc * 10 + d + 1) * p) : v < (acc + 1) * (p * 10) := by
  have h2 : (acc * 10 + d + 1) * p ≤ ((acc + 1) * 10) * p := Nat.mul_le_mul_right _ (by omega)
  have h3 : (acc + 1) * 10 * p = (acc + 1) * (p * 10) := by rw [Nat.mul_assoc, Nat.mul_comm 10]
  rw [← h3]
  exact Nat.lt_of_lt_of_le h h2

theorem val_lt (l : List UInt8) : ∀ acc : Nat, l.all dig = true → val acc l < (acc + 1) * 10 ^ l.length := by
  induction l with
  | nil => intro acc _; rw [List.length_nil, Nat.pow_zero, Nat.mul_one, val_nil]; exact Nat.lt_succ_self acc
  | cons c r ih =>
    intro acc h
    rw [List.all_cons, Bool.and_eq_true] at h
    have hc := h.1
    unfold dig at hc
    rw [Bool.and_eq_true, decide_eq_true_eq, decide_eq_true_eq] at hc
    rw [List.length_cons, Nat.pow_succ, val_cons]
    exact val_lt_step acc (c.toNat - 48) _ _ (by omega) (ih _ h.2)

theorem digit_toNat (k : Nat) (h : k < 10) : (UInt8.ofNat (48 + k)).toNat = 48 + k := by
  rw [UInt8.toNat_ofNat']; omega

theorem digits_dig (u : Nat) : (decDigits u).all dig = true := by
  induction u using Nat.strongRecOn with
  | _ u ih =>
    have hd : ∀ k, k < 10 → dig (UInt8.ofNat (48 + k)) = true := fun k hk => by
      unfold dig; rw [digit_toNat k hk, Bool.and_eq_true, decide_eq_true_eq, decide_eq_true_eq]; omega
    by_cases h : u < 10
    · rw [decDigits, dif_pos h, List.all_cons, hd u h]; rfl
    · rw [decDigits, dif_neg h, List.all_append, ih (u / 10) (by omega), List.all_cons, hd (u % 10) (by omega)]; rfl

theorem val_digits (u : Nat) : val 0 (decDigits u) = u := by
  induction u using Nat.strongRecOn with
  | _ u ih =>
    by_cases h : u < 10
    · rw [decDigits, dif_pos h, val_cons, val_nil, digit_toNat u h]; omega
    · rw [decDigits, dif_neg h, val_snoc, ih (u / 10) (by omega), digit_toNat _ (by omega)]; omega

theorem digits_ne (u : Nat) : decDigits u ≠ [] := by
  intro h
  have := decDigits_length u
  have h1 := nDigits_pos u
  rw [h] at this
  simp at this
  omega

theorem digits_head (u : Nat) : (decDigits u).head? ≠ some 45 := by
  intro h
  have hd := digits_dig u
  cases e : decDigits u with
  | nil => rw [e] at h; cases h
  | cons c r =>
    rw [e] at h hd
    cases h
    rw [List.all_cons, Bool.and_eq_true] at hd
    exact absurd hd.1 (by decide)

theorem parse_val : ∀ (l : List UInt8) (acc : Nat), l.all dig = true → val acc l < 18446744073709551616 → parseUint10 acc l = .ok (val acc l)
  | [], acc, _, _ => rfl
  | c :: r, acc, h, hlt => by
    rw [List.all_cons, Bool.and_eq_true] at h
    have hc := h.1
    unfold dig at hc
    rw [Bool.and_eq_true, decide_eq_true_eq, decide_eq_true_eq] at hc
    rw [val_cons] at hlt ⊢
    have hge := val_ge r (acc * 10 + (c.toNat - 48))
    unfold parseUint10
    rw [if_pos hc, if_neg (by omega), if_neg (by omega)]
    exact parse_val r _ h.2 hlt

theorem atoi_itoa (n : Int) (h0 : -9223372036854775808 ≤ n) (h1 : n ≤ 9223372036854775807) : atoiAll (itoa n) = .ok n := by
  by_cases hn : n < 0
  · have e : itoa n = 45 :: decDigits n.natAbs := by unfold itoa; rw [if_pos hn]
    have hv := val_digits n.natAbs
    have hp := parse_val (decDigits n.natAbs) 0 (digits_dig _) (by rw [hv]; omega)
    rw [hv] at hp
    rw [e]
    have hm : parseMag (decDigits n.natAbs) = .ok n.natAbs := by unfold parseMag; rw [if_neg (digits_ne _)]; exact hp
    have h45 : (45 : UInt8).toNat = 45 := rfl
    simp only [atoiAll, h45, or_true, if_true, hm, not_true, false_and, if_false, true_and]
    rw [if_neg (by omega)]
    congr 1
    omega
  · have e : itoa n = decDigits n.toNat := by unfold itoa; rw [if_neg hn]
    have hv := val_digits n.toNat
    have hp := parse_val (decDigits n.toNat) 0 (digits_dig _) (by rw [hv]; omega)
    rw [hv] at hp
    have hm : parseMag (decDigits n.toNat) = .ok n.toNat := by unfold parseMag; rw [if_neg (digits_ne _)]; exact hp
    have hd := digits_dig n.toNat
    rw [e]
    cases hl : decDigits n.toNat with
    | nil => exact absurd hl (digits_ne _)
    | cons c r =>
      rw [hl] at hm hd
      rw [List.all_cons, Bool.and_eq_true] at hd
      have hc := hd.1
      unfold dig at hc
      rw [Bool.and_eq_true, decide_eq_true_eq, decide_eq_true_eq] at hc
      have n1 : ¬ c.toNat = 43 := by omega
      have n2 : ¬ c.toNat = 45 := by omega
      simp only [atoiAll, n1, n2, or_self, if_false, hm, not_false_eq_true, true_and, false_and]
      rw [if_neg (by omega)]
      congr 1
      omega

theorem itoa_inj {a b : Int} (ha : -9223372036854775808 ≤ a) (ha' : a ≤ 9223372036854775807) (hb : -9223372036854775808 ≤ b) (hb' : b ≤ 9223372036854775807) (h : itoa a = itoa b) : a = b := by
  have e := atoi_itoa a ha ha'
  rw [h, atoi_itoa b hb hb'] at e
  injection e with e
  exact e.symm

/-- The number from lo to hi whose numeral s is. -/
def pint (lo hi : Int) (s : List UInt8) : Option Int :=
  match atoiAll s with
  | .ok v => if lo ≤ v ∧ v ≤ hi ∧ itoa v = s then some v else none
  | _ => none

theorem pint_iff {lo hi : Int} (hlo : -9223372036854775808 ≤ lo) (hhi : hi ≤ 9223372036854775807) {s : List UInt8} {n : Int} : pint lo hi s = some n ↔ lo ≤ n ∧ n ≤ hi ∧ itoa n = s := by
  constructor
  · intro h
    unfold pint at h
    split at h
    · split at h
      · rename_i hv
        cases h
        exact hv
      · cases h
    · cases h
  · intro ⟨h1, h2, h3⟩
    unfold pint
    rw [← h3, atoi_itoa n (by omega) (by omega)]
    exact if_pos ⟨h1, h2, rfl⟩

/-- What stands behind the sign. -/
def body (s : List UInt8) : List UInt8 := if s.head? = some 45 then s.tail else s
def signed (s : List UInt8) : Int := if s.head? = some 45 then -(val 0 (body s) : Int) else (val 0 (body s) : Int)
/-- What a loop over at most 'most' digits reads, and holds against the numeral. -/
def rd (most : Nat) (s : List UInt8) : Option Int :=
  if (body s).length < 1 ∨ most < (body s).length then none
  else if (body s).all dig = true then (if itoa (signed s) = s then some (signed s) else none)
  else none

theorem body_itoa (n : Int) : body (itoa n) = decDigits n.natAbs := by
  unfold body itoa
  by_cases hn : n < 0
  · rw [if_pos hn]; rfl
  · rw [if_neg hn, if_neg (digits_head _)]
    congr 1
    omega

theorem signed_itoa (n : Int) : signed (itoa n) = n := by
  unfold signed
  rw [body_itoa, val_digits]
  unfold itoa
  by_cases hn : n < 0
  · rw [if_pos hn, List.head?_cons, if_pos rfl]; omega
  · rw [if_neg hn, if_neg (digits_head _)]; omega

theorem rd_iff {most : Nat} {s : List UInt8} {n : Int} : rd most s = some n ↔ itoa n = s ∧ nDigits n.natAbs ≤ most := by
  constructor
  · intro h
    unfold rd at h
    split at h
    · cases h
    · rename_i hl
      split at h
      · split at h
        · rename_i hs
          cases h
          refine ⟨hs, ?_⟩
          rw [← decDigits_length, ← body_itoa, hs]
          omega
        · cases h
      · cases h
  · rintro ⟨rfl, h⟩
    unfold rd
    rw [signed_itoa, body_itoa, decDigits_length, if_neg (by have := nDigits_pos n.natAbs; omega), if_pos (digits_dig _), if_pos rfl]

theorem nDigits_le : ∀ (k u : Nat), 1 ≤ k → u < 10 ^ k → nDigits u ≤ k
  | 1, u, _, h => by rw [nDigits_small (by simpa using h)]; exact Nat.le_refl _
  | k + 2, u, _, h => by
    by_cases hs : u < 10
    · rw [nDigits_small hs]; omega
    · rw [nDigits_big hs]
      rw [Nat.pow_succ] at h
      have := nDigits_le (k + 1) (u / 10) (by omega) (by omega)
      omega

theorem nDigits_iff (k u : Nat) (hk : 1 ≤ k) : nDigits u ≤ k ↔ u < 10 ^ k :=
  ⟨fun h => Nat.lt_of_lt_of_le (lt_pow_nDigits u) (Nat.pow_le_pow_right (by decide) h), nDigits_le k u hk⟩

theorem opt_ext {α : Type} {a b : Option α} (h : ∀ x, a = some x ↔ b = some x) : a = b := by
  cases a with
  | some x => exact ((h x).1 rfl).symm
  | none => cases b with
    | none => rfl
    | some y => exact ((h y).2 rfl)

theorem rd_int (s : List UInt8) : rd 12 s = pint (-999999999999) 999999999999 s := by
  refine opt_ext fun n => ?_
  rw [rd_iff, pint_iff (by decide) (by decide), nDigits_iff 12 _ (by decide)]
  have e : (10 : Nat) ^ 12 = 1000000000000 := by decide
  rw [e]
  constructor
  · rintro ⟨h1, h2⟩; exact ⟨by omega, by omega, h1⟩
  · rintro ⟨h1, h2, h3⟩; exact ⟨h3, by omega⟩

/-- The number that is read, if it is not negative. -/
def rdN (s : List UInt8) : Option Int := match rd 6 s with
  | some n => if n < 0 then none else some n
  | none => none

theorem rd_num (s : List UInt8) : rdN s = pint 0 999999 s := by
  refine opt_ext fun n => ?_
  rw [pint_iff (by decide) (by decide)]
  have e : (10 : Nat) ^ 6 = 1000000 := by decide
  unfold rdN
  constructor
  · intro h
    cases hr : rd 6 s with
    | none => rw [hr] at h; cases h
    | some m =>
      rw [hr] at h
      have hm := rd_iff.1 hr
      rw [nDigits_iff 6 _ (by decide), e] at hm
      by_cases hneg : m < 0
      · simp only [if_pos hneg] at h; cases h
      · simp only [if_neg hneg] at h
        cases h
        exact ⟨by omega, by omega, hm.1⟩
  · rintro ⟨h1, h2, h3⟩
    have hr : rd 6 s = some n := rd_iff.2 ⟨h3, by rw [nDigits_iff 6 _ (by decide), e]; omega⟩
    rw [hr]
    simp only [if_neg (show ¬ n < 0 by omega)]
end Go.Proofs.YtjlcbbaicengbaaDoor.Num
