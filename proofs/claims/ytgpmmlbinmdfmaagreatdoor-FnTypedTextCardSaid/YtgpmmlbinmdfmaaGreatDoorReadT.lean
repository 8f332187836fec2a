/-
  Plain facts: what is read of the representation of a value is that value, in the model's way and in the program's.
-/
import Derived.Test.YtgpmmlbinmdfmaaGreatDoorFmtS
import Derived.Test.YtgpmmlbinmdfmaaGreatDoorSplit
import Derived.Test.YtgpmmlbinmdfmaaGreatDoorNum
import Derived.Lib.SlTrimSet
import Derived.Lib.Strings
namespace Go.Proofs.YtgpmmlbinmdfmaaGreatDoor
open Go.ChangeShapes Go.WideShapes Go.ChangeAt Go.RowKit
open Go.Lib Num Sp

/-! Sets, element by element. -/
/-- The elements of v below k, joined. -/
def low (v : Int) : Nat → Int
  | 0 => 0
  | k + 1 => if hasB v (k : Int) = true then bits .or .i64 (low v k) (wrap64 (2 ^ k)) else low v k
theorem wrap_small (k : Nat) (hk : k < 12) : wrap64 ((2 : Int) ^ k) = ((2 ^ k : Nat) : Int) := by
  have e : ((2 ^ k : Nat) : Int) = (2 : Int) ^ k := by push_cast; rfl
  have h : 2 ^ k < 2 ^ 12 := Nat.pow_lt_pow_right (by decide) hk
  rw [← e]
  generalize 2 ^ k = m at h
  unfold wrap64
  omega
theorem hasB_nat {n k : Nat} (hn : n < 4096) (hk : k < 12) : hasB (n : Int) (k : Int) = n.testBit k := by
  have h1 : inR (k : Int) 0 11 = true := inR_iff.2 ⟨by omega, by omega⟩
  rw [hasB_yes h1, Int.toNat_natCast]
  have e2 : (n : Int) / 2 ^ k = ((n / 2 ^ k : Nat) : Int) := by push_cast; rfl
  have hle : n / 2 ^ k ≤ n := Nat.div_le_self _ _
  rw [e2]
  generalize hq : n / 2 ^ k = q at hle ⊢
  have e1 : bits BinOp.and IntKind.i64 (q : Int) 1 = IntKind.i64.wrap ((BitVec.ofInt 64 (q : Int) &&& BitVec.ofInt 64 ((1 : Nat) : Int)).toNat : Int) := by unfold bits; rfl
  have e3 : (q : Nat) &&& 1 = q % 2 := Nat.and_one_is_mod q
  rw [e1, BitVec.toNat_and, BitVec.ofInt_natCast, BitVec.ofInt_natCast, BitVec.toNat_ofNat, BitVec.toNat_ofNat, Nat.mod_eq_of_lt (by omega), Nat.mod_eq_of_lt (by omega), e3]
  have h2 : q % 2 < 2 := Nat.mod_lt _ (by decide)
  have e4 : IntKind.i64.wrap ((q % 2 : Nat) : Int) = ((q % 2 : Nat) : Int) := IntWalk.i64_in _ (by omega)
  rw [e4, Nat.testBit_eq_decide_div_mod_eq, hq]
  rcases Nat.mod_two_eq_zero_or_one q with h | h <;> rw [h] <;> rfl
theorem or_nat {a b : Nat} (ha : a < 2 ^ 16) (hb : b < 2 ^ 16) : bits BinOp.or IntKind.i64 (a : Int) (b : Int) = ((a ||| b : Nat) : Int) := by
  have h := Nat.or_lt_two_pow ha hb
  have e1 : bits BinOp.or IntKind.i64 (a : Int) (b : Int) = IntKind.i64.wrap ((BitVec.ofInt 64 (a : Int) ||| BitVec.ofInt 64 (b : Int)).toNat : Int) := by unfold bits; rfl
  rw [e1, BitVec.toNat_or, BitVec.ofInt_natCast, BitVec.ofInt_natCast, BitVec.toNat_ofNat, BitVec.toNat_ofNat, Nat.mod_eq_of_lt (by omega), Nat.mod_eq_of_lt (by omega)]
  exact IntWalk.i64_in _ (by omega)
theorem low_eq {n : Nat} (hn : n < 4096) : ∀ k, k ≤ 12 → low (n : Int) k = ((n % 2 ^ k : Nat) : Int)
  | 0, _ => by rw [Nat.pow_zero, Nat.mod_one]; rfl
  | k + 1, hk => by
    have ih := low_eq hn k (by omega)
    have hp : 2 ^ k < 2 ^ 12 := Nat.pow_lt_pow_right (by decide) (by omega)
    have hm : n % 2 ^ k < 2 ^ k := Nat.mod_lt _ (Nat.pos_of_ne_zero (by intro h; have := Nat.pow_pos (n := k) (show 0 < 2 by decide); omega))
    have hs : n % 2 ^ (k + 1) = n % 2 ^ k + 2 ^ k * (n / 2 ^ k % 2) := Nat.mod_pow_succ
    show (if hasB (n : Int) (k : Int) = true then bits .or .i64 (low (n : Int) k) (wrap64 (2 ^ k)) else low (n : Int) k) = _
    rw [hasB_nat hn (by omega), ih, wrap_small k (by omega), hs, Nat.testBit_eq_decide_div_mod_eq]
    rcases Nat.mod_two_eq_zero_or_one (n / 2 ^ k) with h | h
    · rw [h, if_neg (by decide), Nat.mul_zero, Nat.add_zero]
    · rw [h, if_pos (by decide), or_nat (by omega) (by omega), Nat.mul_one]
      have e := Nat.two_pow_add_eq_or_of_lt hm 1
      rw [Nat.mul_one] at e
      rw [Nat.or_comm, ← e, Nat.add_comm]
theorem low_all {v : Int} (h0 : 0 ≤ v) (h1 : v ≤ 4095) : low v 12 = v := by
  obtain ⟨n, rfl⟩ : ∃ n : Nat, v = n := ⟨v.toNat, by omega⟩
  rw [low_eq (by omega) 12 (Nat.le_refl _), Nat.mod_eq_of_lt (by omega)]

/-! The program's way: the pieces, one after the other. -/
def stp (a : Int) (x : List UInt8) : Int := match pint 0 999999 x with
  | some n => withV a n
  | none => a
def setOf (L : List (List UInt8)) : Int := L.foldl stp 0
theorem num_data (k : Nat) : (num k).data.toList = itoa (k : Int) := rfl
theorem stp_num (a : Int) (k : Nat) (hk : k < 12) : stp a (num k).data.toList = bits .or .i64 a (wrap64 (2 ^ k)) := by
  have hp : pint 0 999999 (num k).data.toList = some (k : Int) := (pint_iff (by decide) (by decide)).2 ⟨by omega, by omega, rfl⟩
  unfold stp
  rw [hp]
  show withV a (k : Int) = _
  rw [withV_yes (inR_iff.2 ⟨by omega, by omega⟩), Int.toNat_natCast]
theorem fold_elems (v : Int) : ∀ k, k ≤ 12 → ((elems v k).map (·.data.toList)).foldl stp 0 = low v k
  | 0, _ => rfl
  | k + 1, hk => by
    have ih := fold_elems v k (by omega)
    cases h : hasB v (k : Int) with
    | false =>
      rw [elems_no h, ih]
      show low v k = (if hasB v (k : Int) = true then _ else _)
      rw [h]; rfl
    | true =>
      rw [elems_yes h, List.map_append, List.foldl_append, ih]
      show stp (low v k) (num k).data.toList = (if hasB v (k : Int) = true then _ else _)
      rw [h, if_pos rfl, stp_num _ k (by omega)]

theorem dig_free {l : List UInt8} {c : UInt8} (h : l.all dig = true) (hc : dig c = false) : c ∉ l := by
  intro hm
  have := List.all_eq_true.1 h c hm
  rw [hc] at this; cases this
theorem itoa_nat (k : Nat) : itoa (k : Int) = decDigits k := by
  unfold itoa
  rw [if_neg (by omega), Int.toNat_natCast]
theorem num_free (k : Nat) (c : UInt8) (hc : dig c = false) : c ∉ (num k).data.toList := by
  rw [num_data, itoa_nat]
  exact dig_free (digits_dig k) hc
theorem elems_num (v : Int) : ∀ k, ∀ s ∈ elems v k, ∃ j, j < k ∧ s = num j ∧ hasB v (j : Int) = true
  | 0, s, hs => by cases hs
  | k + 1, s, hs => by
    cases h : hasB v (k : Int) with
    | false =>
      rw [elems_no h] at hs
      obtain ⟨j, h1, h2⟩ := elems_num v k s hs
      exact ⟨j, by omega, h2⟩
    | true =>
      rw [elems_yes h] at hs
      rcases List.mem_append.1 hs with h' | h'
      · obtain ⟨j, h1, h2⟩ := elems_num v k s h'
        exact ⟨j, by omega, h2⟩
      · exact ⟨k, by omega, List.mem_singleton.1 h', h⟩
theorem elems_in (v : Int) : ∀ (k j : Nat), j < k → hasB v (j : Int) = true → num j ∈ elems v k
  | 0, j, hj, _ => absurd hj (Nat.not_lt_zero _)
  | k + 1, j, hj, h => by
    rcases Nat.lt_or_ge j k with h' | h'
    · have ih := elems_in v k j h' h
      cases hk : hasB v (k : Int) with
      | false => rw [elems_no hk]; exact ih
      | true => rw [elems_yes hk]; exact List.mem_append_left _ ih
    · obtain rfl : j = k := by omega
      rw [elems_yes h]
      exact List.mem_append_right _ (List.mem_singleton.2 rfl)
theorem sp_of_join (c : UInt8) : ∀ (x : List UInt8) (r : List (List UInt8)), (∀ y ∈ x :: r, c ∉ y) → sp c (join (x :: r) [c]) = x :: r
  | x, [], h => by rw [join_one]; exact sp_none c x (h x List.mem_cons_self)
  | x, y :: r, h => by
    have ih := sp_of_join c y r fun z hz => h z (List.mem_cons_of_mem _ hz)
    have e : join (x :: y :: r) [c] = x ++ c :: join (y :: r) [c] := by
      rw [join_cons, join_cons]
      unfold joinTail
      rw [List.map_cons, List.flatten_cons]
      simp
    rw [e, sp_seg c _ x (h x List.mem_cons_self), ih]
def els (v : Int) : List (List UInt8) := (elems v 12).map (·.data.toList)
theorem els_free (v : Int) (c : UInt8) (hc : dig c = false) : ∀ y ∈ els v, c ∉ y := by
  intro y hy
  obtain ⟨s, hs, rfl⟩ := List.mem_map.1 hy
  obtain ⟨j, _, rfl, _⟩ := elems_num v 12 s hs
  exact num_free j c hc
theorem sp_setB {v : Int} (h : els v ≠ []) : sp 32 (setB v) = els v := by
  have hf := els_free v 32 (by decide)
  show sp 32 (join (els v) [32]) = els v
  cases he : els v with
  | nil => exact absurd he h
  | cons x r => rw [he] at hf; exact sp_of_join 32 x r hf
theorem setB_none {v : Int} (h : els v = []) : setB v = [] := by
  show join (els v) [32] = []
  rw [h]; rfl
theorem joinTail_mem (sep : List UInt8) (c : UInt8) : ∀ r : List (List UInt8), c ∈ joinTail sep r → c ∈ sep ∨ ∃ y ∈ r, c ∈ y
  | [], h => by simp [joinTail] at h
  | y :: r, h => by
    unfold joinTail at h
    rw [List.map_cons, List.flatten_cons] at h
    rcases List.mem_append.1 h with h | h
    · rcases List.mem_append.1 h with h | h
      · exact .inl h
      · exact .inr ⟨y, List.mem_cons_self, h⟩
    · rcases joinTail_mem sep c r h with h | ⟨z, hz, h⟩
      · exact .inl h
      · exact .inr ⟨z, List.mem_cons_of_mem _ hz, h⟩
theorem setB_free (v : Int) (c : UInt8) (hc : dig c = false) (h32 : c ≠ 32) : c ∉ setB v := by
  have hf := els_free v c hc
  show c ∉ join (els v) [32]
  cases he : els v with
  | nil => exact List.not_mem_nil
  | cons x r =>
    rw [he] at hf
    rw [join_cons]
    intro h
    rcases List.mem_append.1 h with h | h
    · exact hf x List.mem_cons_self h
    · rcases joinTail_mem _ c r h with h | ⟨y, hy, h⟩
      · exact h32 (List.mem_singleton.1 h)
      · exact hf y (List.mem_cons_of_mem _ hy) h
theorem drop_none {p : UInt8 → Bool} {x : UInt8} {l : List UInt8} (h : p x = false) : (x :: l).dropWhile p = x :: l := by rw [List.dropWhile_cons, if_neg (by rw [h]; decide)]
theorem drop_one {p : UInt8 → Bool} {x : UInt8} {l : List UInt8} (h : p x = true) : (x :: l).dropWhile p = l.dropWhile p := by rw [List.dropWhile_cons, if_pos h]
theorem trim_braces (b : List UInt8) (h1 : (123 : UInt8) ∉ b) (h2 : (125 : UInt8) ∉ b) : trimS (123 :: b ++ [125]) [123, 125] = b := by
  have hc : ∀ x ∈ b, ([123, 125] : List UInt8).contains x = false := fun x hx => by
    rw [List.contains_eq_any_beq]
    simp only [List.any_cons, List.any_nil, Bool.or_false, Bool.or_eq_false_iff, beq_eq_false_iff_ne]
    exact ⟨fun e => h1 (e ▸ hx), fun e => h2 (e ▸ hx)⟩
  have hr : trimRightS (123 :: b ++ [125]) [123, 125] = (match b with | [] => [] | _ => 123 :: b) := by
    unfold trimRightS
    rw [List.reverse_append, List.reverse_singleton, List.singleton_append, drop_one (by decide), List.reverse_cons]
    cases hb : b.reverse with
    | nil =>
      obtain rfl : b = [] := by simpa using hb
      rfl
    | cons y ys =>
      have hy : y ∈ b := by rw [← List.mem_reverse, hb]; exact List.mem_cons_self
      have e : b ≠ [] := fun e => by rw [e] at hy; cases hy
      rw [List.cons_append, drop_none (hc y hy), ← List.cons_append, ← hb, List.reverse_append, List.reverse_singleton, List.reverse_reverse]
      cases b with
      | nil => exact absurd rfl e
      | cons z zs => rfl
  unfold trimS
  rw [hr]
  cases b with
  | nil => rfl
  | cons z zs =>
    show trimLeftS (123 :: z :: zs) [123, 125] = z :: zs
    unfold trimLeftS
    rw [drop_one (by decide), drop_none (hc z List.mem_cons_self)]

/-- What the program reads. -/
def readI (s : List UInt8) (k : Int) : Int :=
  if k = 1 then (pint (-999999999999) 999999999999 s).getD 0 else if k = 2 then setOf (sp 32 (trimS s [123, 125]))
  else if k = 3 then tr (decide (s = [116, 114, 117, 101])) else if k = 4 then (pint 0 999999 (trimPrefix s [35])).getD 0 else 0
/-- What the model reads. -/
def inS (s : List UInt8) (k : Nat) : Bool := decide (2 < s.length) && decide (itoa (k : Int) ∈ sp 32 ((s.drop 1).take (s.length - 2)))
def lowS (s : List UInt8) : Nat → Int
  | 0 => 0
  | k + 1 => if inS s k = true then bits .or .i64 (lowS s k) (wrap64 (2 ^ k)) else lowS s k
def readS (s : List UInt8) (k : Int) : Int :=
  if k = 1 then (pint (-999999999999) 999999999999 s).getD 0 else if k = 2 then lowS s 12
  else if k = 3 then tr (decide (s = [116, 114, 117, 101])) else if k = 4 then (if 1 < s.length then (pint 0 999999 (s.drop 1)).getD 0 else 0) else 0

theorem isOf_set {v : Int} (h : isOf v 2 = true) : 0 ≤ v ∧ v ≤ 4095 := by
  rw [isOf_yes (by decide)] at h
  have e : coe v 2 = v := by simpa using h
  have := coe_set v
  rw [e] at this
  exact this
theorem isOf_node {v : Int} (h : isOf v 4 = true) : 0 ≤ v ∧ v ≤ 999 := by
  rw [isOf_yes (by decide)] at h
  have e : coe v 4 = v := by simpa using h
  rw [coe_4] at e
  by_cases hr : inR v 0 999 = true
  · have := inR_iff.1 hr; omega
  · rw [if_neg hr] at e; omega
theorem els_low {v : Int} (h : els v = []) (h0 : 0 ≤ v) (h1 : v ≤ 4095) : v = 0 := by
  have e := fold_elems v 12 (Nat.le_refl _)
  rw [low_all h0 h1] at e
  unfold els at h
  rw [h] at e
  exact e.symm
theorem readI_set {v : Int} (h : isOf v 2 = true) : readI (ftyp v 2) 2 = v := by
  obtain ⟨h0, h1⟩ := isOf_set h
  rw [ftyp_2 h]
  unfold readI
  rw [if_neg (by decide), if_pos rfl, trim_braces _ (setB_free v 123 (by decide) (by decide)) (setB_free v 125 (by decide) (by decide))]
  by_cases he : els v = []
  · rw [setB_none he, els_low he h0 h1]
    decide
  · rw [sp_setB he]
    unfold setOf els
    rw [fold_elems v 12 (Nat.le_refl _), low_all h0 h1]
theorem readI_num {v : Int} (h : isOf v 1 = true) : readI (ftyp v 1) 1 = v := by
  have hr := isOf_range h
  rw [ftyp_1 h]
  unfold readI
  rw [if_pos rfl, (pint_iff (by decide) (by decide)).2 ⟨by omega, by omega, rfl⟩]
  rfl
theorem readI_truth {v : Int} (h : isOf v 3 = true) : readI (ftyp v 3) 3 = v := by
  rw [ftyp_3 h]
  unfold readI
  rw [if_neg (by decide), if_neg (by decide), if_pos rfl]
  rcases isOf_truth h with rfl | rfl <;> decide
theorem pint_none_none : pint 0 999999 [110, 111, 110, 101] = none := by decide
theorem pint_none_one : pint 0 999999 [111, 110, 101] = none := by decide
theorem readI_node {v : Int} (h : isOf v 4 = true) : readI (ftyp v 4) 4 = v := by
  obtain ⟨h0, h1⟩ := isOf_node h
  rw [ftyp_4 h]
  unfold readI
  rw [if_neg (by decide), if_neg (by decide), if_neg (by decide), if_pos rfl]
  by_cases hv : v = 0
  · subst hv
    rw [if_pos rfl, show trimPrefix [110, 111, 110, 101] [35] = [110, 111, 110, 101] by decide, pint_none_none]
    rfl
  · rw [if_neg hv, show trimPrefix (35 :: itoa v) [35] = itoa v by unfold trimPrefix; rw [if_pos (by unfold hasPrefix; simp)]; rfl, (pint_iff (by decide) (by decide)).2 ⟨by omega, by omega, rfl⟩]
    rfl
theorem readI_of {v k : Int} (h : isOf v k = true) : readI (ftyp v k) k = v := by
  rcases (by have := isOf_kind h; omega : k = 1 ∨ k = 2 ∨ k = 3 ∨ k = 4) with rfl | rfl | rfl | rfl
  · exact readI_num h
  · exact readI_set h
  · exact readI_truth h
  · exact readI_node h
theorem inS_set {v : Int} (h : isOf v 2 = true) {k : Nat} (hk : k < 12) : inS (ftyp v 2) k = hasB v (k : Int) := by
  rw [ftyp_2 h]
  unfold inS
  have hlen : (123 :: setB v ++ [125]).length = (setB v).length + 2 := by simp
  have hmid : ((123 :: setB v ++ [125]).drop 1).take ((123 :: setB v ++ [125]).length - 2) = setB v := by
    rw [hlen, Nat.add_sub_cancel]
    simp
  rw [hmid, hlen]
  by_cases he : els v = []
  · have hb : hasB v (k : Int) = false := by
      cases hb : hasB v (k : Int) with
      | false => rfl
      | true =>
        have := List.mem_map_of_mem (f := (·.data.toList)) (elems_in v 12 k hk hb)
        unfold els at he
        rw [he] at this; cases this
    rw [setB_none he, hb]
    rfl
  · rw [sp_setB he]
    have hne : setB v ≠ [] := by
      intro e
      have h1 := sp_setB he
      rw [e] at h1
      have h2 : ([] : List UInt8) ∈ els v := by rw [← h1]; exact List.mem_singleton.2 rfl
      obtain ⟨s, hs, hsd⟩ := List.mem_map.1 h2
      obtain ⟨j, _, rfl, _⟩ := elems_num v 12 s hs
      rw [num_data, itoa_nat] at hsd
      exact digits_ne j hsd
    have hl : 0 < (setB v).length := List.length_pos_iff.2 hne
    rw [decide_eq_true (show 2 < (setB v).length + 2 by omega), Bool.true_and]
    cases hb : hasB v (k : Int) with
    | true =>
      have hm : (num k).data.toList ∈ els v := List.mem_map_of_mem (f := fun x : ByteArray => x.data.toList) (elems_in v 12 k hk hb)
      rw [num_data] at hm
      exact decide_eq_true hm
    | false =>
      refine decide_eq_false fun hm => ?_
      obtain ⟨s, hs, hsd⟩ := List.mem_map.1 hm
      obtain ⟨j, hj, rfl, hjb⟩ := elems_num v 12 s hs
      have : (j : Int) = (k : Int) := itoa_inj (by omega) (by omega) (by omega) (by omega) (by rw [num_data] at hsd; exact hsd)
      rw [this, hb] at hjb; cases hjb
theorem lowS_set {v : Int} (h : isOf v 2 = true) : ∀ k, k ≤ 12 → lowS (ftyp v 2) k = low v k
  | 0, _ => rfl
  | k + 1, hk => by
    have ih := lowS_set h k (by omega)
    show (if inS (ftyp v 2) k = true then _ else _) = (if hasB v (k : Int) = true then _ else _)
    rw [inS_set h (by omega), ih]
theorem readS_of {v k : Int} (h : isOf v k = true) : readS (ftyp v k) k = v := by
  rcases (by have := isOf_kind h; omega : k = 1 ∨ k = 2 ∨ k = 3 ∨ k = 4) with rfl | rfl | rfl | rfl
  · have := readI_num h
    unfold readI at this
    rw [if_pos rfl] at this
    unfold readS
    rw [if_pos rfl]
    exact this
  · obtain ⟨h0, h1⟩ := isOf_set h
    unfold readS
    rw [if_neg (by decide), if_pos rfl, lowS_set h 12 (Nat.le_refl _), low_all h0 h1]
  · have := readI_truth h
    unfold readI at this
    rw [if_neg (by decide), if_neg (by decide), if_pos rfl] at this
    unfold readS
    rw [if_neg (by decide), if_neg (by decide), if_pos rfl]
    exact this
  · obtain ⟨h0, h1⟩ := isOf_node h
    rw [ftyp_4 h]
    unfold readS
    rw [if_neg (by decide), if_neg (by decide), if_neg (by decide), if_pos rfl]
    by_cases hv : v = 0
    · subst hv
      rw [if_pos rfl, if_pos (by decide)]
      show (pint 0 999999 [111, 110, 101]).getD 0 = 0
      rw [pint_none_one]
      rfl
    · obtain ⟨n, rfl⟩ : ∃ n : Nat, v = n := ⟨v.toNat, by omega⟩
      rw [if_neg hv, if_pos (by rw [itoa_nat]; have := List.length_pos_iff.2 (digits_ne n); simp only [List.length_cons]; omega)]
      show (pint 0 999999 (itoa (n : Int))).getD 0 = n
      rw [(pint_iff (by decide) (by decide)).2 ⟨by omega, by omega, rfl⟩]
      rfl
/-- A representation is not empty. -/
theorem ftyp_ne {v k : Int} (h : isOf v k = true) : ftyp v k ≠ [] := by
  rcases (by have := isOf_kind h; omega : k = 1 ∨ k = 2 ∨ k = 3 ∨ k = 4) with rfl | rfl | rfl | rfl
  · rw [ftyp_1 h]
    unfold itoa
    split
    · simp
    · exact digits_ne _
  · rw [ftyp_2 h]; simp
  · rw [ftyp_3 h]; split <;> simp
  · rw [ftyp_4 h]; split <;> simp

/-- Parsing: the value whose representation it is. -/
def ptyp (s : List UInt8) (k : Int) : Int × Bool := if isOf (readI s k) k = true ∧ ftyp (readI s k) k = s then (readI s k, true) else (0, false)
theorem ptyp_yes {s : List UInt8} {k : Int} (h1 : isOf (readI s k) k = true) (h2 : ftyp (readI s k) k = s) : ptyp s k = (readI s k, true) := if_pos ⟨h1, h2⟩
theorem ptyp_no1 {s : List UInt8} {k : Int} (h : isOf (readI s k) k = false) : ptyp s k = (0, false) := if_neg fun e => by rw [h] at e; cases e.1
theorem ptyp_no2 {s : List UInt8} {k : Int} (h : ftyp (readI s k) k ≠ s) : ptyp s k = (0, false) := if_neg fun e => h e.2
theorem ptyp_S_yes {s : List UInt8} {k : Int} (h0 : s ≠ []) (h : ftyp (readS s k) k = s) : ptyp s k = (readS s k, true) := by
  have h1 : isOf (readS s k) k = true := by
    cases hi : isOf (readS s k) k with
    | true => rfl
    | false => rw [ftyp_no hi] at h; exact absurd h.symm h0
  have h2 : readI s k = readS s k := by
    have := readI_of h1
    rw [h] at this
    exact this
  unfold ptyp
  rw [h2, if_pos ⟨h1, h⟩]
theorem ptyp_S_nil {k : Int} : ptyp [] k = (0, false) := if_neg fun e => ftyp_ne e.1 e.2
theorem ptyp_S_no {s : List UInt8} {k : Int} (h : ftyp (readS s k) k ≠ s) : ptyp s k = (0, false) := if_neg fun e => by
  have := readS_of e.1
  rw [e.2] at this
  rw [← this] at e
  exact h e.2
end Go.Proofs.YtgpmmlbinmdfmaaGreatDoor
