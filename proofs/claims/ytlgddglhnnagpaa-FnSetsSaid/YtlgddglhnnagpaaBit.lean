/-
  Plain facts on sets as bits, on coercion and on the operators. Nothing is walked here.
-/
import Derived.Test.YtlgddglhnnagpaaApply
namespace Go.Proofs.Ytlgddglhnnagpaa
open Go.ChangeShapes Go.WideShapes Go.ChangeAt Go.RowKit

def bvo (op : BinOp) (x y : BitVec 64) : BitVec 64 := match op with
  | .and => x &&& y
  | .or => x ||| y
  | .xor => x ^^^ y
  | _ => x &&& ~~~y
theorem bits_bvo (op : BinOp) (x y : Int) : bits op .i64 x y = IntKind.i64.wrap ((bvo op (BitVec.ofInt 64 x) (BitVec.ofInt 64 y)).toNat : Int) := by
  unfold bits bvo; cases op <;> rfl
theorem wrap_small (n : Nat) (h : n < 2 ^ 63) : IntKind.i64.wrap (n : Int) = n := IntWalk.i64_in _ (by omega)
theorem bv_back (z : BitVec 64) (h : z.toNat < 2 ^ 63) : BitVec.ofInt 64 (IntKind.i64.wrap (z.toNat : Int)) = z := by
  rw [wrap_small _ h, BitVec.ofInt_natCast, BitVec.ofNat_toNat, BitVec.setWidth_eq]
/-- A set, as bits. -/
def bv (x : Int) : BitVec 64 := BitVec.ofInt 64 x
theorem bv_lt {x : Int} (h0 : 0 ≤ x) (h1 : x ≤ 4095) : (bv x).toNat < 4096 := by
  obtain ⟨n, rfl⟩ : ∃ n : Nat, x = n := ⟨x.toNat, by omega⟩
  unfold bv
  rw [BitVec.ofInt_natCast, BitVec.toNat_ofNat]; omega
theorem bv_val {x : Int} (h0 : 0 ≤ x) (h1 : x ≤ 4095) : x = ((bv x).toNat : Int) := by
  obtain ⟨n, rfl⟩ : ∃ n : Nat, x = n := ⟨x.toNat, by omega⟩
  unfold bv
  rw [BitVec.ofInt_natCast, BitVec.toNat_ofNat]; omega
theorem bvo_lt (op : BinOp) {x y : BitVec 64} (hop : op = .or ∨ op = .and ∨ op = .andNot) (hx : x.toNat < 4096) (hy : y.toNat < 4096) : (bvo op x y).toNat < 4096 := by
  rcases hop with rfl | rfl | rfl
  · show (x ||| y).toNat < 4096
    rw [BitVec.toNat_or]; exact Nat.or_lt_two_pow (n := 12) hx hy
  · show (x &&& y).toNat < 4096
    rw [BitVec.toNat_and]; exact Nat.lt_of_le_of_lt Nat.and_le_left hx
  · show (x &&& ~~~y).toNat < 4096
    rw [BitVec.toNat_and]; exact Nat.lt_of_le_of_lt Nat.and_le_left hx
theorem set_op (op : BinOp) (hop : op = .or ∨ op = .and ∨ op = .andNot) {x y : Int} (hx : 0 ≤ x) (hx' : x ≤ 4095) (hy : 0 ≤ y) (hy' : y ≤ 4095) :
    bits op .i64 x y = ((bvo op (bv x) (bv y)).toNat : Int) ∧ bv (bits op .i64 x y) = bvo op (bv x) (bv y) ∧ 0 ≤ bits op .i64 x y ∧ bits op .i64 x y ≤ 4095 := by
  have h := bvo_lt op hop (bv_lt hx hx') (bv_lt hy hy')
  have e : bits op .i64 x y = ((bvo op (bv x) (bv y)).toNat : Int) := by
    rw [bits_bvo]; exact wrap_small _ (by unfold bv at h; omega)
  refine ⟨e, ?_, by omega, by omega⟩
  rw [bits_bvo]
  exact bv_back _ (by unfold bv at h; omega)
theorem bv_inj {x y : Int} (hx : 0 ≤ x) (hx' : x ≤ 4095) (hy : 0 ≤ y) (hy' : y ≤ 4095) (h : bv x = bv y) : x = y := by
  rw [bv_val hx hx', bv_val hy hy', h]
theorem or_comm {x y : Int} : bits .or .i64 x y = bits .or .i64 y x := by
  rw [bits_bvo, bits_bvo]; unfold bvo; dsimp only; rw [BitVec.or_comm]
theorem and_comm {x y : Int} : bits .and .i64 x y = bits .and .i64 y x := by
  rw [bits_bvo, bits_bvo]; unfold bvo; dsimp only; rw [BitVec.and_comm]
/-- What is in x is in y or is not. -/
theorem split_or {x y : Int} (hx : 0 ≤ x) (hx' : x ≤ 4095) (hy : 0 ≤ y) (hy' : y ≤ 4095) : bits .or .i64 (bits .andNot .i64 x y) (bits .and .i64 x y) = x := by
  obtain ⟨_, a2, a3, a4⟩ := set_op .andNot (Or.inr (Or.inr rfl)) hx hx' hy hy'
  obtain ⟨_, b2, b3, b4⟩ := set_op .and (Or.inr (Or.inl rfl)) hx hx' hy hy'
  obtain ⟨_, c2, c3, c4⟩ := set_op .or (Or.inl rfl) a3 a4 b3 b4
  refine bv_inj c3 c4 hx hx' ?_
  rw [c2, a2, b2]
  show (bv x &&& ~~~bv y) ||| (bv x &&& bv y) = bv x
  apply BitVec.eq_of_getLsbD_eq
  intro i hi
  simp only [BitVec.getLsbD_or, BitVec.getLsbD_and, BitVec.getLsbD_not, hi, decide_true, Bool.true_and]
  cases (bv x).getLsbD i <;> cases (bv y).getLsbD i <;> rfl
theorem split_and {x y : Int} (hx : 0 ≤ x) (hx' : x ≤ 4095) (hy : 0 ≤ y) (hy' : y ≤ 4095) : bits .and .i64 (bits .andNot .i64 x y) (bits .and .i64 x y) = 0 := by
  obtain ⟨_, a2, a3, a4⟩ := set_op .andNot (Or.inr (Or.inr rfl)) hx hx' hy hy'
  obtain ⟨_, b2, b3, b4⟩ := set_op .and (Or.inr (Or.inl rfl)) hx hx' hy hy'
  obtain ⟨_, c2, c3, c4⟩ := set_op .and (Or.inr (Or.inl rfl)) a3 a4 b3 b4
  refine bv_inj c3 c4 (by decide) (by decide) ?_
  rw [c2, a2, b2]
  show (bv x &&& ~~~bv y) &&& (bv x &&& bv y) = bv 0
  apply BitVec.eq_of_getLsbD_eq
  intro i hi
  have h0 : (bv 0).getLsbD i = false := by unfold bv; simp
  rw [h0]
  simp only [BitVec.getLsbD_and, BitVec.getLsbD_not, hi, decide_true, Bool.true_and]
  cases (bv x).getLsbD i <;> cases (bv y).getLsbD i <;> rfl
theorem and_4095 {x : Int} (hx : 0 ≤ x) (hx' : x ≤ 4095) : bits .and .i64 x 4095 = x := by
  obtain ⟨e, _, _, _⟩ := set_op .and (Or.inr (Or.inl rfl)) hx hx' (y := 4095) (by decide) (by decide)
  have hl := bv_lt hx hx'
  have h2 : (bv 4095).toNat = 2 ^ 12 - 1 := by decide
  rw [e]
  show ((bv x &&& bv 4095).toNat : Int) = x
  rw [BitVec.toNat_and, h2, Nat.and_two_pow_sub_one_eq_mod, Nat.mod_eq_of_lt hl]
  exact (bv_val hx hx').symm

theorem coe_idem (v k : Int) : coe (coe v k) k = coe v k := by
  by_cases h1 : k = 1
  · subst h1; rw [coe_1, coe_1]; exact sat_id (sat_le v).1 (sat_le v).2
  · by_cases h2 : k = 2
    · subst h2; exact and_4095 (coe_set v).1 (coe_set v).2
    · by_cases h3 : k = 3
      · subst h3; rw [coe_3, coe_3]; cases h : (v != 0) <;> rfl
      · by_cases h4 : k = 4
        · subst h4; rw [coe_4, coe_4]
          cases h : inR v 0 999
          · rfl
          · rw [if_pos rfl, h, if_pos rfl]
        · rw [coe_no h1 h2 h3 h4, coe_no h1 h2 h3 h4]
theorem coe_isOf {v k : Int} (h : inR k 1 4 = true) : isOf (coe v k) k = true := by
  rw [isOf_yes h, coe_idem]; exact beq_self_eq_true _
theorem isOf_coe {v k : Int} (h : inR k 1 4 = true) : isOf v k = (coe v k == v) := isOf_yes h
theorem oL_or (k : Int) : oL k = 0 ∨ oL k = 1 ∨ oL k = 2 := by unfold oL; split <;> (try split) <;> omega
theorem apl_coe (k a b : Int) : apl k (coe a (oL k)) (coe b (oR k)) = apl k a b := by unfold apl; rw [coe_idem, coe_idem]
theorem isOf_num {x : Int} (h : -1000000 ≤ x) (h' : x ≤ 1000000) : isOf x 1 = true := by
  unfold isOf; rw [coe_1, sat_id h h']; simp; rfl
theorem isOf_set {x : Int} (h : 0 ≤ x) (h' : x ≤ 4095) : isOf x 2 = true := by
  unfold isOf; rw [coe_2, and_4095 h h']; simp; rfl
theorem isOf_tr (b : Bool) : isOf (tr b) 3 = true := by cases b <;> rfl
theorem pow_set {n : Int} (h : inR n 0 11 = true) : wrap64 (2 ^ n.toNat) = 2 ^ n.toNat ∧ (0 : Int) ≤ 2 ^ n.toNat ∧ (2 : Int) ^ n.toNat ≤ 4095 := by
  obtain ⟨h0, h1⟩ := inR_iff.1 h
  obtain ⟨m, rfl⟩ : ∃ m : Nat, n = m := ⟨n.toNat, by omega⟩
  rw [Int.toNat_natCast]
  have hm : m < 12 := by omega
  match m, hm with
  | 0, _ | 1, _ | 2, _ | 3, _ | 4, _ | 5, _ | 6, _ | 7, _ | 8, _ | 9, _ | 10, _ | 11, _ => decide +kernel
theorem withV_set {a n : Int} (h : 0 ≤ a) (h' : a ≤ 4095) : 0 ≤ withV a n ∧ withV a n ≤ 4095 := by
  unfold withV
  cases hn : inR n 0 11
  · exact ⟨h, h'⟩
  · obtain ⟨e, p0, p1⟩ := pow_set hn
    rw [if_pos rfl, e]
    obtain ⟨_, _, h3, h4⟩ := set_op .or (Or.inl rfl) h h' p0 p1
    exact ⟨h3, h4⟩
theorem oO_zero {k : Int} (h : oO k = 0) : k < 1 ∨ 12 < k := by
  refine Classical.byContradiction fun hn => ?_
  unfold oO at h
  rw [if_pos (by omega)] at h
  split at h
  · omega
  · split at h <;> omega
theorem apl_1 (a b : Int) : apl 1 a b = sat ((coe a 1) + (coe b 1)) := by
  show opF 1 (coe a 1) (coe b 1) = _
  exact opF_1 _ _
theorem apl_2 (a b : Int) : apl 2 a b = sat ((coe a 1) - (coe b 1)) := by
  show opF 2 (coe a 1) (coe b 1) = _
  exact opF_2 _ _
theorem apl_3 (a b : Int) : apl 3 a b = sat ((coe a 1) * (coe b 1)) := by
  show opF 3 (coe a 1) (coe b 1) = _
  exact opF_3 _ _
theorem apl_4 (a b : Int) : apl 4 a b = mx (coe a 1) (coe b 1) := by
  show opF 4 (coe a 1) (coe b 1) = _
  exact opF_4 _ _
theorem apl_5 (a b : Int) : apl 5 a b = mn (coe a 1) (coe b 1) := by
  show opF 5 (coe a 1) (coe b 1) = _
  exact opF_5 _ _
theorem apl_6 (a b : Int) : apl 6 a b = bits .or .i64 (coe a 2) (coe b 2) := by
  show opF 6 (coe a 2) (coe b 2) = _
  exact opF_6 _ _
theorem apl_7 (a b : Int) : apl 7 a b = bits .and .i64 (coe a 2) (coe b 2) := by
  show opF 7 (coe a 2) (coe b 2) = _
  exact opF_7 _ _
theorem apl_8 (a b : Int) : apl 8 a b = bits .andNot .i64 (coe a 2) (coe b 2) := by
  show opF 8 (coe a 2) (coe b 2) = _
  exact opF_8 _ _
theorem apl_9 (a b : Int) : apl 9 a b = tr (decide ((coe a 1) < (coe b 1))) := by
  show opF 9 (coe a 1) (coe b 1) = _
  exact opF_9 _ _
theorem apl_10 (a b : Int) : apl 10 a b = tr ((coe a 1) == (coe b 1)) := by
  show opF 10 (coe a 1) (coe b 1) = _
  exact opF_10 _ _
theorem apl_11 (a b : Int) : apl 11 a b = tr (hasB (coe a 2) (coe b 1)) := by
  show opF 11 (coe a 2) (coe b 1) = _
  exact opF_11 _ _
theorem apl_12 (a b : Int) : apl 12 a b = withV (coe a 2) (coe b 1) := by
  show opF 12 (coe a 2) (coe b 1) = _
  exact opF_12 _ _
theorem apl_isOf (k a b : Int) (hk : 1 ≤ k) (hk' : k ≤ 12) : isOf (apl k a b) (oO k) = true := by
  rcases twelve (k := k) with h | rfl | rfl | rfl | rfl | rfl | rfl | rfl | rfl | rfl | rfl | rfl | rfl
  · omega
  · rw [apl_1, show oO 1 = 1 from rfl]
    exact isOf_num (sat_le _).1 (sat_le _).2
  · rw [apl_2, show oO 2 = 1 from rfl]
    exact isOf_num (sat_le _).1 (sat_le _).2
  · rw [apl_3, show oO 3 = 1 from rfl]
    exact isOf_num (sat_le _).1 (sat_le _).2
  · rw [apl_4, show oO 4 = 1 from rfl]
    have h1 := coe_num a; have h2 := coe_num b
    unfold mx; split
    · exact isOf_num h1.1 h1.2
    · exact isOf_num h2.1 h2.2
  · rw [apl_5, show oO 5 = 1 from rfl]
    have h1 := coe_num a; have h2 := coe_num b
    unfold mn; split
    · exact isOf_num h1.1 h1.2
    · exact isOf_num h2.1 h2.2
  · rw [apl_6, show oO 6 = 2 from rfl]
    obtain ⟨_, _, h3, h4⟩ := set_op .or (Or.inl rfl) (coe_set a).1 (coe_set a).2 (coe_set b).1 (coe_set b).2
    exact isOf_set h3 h4
  · rw [apl_7, show oO 7 = 2 from rfl]
    obtain ⟨_, _, h3, h4⟩ := set_op .and (Or.inr (Or.inl rfl)) (coe_set a).1 (coe_set a).2 (coe_set b).1 (coe_set b).2
    exact isOf_set h3 h4
  · rw [apl_8, show oO 8 = 2 from rfl]
    obtain ⟨_, _, h3, h4⟩ := set_op .andNot (Or.inr (Or.inr rfl)) (coe_set a).1 (coe_set a).2 (coe_set b).1 (coe_set b).2
    exact isOf_set h3 h4
  · rw [apl_9, show oO 9 = 3 from rfl]
    exact isOf_tr _
  · rw [apl_10, show oO 10 = 3 from rfl]
    exact isOf_tr _
  · rw [apl_11, show oO 11 = 3 from rfl]
    exact isOf_tr _
  · rw [apl_12, show oO 12 = 2 from rfl]
    have h := withV_set (n := coe b 1) (coe_set a).1 (coe_set a).2
    exact isOf_set h.1 h.2
theorem apl_sym {k : Int} (h : k = 1 ∨ k = 3 ∨ k = 4 ∨ k = 5 ∨ k = 6 ∨ k = 7 ∨ k = 10) (a b : Int) : apl k b a = apl k a b := by
  rcases h with rfl | rfl | rfl | rfl | rfl | rfl | rfl
  · rw [apl_1, apl_1, Int.add_comm]
  · rw [apl_3, apl_3, Int.mul_comm]
  · rw [apl_4, apl_4]; unfold mx; split <;> split <;> omega
  · rw [apl_5, apl_5]; unfold mn; split <;> split <;> omega
  · rw [apl_6, apl_6]; exact or_comm
  · rw [apl_7, apl_7]; exact and_comm
  · rw [apl_10, apl_10]
    congr 1
    rw [Bool.eq_iff_iff, beq_iff_eq, beq_iff_eq]
    exact eq_comm
/-- An element that was added is there. -/
theorem has_with {a n : Int} (h : 0 ≤ a) (h' : a ≤ 4095) (hn : inR n 0 11 = true) : hasB (withV a n) n = true := by
  rw [hasB_yes hn, withV_yes hn]
  obtain ⟨e, p0, p1⟩ := pow_set hn
  rw [e]
  obtain ⟨h0, h1⟩ := inR_iff.1 hn
  obtain ⟨m, rfl⟩ : ∃ m : Nat, n = m := ⟨n.toNat, by omega⟩
  rw [Int.toNat_natCast] at *
  obtain ⟨e1, _, _, _⟩ := set_op .or (Or.inl rfl) h h' p0 p1
  have hm : m < 12 := by omega
  obtain ⟨z, hz⟩ : ∃ z : Nat, (bvo .or (bv a) (bv (2 ^ m))).toNat = z := ⟨_, rfl⟩
  have hzl : z < 4096 := by rw [← hz]; exact bvo_lt .or (Or.inl rfl) (bv_lt h h') (bv_lt p0 p1)
  have hbit : z.testBit m = true := by
    rw [← hz]
    show ((bv a) ||| (bv (2 ^ m))).toNat.testBit m = true
    rw [BitVec.toNat_or, Nat.testBit_or]
    have : (bv (2 ^ m)).toNat = 2 ^ m := by
      unfold bv
      have e2 : ((2 : Int) ^ m) = ((2 ^ m : Nat) : Int) := by simp
      rw [e2, BitVec.ofInt_natCast, BitVec.toNat_ofNat]
      exact Nat.mod_eq_of_lt (Nat.pow_lt_pow_right (by decide) (by omega))
    rw [this, Nat.testBit_two_pow_self, Bool.or_true]
  rw [e1, hz]
  have e3 : ((z : Int) / 2 ^ m) = ((z / 2 ^ m : Nat) : Int) := by simp
  rw [e3]
  have hq : (z / 2 ^ m) % 2 = 1 := by
    rw [Nat.testBit_eq_decide_div_mod_eq] at hbit
    exact of_decide_eq_true hbit
  have hql : z / 2 ^ m < 4096 := Nat.lt_of_le_of_lt (Nat.div_le_self _ _) hzl
  generalize z / 2 ^ m = q at hq hql ⊢
  obtain ⟨e4, _, _, _⟩ := set_op .and (Or.inr (Or.inl rfl)) (x := (q : Int)) (by omega) (by omega) (y := 1) (by decide) (by decide)
  rw [e4]
  show (((bv (q : Int) &&& bv 1).toNat : Int) == 1) = true
  have h5 : (bv (q : Int)).toNat = q := by
    have := bv_val (x := (q : Int)) (by omega) (by omega)
    omega
  have h6 : (bv 1).toNat = 1 := by decide
  rw [BitVec.toNat_and, h5, h6, Nat.and_one_is_mod, hq]
  rfl
end Go.Proofs.Ytlgddglhnnagpaa
