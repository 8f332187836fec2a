/-
  CloseRelation in the model and in the program.
-/
import Derived.Test.YtkfonlejblcknaaUnion
namespace Go.Proofs.Ytkfonlejblcknaa
open Go.ChangeShapes Go.WideShapes Go.ChangeAt Go.RowKit Go.Deep

theorem or_in {x y : Int} {n : Nat} (hn : n ≤ 16) (hx : 0 ≤ x) (hx' : x < 2 ^ n) (hy : 0 ≤ y) (hy' : y < 2 ^ n) : 0 ≤ orI x y ∧ orI x y < 2 ^ n := by
  obtain ⟨a, rfl⟩ : ∃ a : Nat, x = a := ⟨x.toNat, by omega⟩
  obtain ⟨b, rfl⟩ : ∃ b : Nat, y = b := ⟨y.toNat, by omega⟩
  have e : ((2 ^ n : Nat) : Int) = (2 : Int) ^ n := by push_cast; rfl
  rw [← e] at hx' hy' ⊢
  have h16 : (2 : Nat) ^ n ≤ 2 ^ 16 := Nat.pow_le_pow_right (by decide) hn
  have ha : a < 2 ^ n := by omega
  have hb : b < 2 ^ n := by omega
  have h := Nat.or_lt_two_pow ha hb
  have hv : orI (a : Int) (b : Int) = ((a ||| b : Nat) : Int) := by
    unfold orI
    have e1 : bits BinOp.or IntKind.i64 (a : Int) (b : Int) = IntKind.i64.wrap ((BitVec.ofInt 64 (a : Int) ||| BitVec.ofInt 64 (b : Int)).toNat : Int) := by unfold bits; rfl
    rw [e1, BitVec.toNat_or, BitVec.ofInt_natCast, BitVec.ofInt_natCast, BitVec.toNat_ofNat, BitVec.toNat_ofNat, Nat.mod_eq_of_lt (by omega), Nat.mod_eq_of_lt (by omega)]
    exact IntWalk.i64_in _ (by omega)
  rw [hv]
  omega

/-- Row i takes what row k has, if it has k. -/
def stF (g : Nat → Int) (k i j : Nat) : Int := if j = i ∧ bitB (g i) k = true then orI (g i) (g k) else g j
def inF (g : Nat → Int) (k : Nat) : Nat → Nat → Int
  | 0 => g
  | i + 1 => stF (inF g k i) k i
def outF (g : Nat → Int) (n : Nat) : Nat → Nat → Int
  | 0 => g
  | k + 1 => inF (outF g n k) k n
theorem stF_yes {g : Nat → Int} {k i : Nat} (h : bitB (g i) k = true) : stF g k i i = orI (g i) (g k) := by unfold stF; rw [if_pos ⟨rfl, h⟩]
theorem stF_other {g : Nat → Int} {k i j : Nat} (h : j ≠ i) : stF g k i j = g j := by unfold stF; rw [if_neg (fun e => h e.1)]
theorem stF_no {g : Nat → Int} {k i j : Nat} (h : bitB (g i) k = false) : stF g k i j = g j := by unfold stF; rw [if_neg (fun e => by rw [h] at e; cases e.2)]
theorem stF_in {g : Nat → Int} {n k i : Nat} (hn : n ≤ 16) (hk : k < n) (hi : i < n) (h : ∀ j, j < n → 0 ≤ g j ∧ g j < 2 ^ n) : ∀ j, j < n → 0 ≤ stF g k i j ∧ stF g k i j < 2 ^ n := by
  intro j hj
  unfold stF
  split
  · exact or_in hn (h i hi).1 (h i hi).2 (h k hk).1 (h k hk).2
  · exact h j hj
def closeRel (r : DRelation) : DRelation := if relB r then ⟨r.fN, (List.range r.fRows.length).map (outF (fun j => r.fRows.getD j default) r.fRows.length r.fRows.length)⟩ else r
theorem closeRel_no {r : DRelation} (h : relB r = false) : closeRel r = r := by unfold closeRel; rw [h]; rfl
theorem closeRel_yes {r : DRelation} (h : relB r = true) : closeRel r = ⟨r.fN, (List.range r.fRows.length).map (outF (fun j => r.fRows.getD j default) r.fRows.length r.fRows.length)⟩ := by unfold closeRel; rw [h]; rfl
theorem closeRel_len (r : DRelation) : (closeRel r).fRows.length = r.fRows.length := by unfold closeRel; split <;> simp
theorem closeRel_N (r : DRelation) : (closeRel r).fN = r.fN := by unfold closeRel; split <;> rfl
theorem closeRel_sz {r : DRelation} (h : r.sz ≤ 1048576) : (closeRel r).sz ≤ 1048576 := by
  have h1 := rel_len h
  have h2 := closeRel_len r
  unfold DRelation.sz
  rw [lsz_zero]
  omega

set_option maxHeartbeats 1600000 in
set_option maxRecDepth 100000 in
theorem spec_CloseRelation {lo hi c0_0 : Nat} {a0 : Option Addr} (r : DRelation) (_ : r.ok) (hsz : r.sz ≤ 1048576) (w : World) (hhi : hi ≤ w.heap.size) (hs : Sl lo hi w 1 r.fRows.length (rowsI r.fRows) a0) :
    Calls Try.prog 14 #[.agg #[.int .i64 r.fN, .slice a0 r.fRows.length c0_0]] w (RelOut (closeRel r) w) := by
  have HL_r := Lib.hid (rel_len hsz)
  have HS_r := Lib.hid hs
  have HH := Lib.hid hhi
  clear hs hhi hsz
  have HB0 := Lib.hid (((Below.refl w.heap.size w).alloc (Nat.le_refl _) (.cells #[.int .i64 r.fN, .slice a0 r.fRows.length c0_0] 27)).alloc (by simp <;> omega) (.cells #[.int .i64 0, .slice none 0 0] 27))
  have HG0 := Lib.hid (show ((w.alloc (.cells #[.int .i64 r.fN, .slice a0 r.fRows.length c0_0] 27)).alloc (.cells #[.int .i64 0, .slice none 0 0] 27)).heap[w.heap.size + 1]? = some (.cells #[.int .i64 0, .slice none 0 0] 27) from blk_new (by simp))
  have HSZ0 := Lib.hid (show ((w.alloc (.cells #[.int .i64 r.fN, .slice a0 r.fRows.length c0_0] 27)).alloc (.cells #[.int .i64 0, .slice none 0 0] 27)).heap.size = w.heap.size + 2 by simp)
  cases hv : relB r with
  | false =>
    have HV := Lib.hid hv
    have fin := Lib.hid (closeRel_no hv)
    clear hv
    go_enter Try.func14, Try.ntmps14
    go_wp2_with fail
    refine (spec_copy (c0 := c0_0) r HL_r.out _ (Nat.le_trans HH.out HB0.out.size) (HS_r.out.later HB0.out HH.out)).mono ?_
    rintro e w1 ⟨a1, c1, rfl, ho1, hb1⟩
    have hst1 : Below (w.heap.size + 2) ((w.alloc (.cells #[.int .i64 r.fN, .slice a0 r.fRows.length c0_0] 27)).alloc (.cells #[.int .i64 0, .slice none 0 0] 27)) w1 := hb1.mono (Nat.le_of_eq HSZ0.out.symm)
    have sz1_r : w.heap.size < w1.heap.size := Nat.lt_of_lt_of_le (by show w.heap.size < w.heap.size + 2; omega) (Nat.le_trans (Nat.le_of_eq HSZ0.out.symm) hst1.size)
    have bx1_r_0 : w1.cell? ⟨w.heap.size, 0, none⟩ = some (.int .i64 r.fN) := (hst1.cell (p := ⟨w.heap.size, 0, none⟩) (by show w.heap.size < w.heap.size + 2; omega)).trans (by go_simp)
    have bx1_r_1 : w1.cell? ⟨w.heap.size, 1, none⟩ = some (.slice a0 r.fRows.length c0_0) := (hst1.cell (p := ⟨w.heap.size, 1, none⟩) (by show w.heap.size < w.heap.size + 2; omega)).trans (by go_simp)
    have sz1_z : w.heap.size + 1 < w1.heap.size := Nat.lt_of_lt_of_le (by show w.heap.size + 1 < w.heap.size + 2; omega) (Nat.le_trans (Nat.le_of_eq HSZ0.out.symm) hst1.size)
    have bx1_z_0 : w1.cell? ⟨w.heap.size + 1, 0, none⟩ = some (.int .i64 0) := (hst1.cell (p := ⟨w.heap.size + 1, 0, none⟩) (by show w.heap.size + 1 < w.heap.size + 2; omega)).trans (by go_simp)
    have fz1_z_0 : w1.frozen? ⟨w.heap.size + 1, 0, none⟩ = false := (hst1.frozen (p := ⟨w.heap.size + 1, 0, none⟩) (by show w.heap.size + 1 < w.heap.size + 2; omega)).trans (by go_simp)
    have bx1_z_1 : w1.cell? ⟨w.heap.size + 1, 1, none⟩ = some (.slice none 0 0) := (hst1.cell (p := ⟨w.heap.size + 1, 1, none⟩) (by show w.heap.size + 1 < w.heap.size + 2; omega)).trans (by go_simp)
    have fz1_z_1 : w1.frozen? ⟨w.heap.size + 1, 1, none⟩ = false := (hst1.frozen (p := ⟨w.heap.size + 1, 1, none⟩) (by show w.heap.size + 1 < w.heap.size + 2; omega)).trans (by go_simp)
    have HG1 := Lib.hid ((hst1.block (w.heap.size + 1) (by omega)).trans HG0.out)
    have HO1 := Lib.hid (ho1.sub (F' := fun y => w.heap.size + 2 ≤ y ∧ y < w1.heap.size) (fun y hy => ⟨Nat.le_trans (Nat.le_of_eq HSZ0.out.symm) hy.1, hy.2⟩))
    clear ho1
    have HB1 := Lib.hid (HB0.out.trans (hb1.mono HB0.out.size))
    clear hb1 hst1
    go_wp2_with fail
    refine (spec_relValid (c0 := c0_0) r HL_r.out false HV.out _ (Nat.le_trans HH.out (Nat.le_trans HB1.out.size (Below.size (by repeat (first | (with_reducible exact Below.refl _ _) | (with_reducible apply Below.drew) | (with_reducible refine below_drewN ?_ _) | (refine Below.setCell ?_ (by simp <;> omega) _) | (refine Below.alloc ?_ (by simp <;> omega) _)) : Below w1.heap.size w1 _)))) (HS_r.out.later (HB1.out.trans ((by repeat (first | (with_reducible exact Below.refl _ _) | (with_reducible apply Below.drew) | (with_reducible refine below_drewN ?_ _) | (refine Below.setCell ?_ (by simp <;> omega) _) | (refine Below.alloc ?_ (by simp <;> omega) _)) : Below w1.heap.size w1 _).mono HB1.out.size)) HH.out)).mono ?_
    rintro e w2 ⟨rfl, hb2⟩
    have hst2 : Below w1.heap.size w1 w2 := Below.trans (by repeat (first | (with_reducible exact Below.refl _ _) | (with_reducible apply Below.drew) | (with_reducible refine below_drewN ?_ _) | (refine Below.setCell ?_ (by simp <;> omega) _) | (refine Below.alloc ?_ (by simp <;> omega) _)) : Below w1.heap.size w1 _) (hb2.mono (Below.size (by repeat (first | (with_reducible exact Below.refl _ _) | (with_reducible apply Below.drew) | (with_reducible refine below_drewN ?_ _) | (refine Below.setCell ?_ (by simp <;> omega) _) | (refine Below.alloc ?_ (by simp <;> omega) _)) : Below w1.heap.size w1 _)))
    have sz2_r : w.heap.size < w2.heap.size := Nat.lt_of_lt_of_le sz1_r hst2.size
    have bx2_r_0 : w2.cell? ⟨w.heap.size, 0, none⟩ = some (.int .i64 r.fN) := (hst2.cell (p := ⟨w.heap.size, 0, none⟩) sz1_r).trans bx1_r_0
    have bx2_r_1 : w2.cell? ⟨w.heap.size, 1, none⟩ = some (.slice a0 r.fRows.length c0_0) := (hst2.cell (p := ⟨w.heap.size, 1, none⟩) sz1_r).trans bx1_r_1
    have sz2_z : w.heap.size + 1 < w2.heap.size := Nat.lt_of_lt_of_le sz1_z hst2.size
    have bx2_z_0 : w2.cell? ⟨w.heap.size + 1, 0, none⟩ = some (.int .i64 0) := (hst2.cell (p := ⟨w.heap.size + 1, 0, none⟩) sz1_z).trans bx1_z_0
    have fz2_z_0 : w2.frozen? ⟨w.heap.size + 1, 0, none⟩ = false := (hst2.frozen (p := ⟨w.heap.size + 1, 0, none⟩) sz1_z).trans fz1_z_0
    have bx2_z_1 : w2.cell? ⟨w.heap.size + 1, 1, none⟩ = some (.slice none 0 0) := (hst2.cell (p := ⟨w.heap.size + 1, 1, none⟩) sz1_z).trans bx1_z_1
    have fz2_z_1 : w2.frozen? ⟨w.heap.size + 1, 1, none⟩ = false := (hst2.frozen (p := ⟨w.heap.size + 1, 1, none⟩) sz1_z).trans fz1_z_1
    have sz2_x : w1.heap.size < w2.heap.size := Nat.lt_of_lt_of_le (by first | omega | (simp; done) | (simp; omega) | (simp [World.setCell]; omega)) hb2.size
    have bx2_x_0 : w2.cell? ⟨w1.heap.size, 0, none⟩ = some (.int .i64 r.fN) := (hb2.cell (p := ⟨w1.heap.size, 0, none⟩) (by first | omega | (simp; done) | (simp; omega) | (simp [World.setCell]; omega))).trans (by go_simp)
    have bx2_x_1 : w2.cell? ⟨w1.heap.size, 1, none⟩ = some (.slice a1 r.fRows.length c1) := (hb2.cell (p := ⟨w1.heap.size, 1, none⟩) (by first | omega | (simp; done) | (simp; omega) | (simp [World.setCell]; omega))).trans (by go_simp)
    have HG2 := Lib.hid ((hst2.block (w.heap.size + 1) sz1_z).trans HG1.out)
    have HO2 := Lib.hid (HO1.out.kept (Kept.of_below_all hst2))
    have HB2 := Lib.hid (HB1.out.trans (hst2.mono HB1.out.size))
    have hr2 : w1.heap.size ≤ w2.heap.size := hst2.size
    clear hb2 hst2 bx1_r_0 bx1_r_1 sz1_r bx1_z_0 bx1_z_1 sz1_z fz1_z_0 fz1_z_1
    go_wp2
    refine bodyPost_ret (v := .agg #[.int .i64 r.fN, .slice a1 r.fRows.length c1]) (results_cell_row Try.results14 _ _ (w.heap.size + 1) 27 #[.int .i64 r.fN, .slice a1 r.fRows.length c1] (0, 0) _ rfl (by refine Eq.trans (blk_set (cs := #[.int .i64 r.fN, .slice none 0 0]) (t := 27) (fr := (0, 0)) ?_) rfl; refine Eq.trans (blk_set (cs := #[.int .i64 0, .slice none 0 0]) (t := 27) (fr := (0, 0)) ?_) rfl; repeat (first | (with_reducible exact HG2.out) | (refine blk_other (by dsimp only; omega) ?_))) Try.underlying27 rfl rfl) rfl ?_
    rw [fin.out]
    refine ⟨a1, c1, rfl, ?_, ?_⟩
    · refine Own.sub (F := fun y => w.heap.size + 2 ≤ y ∧ y < w1.heap.size) (Own.kept (HO2.out) ?_) (fun y hy => ⟨Nat.le_trans (by omega) hy.1, Nat.lt_of_lt_of_le hy.2 (by first | (simp; done) | (simp; omega))⟩)
      repeat (first | (with_reducible exact Kept.refl) | (with_reducible apply Kept.drew) | (with_reducible apply Kept.drewN) | (refine Kept.put ?_ (by intro h; have h1 := h.1; dsimp only at h1; omega)))
    · repeat (first | (with_reducible exact HB2.out) | (with_reducible apply Below.drew) | (with_reducible refine below_drewN ?_ _) | (refine Below.setCell ?_ (by simp <;> omega) _) | (refine Below.alloc ?_ (by simp <;> omega) _))
  | true =>
    have HV := Lib.hid hv
    have fin := Lib.hid (closeRel_yes hv)
    obtain ⟨n, hn16, hrN, hrl, hrows⟩ := relB_parts hv
    have HRN := Lib.hid hrN
    have HRL := Lib.hid hrl
    have HRW := Lib.hid hrows
    clear hv hrN hrl hrows
    have hN1 : 0 ≤ r.fN ∧ r.fN ≤ 16 := by have h := HRN.out; omega
    go_enter Try.func14, Try.ntmps14
    go_wp2_with fail
    refine (spec_copy (c0 := c0_0) r HL_r.out _ (Nat.le_trans HH.out HB0.out.size) (HS_r.out.later HB0.out HH.out)).mono ?_
    rintro e w1 ⟨a1, c1, rfl, ho1, hb1⟩
    have hst1 : Below (w.heap.size + 2) ((w.alloc (.cells #[.int .i64 r.fN, .slice a0 r.fRows.length c0_0] 27)).alloc (.cells #[.int .i64 0, .slice none 0 0] 27)) w1 := hb1.mono (Nat.le_of_eq HSZ0.out.symm)
    have sz1_r : w.heap.size < w1.heap.size := Nat.lt_of_lt_of_le (by show w.heap.size < w.heap.size + 2; omega) (Nat.le_trans (Nat.le_of_eq HSZ0.out.symm) hst1.size)
    have bx1_r_0 : w1.cell? ⟨w.heap.size, 0, none⟩ = some (.int .i64 r.fN) := (hst1.cell (p := ⟨w.heap.size, 0, none⟩) (by show w.heap.size < w.heap.size + 2; omega)).trans (by go_simp)
    have bx1_r_1 : w1.cell? ⟨w.heap.size, 1, none⟩ = some (.slice a0 r.fRows.length c0_0) := (hst1.cell (p := ⟨w.heap.size, 1, none⟩) (by show w.heap.size < w.heap.size + 2; omega)).trans (by go_simp)
    have sz1_z : w.heap.size + 1 < w1.heap.size := Nat.lt_of_lt_of_le (by show w.heap.size + 1 < w.heap.size + 2; omega) (Nat.le_trans (Nat.le_of_eq HSZ0.out.symm) hst1.size)
    have bx1_z_0 : w1.cell? ⟨w.heap.size + 1, 0, none⟩ = some (.int .i64 0) := (hst1.cell (p := ⟨w.heap.size + 1, 0, none⟩) (by show w.heap.size + 1 < w.heap.size + 2; omega)).trans (by go_simp)
    have fz1_z_0 : w1.frozen? ⟨w.heap.size + 1, 0, none⟩ = false := (hst1.frozen (p := ⟨w.heap.size + 1, 0, none⟩) (by show w.heap.size + 1 < w.heap.size + 2; omega)).trans (by go_simp)
    have bx1_z_1 : w1.cell? ⟨w.heap.size + 1, 1, none⟩ = some (.slice none 0 0) := (hst1.cell (p := ⟨w.heap.size + 1, 1, none⟩) (by show w.heap.size + 1 < w.heap.size + 2; omega)).trans (by go_simp)
    have fz1_z_1 : w1.frozen? ⟨w.heap.size + 1, 1, none⟩ = false := (hst1.frozen (p := ⟨w.heap.size + 1, 1, none⟩) (by show w.heap.size + 1 < w.heap.size + 2; omega)).trans (by go_simp)
    have HG1 := Lib.hid ((hst1.block (w.heap.size + 1) (by omega)).trans HG0.out)
    have HO1 := Lib.hid (ho1.sub (F' := fun y => w.heap.size + 2 ≤ y ∧ y < w1.heap.size) (fun y hy => ⟨Nat.le_trans (Nat.le_of_eq HSZ0.out.symm) hy.1, hy.2⟩))
    clear ho1
    have HB1 := Lib.hid (HB0.out.trans (hb1.mono HB0.out.size))
    clear hb1 hst1
    go_wp2_with fail
    refine (spec_relValid (c0 := c0_0) r HL_r.out true HV.out _ (Nat.le_trans HH.out (Nat.le_trans HB1.out.size (Below.size (by repeat (first | (with_reducible exact Below.refl _ _) | (with_reducible apply Below.drew) | (with_reducible refine below_drewN ?_ _) | (refine Below.setCell ?_ (by simp <;> omega) _) | (refine Below.alloc ?_ (by simp <;> omega) _)) : Below w1.heap.size w1 _)))) (HS_r.out.later (HB1.out.trans ((by repeat (first | (with_reducible exact Below.refl _ _) | (with_reducible apply Below.drew) | (with_reducible refine below_drewN ?_ _) | (refine Below.setCell ?_ (by simp <;> omega) _) | (refine Below.alloc ?_ (by simp <;> omega) _)) : Below w1.heap.size w1 _).mono HB1.out.size)) HH.out)).mono ?_
    rintro e w2 ⟨rfl, hb2⟩
    have hst2 : Below w1.heap.size w1 w2 := Below.trans (by repeat (first | (with_reducible exact Below.refl _ _) | (with_reducible apply Below.drew) | (with_reducible refine below_drewN ?_ _) | (refine Below.setCell ?_ (by simp <;> omega) _) | (refine Below.alloc ?_ (by simp <;> omega) _)) : Below w1.heap.size w1 _) (hb2.mono (Below.size (by repeat (first | (with_reducible exact Below.refl _ _) | (with_reducible apply Below.drew) | (with_reducible refine below_drewN ?_ _) | (refine Below.setCell ?_ (by simp <;> omega) _) | (refine Below.alloc ?_ (by simp <;> omega) _)) : Below w1.heap.size w1 _)))
    have sz2_r : w.heap.size < w2.heap.size := Nat.lt_of_lt_of_le sz1_r hst2.size
    have bx2_r_0 : w2.cell? ⟨w.heap.size, 0, none⟩ = some (.int .i64 r.fN) := (hst2.cell (p := ⟨w.heap.size, 0, none⟩) sz1_r).trans bx1_r_0
    have bx2_r_1 : w2.cell? ⟨w.heap.size, 1, none⟩ = some (.slice a0 r.fRows.length c0_0) := (hst2.cell (p := ⟨w.heap.size, 1, none⟩) sz1_r).trans bx1_r_1
    have sz2_z : w.heap.size + 1 < w2.heap.size := Nat.lt_of_lt_of_le sz1_z hst2.size
    have bx2_z_0 : w2.cell? ⟨w.heap.size + 1, 0, none⟩ = some (.int .i64 0) := (hst2.cell (p := ⟨w.heap.size + 1, 0, none⟩) sz1_z).trans bx1_z_0
    have fz2_z_0 : w2.frozen? ⟨w.heap.size + 1, 0, none⟩ = false := (hst2.frozen (p := ⟨w.heap.size + 1, 0, none⟩) sz1_z).trans fz1_z_0
    have bx2_z_1 : w2.cell? ⟨w.heap.size + 1, 1, none⟩ = some (.slice none 0 0) := (hst2.cell (p := ⟨w.heap.size + 1, 1, none⟩) sz1_z).trans bx1_z_1
    have fz2_z_1 : w2.frozen? ⟨w.heap.size + 1, 1, none⟩ = false := (hst2.frozen (p := ⟨w.heap.size + 1, 1, none⟩) sz1_z).trans fz1_z_1
    have sz2_x : w1.heap.size < w2.heap.size := Nat.lt_of_lt_of_le (by first | omega | (simp; done) | (simp; omega) | (simp [World.setCell]; omega)) hb2.size
    have bx2_x_0 : w2.cell? ⟨w1.heap.size, 0, none⟩ = some (.int .i64 r.fN) := (hb2.cell (p := ⟨w1.heap.size, 0, none⟩) (by first | omega | (simp; done) | (simp; omega) | (simp [World.setCell]; omega))).trans (by go_simp)
    have bx2_x_1 : w2.cell? ⟨w1.heap.size, 1, none⟩ = some (.slice a1 r.fRows.length c1) := (hb2.cell (p := ⟨w1.heap.size, 1, none⟩) (by first | omega | (simp; done) | (simp; omega) | (simp [World.setCell]; omega))).trans (by go_simp)
    have HG2 := Lib.hid ((hst2.block (w.heap.size + 1) sz1_z).trans HG1.out)
    have HO2 := Lib.hid (HO1.out.kept (Kept.of_below_all hst2))
    have HB2 := Lib.hid (HB1.out.trans (hst2.mono HB1.out.size))
    have hr2 : w1.heap.size ≤ w2.heap.size := hst2.size
    clear hb2 hst2 bx1_r_0 bx1_r_1 sz1_r bx1_z_0 bx1_z_1 sz1_z fz1_z_0 fz1_z_1
    have HO := Lib.hid (show Own w2 (fun y => w.heap.size + 2 ≤ y ∧ y < w1.heap.size) (.sl 1 r.fRows.length (fun j => ictI (outF (fun j => r.fRows.getD j default) r.fRows.length 0 j))) (.slice a1 r.fRows.length c1) from HO2.out)
    have HG0F := Lib.hid (show ∀ j, j < n → 0 ≤ outF (fun j => r.fRows.getD j default) r.fRows.length 0 j ∧ outF (fun j => r.fRows.getD j default) r.fRows.length 0 j < 2 ^ n from HRW.out)
    go_wp2
    go_loopw [4] (fun i wr => ∃ k : Nat, k ≤ n ∧ i = .int .i64 (k : Int) ∧ Own wr (fun y => w.heap.size + 2 ≤ y ∧ y < w1.heap.size) (.sl 1 r.fRows.length (fun j => ictI (outF (fun j => r.fRows.getD j default) r.fRows.length k j))) (.slice a1 r.fRows.length c1) ∧ (∀ j, j < n → 0 ≤ outF (fun j => r.fRows.getD j default) r.fRows.length k j ∧ outF (fun j => r.fRows.getD j default) r.fRows.length k j < 2 ^ n) ∧ WritesF (fun y => w.heap.size + 2 ≤ y ∧ y < w1.heap.size) w2 wr) (fun i _ => n - (intOf i).toNat)
    case atStart => exact ⟨0, Nat.zero_le _, rfl, HO.out, HG0F.out, WritesF.refl _ _⟩
    case round =>
      obtain ⟨k, hk, rfl, hown, hin, hwr⟩ := hrel
      obtain ⟨wo, rfl⟩ : ∃ wo : World, wo = wr := ⟨_, rfl⟩
      have qwo_r : wo.cell? ⟨w.heap.size, 0, none⟩ = some (.int .i64 r.fN) := (hwr.cell (p := ⟨w.heap.size, 0, none⟩) sz2_r (by intro h; have h1 := h.1; have h2 := h.2; dsimp only at h1 h2; omega)).trans bx2_r_0
      have qwo_x0 : wo.cell? ⟨w1.heap.size, 0, none⟩ = some (.int .i64 r.fN) := (hwr.cell (p := ⟨w1.heap.size, 0, none⟩) sz2_x (by intro h; have h1 := h.1; have h2 := h.2; dsimp only at h1 h2; omega)).trans bx2_x_0
      have qwo_x1 : wo.cell? ⟨w1.heap.size, 1, none⟩ = some (.slice a1 r.fRows.length c1) := (hwr.cell (p := ⟨w1.heap.size, 1, none⟩) sz2_x (by intro h; have h1 := h.1; have h2 := h.2; dsimp only at h1 h2; omega)).trans bx2_x_1
      have qwo_z0 : wo.cell? ⟨w.heap.size + 1, 0, none⟩ = some (.int .i64 0) := (hwr.cell (p := ⟨w.heap.size + 1, 0, none⟩) sz2_z (by intro h; have h1 := h.1; have h2 := h.2; dsimp only at h1 h2; omega)).trans bx2_z_0
      have qwo_z1 : wo.cell? ⟨w.heap.size + 1, 1, none⟩ = some (.slice none 0 0) := (hwr.cell (p := ⟨w.heap.size + 1, 1, none⟩) sz2_z (by intro h; have h1 := h.1; have h2 := h.2; dsimp only at h1 h2; omega)).trans bx2_z_1
      have qwo_f0 : wo.frozen? ⟨w.heap.size + 1, 0, none⟩ = false := (hwr.frozen (p := ⟨w.heap.size + 1, 0, none⟩) sz2_z (by intro h; have h1 := h.1; dsimp only at h1; omega)).trans fz2_z_0
      have qwo_f1 : wo.frozen? ⟨w.heap.size + 1, 1, none⟩ = false := (hwr.frozen (p := ⟨w.heap.size + 1, 1, none⟩) sz2_z (by intro h; have h1 := h.1; dsimp only at h1; omega)).trans fz2_z_1
      have HWO := Lib.hid hwr
      have HOO := Lib.hid hown
      have HIN := Lib.hid hin
      have HGO := Lib.hid ((hwr.block (w.heap.size + 1) sz2_z (by intro h; have h1 := h.1; omega)).trans HG2.out)
      have HBO := Lib.hid (HB2.out.trans (hwr.below (fun y hy => by have h1 := hy.1; omega) HB2.out.size))
      have hszo : w2.heap.size ≤ wo.heap.size := hwr.size
      clear hown hwr hin
      by_cases hlt : k < n
      · have hltN : (k : Int) < r.fN := by have h := HRN.out; omega
        go_wp2
        go_loopw [5] (fun i wr => ∃ t : Nat, t ≤ n ∧ i = .int .i64 (t : Int) ∧ Own wr (fun y => w.heap.size + 2 ≤ y ∧ y < w1.heap.size) (.sl 1 r.fRows.length (fun j => ictI (inF (outF (fun j => r.fRows.getD j default) r.fRows.length k) k t j))) (.slice a1 r.fRows.length c1) ∧ (∀ j, j < n → 0 ≤ inF (outF (fun j => r.fRows.getD j default) r.fRows.length k) k t j ∧ inF (outF (fun j => r.fRows.getD j default) r.fRows.length k) k t j < 2 ^ n) ∧ WritesF (fun y => w.heap.size + 2 ≤ y ∧ y < w1.heap.size) w2 wr) (fun i _ => n - (intOf i).toNat)
        case atStart => exact ⟨0, Nat.zero_le _, rfl, HOO.out, HIN.out, HWO.out⟩
        case round =>
          obtain ⟨t, ht, rfl, hown, hin, hwr⟩ := hrel
          clear qwo_r qwo_x0 qwo_x1 qwo_z0 qwo_z1 qwo_f0 qwo_f1 hszo
          have qwr_r : wr.cell? ⟨w.heap.size, 0, none⟩ = some (.int .i64 r.fN) := (hwr.cell (p := ⟨w.heap.size, 0, none⟩) sz2_r (by intro h; have h1 := h.1; have h2 := h.2; dsimp only at h1 h2; omega)).trans bx2_r_0
          have qwr_x0 : wr.cell? ⟨w1.heap.size, 0, none⟩ = some (.int .i64 r.fN) := (hwr.cell (p := ⟨w1.heap.size, 0, none⟩) sz2_x (by intro h; have h1 := h.1; have h2 := h.2; dsimp only at h1 h2; omega)).trans bx2_x_0
          have qwr_x1 : wr.cell? ⟨w1.heap.size, 1, none⟩ = some (.slice a1 r.fRows.length c1) := (hwr.cell (p := ⟨w1.heap.size, 1, none⟩) sz2_x (by intro h; have h1 := h.1; have h2 := h.2; dsimp only at h1 h2; omega)).trans bx2_x_1
          have qwr_z0 : wr.cell? ⟨w.heap.size + 1, 0, none⟩ = some (.int .i64 0) := (hwr.cell (p := ⟨w.heap.size + 1, 0, none⟩) sz2_z (by intro h; have h1 := h.1; have h2 := h.2; dsimp only at h1 h2; omega)).trans bx2_z_0
          have qwr_z1 : wr.cell? ⟨w.heap.size + 1, 1, none⟩ = some (.slice none 0 0) := (hwr.cell (p := ⟨w.heap.size + 1, 1, none⟩) sz2_z (by intro h; have h1 := h.1; have h2 := h.2; dsimp only at h1 h2; omega)).trans bx2_z_1
          have qwr_f0 : wr.frozen? ⟨w.heap.size + 1, 0, none⟩ = false := (hwr.frozen (p := ⟨w.heap.size + 1, 0, none⟩) sz2_z (by intro h; have h1 := h.1; dsimp only at h1; omega)).trans fz2_z_0
          have qwr_f1 : wr.frozen? ⟨w.heap.size + 1, 1, none⟩ = false := (hwr.frozen (p := ⟨w.heap.size + 1, 1, none⟩) sz2_z (by intro h; have h1 := h.1; dsimp only at h1; omega)).trans fz2_z_1
          have HWR := Lib.hid hwr
          have HOR := Lib.hid hown
          have HINR := Lib.hid hin
          have hszr : w2.heap.size ≤ wr.heap.size := hwr.size
          clear hown hwr hin
          by_cases hltt : t < n
          · have htN : (t : Int) < r.fN := by have h := HRN.out; omega
            have htl : t < r.fRows.length := by have h := HRL.out; omega
            have hkl : k < r.fRows.length := by have h := HRL.out; omega
            obtain ⟨bb, off, rfl, hFb, hbl, hcs, hzs⟩ := ownf_at HOR.out (by omega)
            have hFb1 : w.heap.size + 2 ≤ bb := hFb.1
            have hFb2 : bb < w1.heap.size := hFb.2
            have hrow := hcs t htl
            have hrowk := hcs k hkl
            have hrz := hzs (off + t)
            have hi1 := HINR.out t hltt
            have hi2 := HINR.out k hlt
            have hp := pow_in hn16
            have HNEXT := Lib.hid (stF_in hn16 hlt hltt HINR.out)
            clear hFb hcs hzs
            cases hbit : bitB (inF (outF (fun j => r.fRows.getD j default) r.fRows.length k) k t t) k with
            | true =>
              have HY := Lib.hid (stF_yes hbit)
              generalize hg : inF (outF (fun j => r.fRows.getD j default) r.fRows.length k) k t = g at *
              have HGX := Lib.hid hg
              unfold bitB at hbit
              have hrt : 0 ≤ g t ∧ g t ≤ 65535 := by omega
              clear hg hi1 hi2 hp
              generalize hrt1 : g t = row at *
              generalize hrk1 : g k = rowk at *
              have HRT := Lib.hid hrt1
              have HRK := Lib.hid hrk1
              clear hrt1 hrk1
              go_wp2_with fail
              go_region
              all_goals
                go_wp2
                go_roundw
                case rel =>
                  have e9 : inF (outF (fun j => r.fRows.getD j default) r.fRows.length k) k (t + 1) = stF g k t := by show stF (inF (outF (fun j => r.fRows.getD j default) r.fRows.length k) k t) k t = _; rw [HGX.out]
                  refine ⟨t + 1, by omega, by go_num, ?_, ?_, ?_⟩
                  · rw [e9]
                    refine Own.kept (ownf_set HOR.out t htl (bits BinOp.or IntKind.i64 row rowk) (g' := stF g k t) (by rw [HY.out]; rfl) (fun j _ hj => (stF_other hj).symm)) ?_
                    repeat (first | (with_reducible exact Kept.refl) | (with_reducible apply Kept.drew) | (with_reducible apply Kept.drewN))
                  · rw [e9]; exact HNEXT.out
                  · repeat (first | (with_reducible exact HWR.out) | (with_reducible apply WritesF.drew) | (with_reducible refine WritesF.drewN ?_ _) | (refine WritesF.setCell ?_ (by exact ⟨hFb1, hFb2⟩)))
                case measure => simp [intOf]; omega
            | false =>
              have HY := Lib.hid (fun j => stF_no (j := j) hbit)
              generalize hg : inF (outF (fun j => r.fRows.getD j default) r.fRows.length k) k t = g at *
              have HGX := Lib.hid hg
              unfold bitB at hbit
              have hrt : 0 ≤ g t ∧ g t ≤ 65535 := by omega
              clear hg hi1 hi2 hp hrowk
              generalize hrt1 : g t = row at hrow hrt hbit
              clear hrt1
              go_wp2
              go_roundw
              case rel =>
                have e9 : inF (outF (fun j => r.fRows.getD j default) r.fRows.length k) k (t + 1) = stF g k t := by show stF (inF (outF (fun j => r.fRows.getD j default) r.fRows.length k) k t) k t = _; rw [HGX.out]
                refine ⟨t + 1, by omega, by go_num, ?_, ?_, HWR.out⟩
                · rw [e9]; exact HOR.out.congr (fun j _ q _ => by show ictI (g j) q = ictI (stF g k t j) q; rw [HY.out j])
                · rw [e9]; exact HNEXT.out
              case measure => simp [intOf]; omega
          · obtain rfl : t = n := by omega
            have hgeN : ¬ (t : Int) < r.fN := by have h := HRN.out; omega
            have HEQ := Lib.hid (show inF (outF (fun j => r.fRows.getD j default) r.fRows.length k) k t = outF (fun j => r.fRows.getD j default) r.fRows.length (k + 1) from by show _ = inF (outF (fun j => r.fRows.getD j default) r.fRows.length k) k r.fRows.length; rw [HRL.out])
            go_wp2
            go_roundw
            case rel => exact ⟨k + 1, by omega, by go_num, by rw [← HEQ.out]; exact HOR.out, by rw [← HEQ.out]; exact HINR.out, HWR.out⟩
            case measure => simp [intOf]; omega
      · obtain rfl : k = n := by omega
        have hgeN : ¬ (k : Int) < r.fN := by have h := HRN.out; omega
        have HEQ := Lib.hid (show k = r.fRows.length from HRL.out.symm)
        have HOF := Lib.hid (own_range_sl (show Own wo (fun y => w.heap.size + 2 ≤ y ∧ y < w1.heap.size) (.sl 1 r.fRows.length (fun j => ictI (outF (fun j => r.fRows.getD j default) r.fRows.length r.fRows.length j))) (.slice a1 r.fRows.length c1) from by have h := HOO.out; rw [HEQ.out] at h; exact h))
        go_wp2
        refine bodyPost_ret (v := .agg #[.int .i64 r.fN, .slice a1 r.fRows.length c1]) (results_cell_row Try.results14 _ _ (w.heap.size + 1) 27 #[.int .i64 r.fN, .slice a1 r.fRows.length c1] (0, 0) _ rfl (by refine Eq.trans (blk_set (cs := #[.int .i64 r.fN, .slice none 0 0]) (t := 27) (fr := (0, 0)) ?_) rfl; refine Eq.trans (blk_set (cs := #[.int .i64 0, .slice none 0 0]) (t := 27) (fr := (0, 0)) ?_) rfl; repeat (first | (with_reducible exact HGO.out) | (refine blk_other (by dsimp only; omega) ?_))) Try.underlying27 rfl rfl) rfl ?_
        rw [fin.out]
        refine ⟨a1, c1, by simp, ?_, ?_⟩
        · refine Own.sub (F := fun y => w.heap.size + 2 ≤ y ∧ y < w1.heap.size) (Own.kept (HOF.out) ?_) (fun y hy => ⟨Nat.le_trans (by omega) hy.1, Nat.lt_of_lt_of_le hy.2 (by first | (simp; done) | (simp; omega))⟩)
          repeat (first | (with_reducible exact Kept.refl) | (with_reducible apply Kept.drew) | (with_reducible apply Kept.drewN) | (refine Kept.put ?_ (by intro h; have h1 := h.1; dsimp only at h1; omega)))
        · repeat (first | (with_reducible exact HBO.out) | (with_reducible apply Below.drew) | (with_reducible refine below_drewN ?_ _) | (refine Below.setCell ?_ (by simp <;> omega) _) | (refine Below.alloc ?_ (by simp <;> omega) _))

set_option maxHeartbeats 1600000 in
set_option maxRecDepth 100000 in
theorem impl_CloseRelation {lo hi c0_0 : Nat} {a0 : Option Addr} (r : DRelation) (_ : r.ok) (hsz : r.sz ≤ 1048576) (w : World) (hhi : hi ≤ w.heap.size) (hs : Sl lo hi w 1 r.fRows.length (rowsI r.fRows) a0) :
    Calls Try.prog 13 #[.agg #[.int .i64 r.fN, .slice a0 r.fRows.length c0_0]] w (RelOut (closeRel r) w) := by
  have HL_r := Lib.hid (rel_len hsz)
  have HS_r := Lib.hid hs
  have HH := Lib.hid hhi
  clear hs hhi hsz
  have HB0 := Lib.hid (((Below.refl w.heap.size w).alloc (Nat.le_refl _) (.cells #[.int .i64 r.fN, .slice a0 r.fRows.length c0_0] 27)).alloc (by simp <;> omega) (.cells #[.int .i64 0, .slice none 0 0] 27))
  have HG0 := Lib.hid (show ((w.alloc (.cells #[.int .i64 r.fN, .slice a0 r.fRows.length c0_0] 27)).alloc (.cells #[.int .i64 0, .slice none 0 0] 27)).heap[w.heap.size + 1]? = some (.cells #[.int .i64 0, .slice none 0 0] 27) from blk_new (by simp))
  have HSZ0 := Lib.hid (show ((w.alloc (.cells #[.int .i64 r.fN, .slice a0 r.fRows.length c0_0] 27)).alloc (.cells #[.int .i64 0, .slice none 0 0] 27)).heap.size = w.heap.size + 2 by simp)
  cases hv : relB r with
  | false =>
    have HV := Lib.hid hv
    have fin := Lib.hid (closeRel_no hv)
    clear hv
    go_enter Try.func13, Try.ntmps13
    go_wp2_with fail
    refine (impl_copyRelation (c0 := c0_0) r HL_r.out _ (Nat.le_trans HH.out HB0.out.size) (HS_r.out.later HB0.out HH.out)).mono ?_
    rintro e w1 ⟨a1, c1, rfl, ho1, hb1⟩
    have hst1 : Below (w.heap.size + 2) ((w.alloc (.cells #[.int .i64 r.fN, .slice a0 r.fRows.length c0_0] 27)).alloc (.cells #[.int .i64 0, .slice none 0 0] 27)) w1 := hb1.mono (Nat.le_of_eq HSZ0.out.symm)
    have sz1_r : w.heap.size < w1.heap.size := Nat.lt_of_lt_of_le (by show w.heap.size < w.heap.size + 2; omega) (Nat.le_trans (Nat.le_of_eq HSZ0.out.symm) hst1.size)
    have bx1_r_0 : w1.cell? ⟨w.heap.size, 0, none⟩ = some (.int .i64 r.fN) := (hst1.cell (p := ⟨w.heap.size, 0, none⟩) (by show w.heap.size < w.heap.size + 2; omega)).trans (by go_simp)
    have bx1_r_1 : w1.cell? ⟨w.heap.size, 1, none⟩ = some (.slice a0 r.fRows.length c0_0) := (hst1.cell (p := ⟨w.heap.size, 1, none⟩) (by show w.heap.size < w.heap.size + 2; omega)).trans (by go_simp)
    have sz1_z : w.heap.size + 1 < w1.heap.size := Nat.lt_of_lt_of_le (by show w.heap.size + 1 < w.heap.size + 2; omega) (Nat.le_trans (Nat.le_of_eq HSZ0.out.symm) hst1.size)
    have bx1_z_0 : w1.cell? ⟨w.heap.size + 1, 0, none⟩ = some (.int .i64 0) := (hst1.cell (p := ⟨w.heap.size + 1, 0, none⟩) (by show w.heap.size + 1 < w.heap.size + 2; omega)).trans (by go_simp)
    have fz1_z_0 : w1.frozen? ⟨w.heap.size + 1, 0, none⟩ = false := (hst1.frozen (p := ⟨w.heap.size + 1, 0, none⟩) (by show w.heap.size + 1 < w.heap.size + 2; omega)).trans (by go_simp)
    have bx1_z_1 : w1.cell? ⟨w.heap.size + 1, 1, none⟩ = some (.slice none 0 0) := (hst1.cell (p := ⟨w.heap.size + 1, 1, none⟩) (by show w.heap.size + 1 < w.heap.size + 2; omega)).trans (by go_simp)
    have fz1_z_1 : w1.frozen? ⟨w.heap.size + 1, 1, none⟩ = false := (hst1.frozen (p := ⟨w.heap.size + 1, 1, none⟩) (by show w.heap.size + 1 < w.heap.size + 2; omega)).trans (by go_simp)
    have HG1 := Lib.hid ((hst1.block (w.heap.size + 1) (by omega)).trans HG0.out)
    have HO1 := Lib.hid (ho1.sub (F' := fun y => w.heap.size + 2 ≤ y ∧ y < w1.heap.size) (fun y hy => ⟨Nat.le_trans (Nat.le_of_eq HSZ0.out.symm) hy.1, hy.2⟩))
    clear ho1
    have HB1 := Lib.hid (HB0.out.trans (hb1.mono HB0.out.size))
    clear hb1 hst1
    go_wp2_with fail
    refine (impl_relValid (c0 := c0_0) r HL_r.out false HV.out _ (Nat.le_trans HH.out (Nat.le_trans HB1.out.size (Below.size (by repeat (first | (with_reducible exact Below.refl _ _) | (with_reducible apply Below.drew) | (with_reducible refine below_drewN ?_ _) | (refine Below.setCell ?_ (by simp <;> omega) _) | (refine Below.alloc ?_ (by simp <;> omega) _)) : Below w1.heap.size w1 _)))) (HS_r.out.later (HB1.out.trans ((by repeat (first | (with_reducible exact Below.refl _ _) | (with_reducible apply Below.drew) | (with_reducible refine below_drewN ?_ _) | (refine Below.setCell ?_ (by simp <;> omega) _) | (refine Below.alloc ?_ (by simp <;> omega) _)) : Below w1.heap.size w1 _).mono HB1.out.size)) HH.out)).mono ?_
    rintro e w2 ⟨rfl, hb2⟩
    have hst2 : Below w1.heap.size w1 w2 := Below.trans (by repeat (first | (with_reducible exact Below.refl _ _) | (with_reducible apply Below.drew) | (with_reducible refine below_drewN ?_ _) | (refine Below.setCell ?_ (by simp <;> omega) _) | (refine Below.alloc ?_ (by simp <;> omega) _)) : Below w1.heap.size w1 _) (hb2.mono (Below.size (by repeat (first | (with_reducible exact Below.refl _ _) | (with_reducible apply Below.drew) | (with_reducible refine below_drewN ?_ _) | (refine Below.setCell ?_ (by simp <;> omega) _) | (refine Below.alloc ?_ (by simp <;> omega) _)) : Below w1.heap.size w1 _)))
    have sz2_r : w.heap.size < w2.heap.size := Nat.lt_of_lt_of_le sz1_r hst2.size
    have bx2_r_0 : w2.cell? ⟨w.heap.size, 0, none⟩ = some (.int .i64 r.fN) := (hst2.cell (p := ⟨w.heap.size, 0, none⟩) sz1_r).trans bx1_r_0
    have bx2_r_1 : w2.cell? ⟨w.heap.size, 1, none⟩ = some (.slice a0 r.fRows.length c0_0) := (hst2.cell (p := ⟨w.heap.size, 1, none⟩) sz1_r).trans bx1_r_1
    have sz2_z : w.heap.size + 1 < w2.heap.size := Nat.lt_of_lt_of_le sz1_z hst2.size
    have bx2_z_0 : w2.cell? ⟨w.heap.size + 1, 0, none⟩ = some (.int .i64 0) := (hst2.cell (p := ⟨w.heap.size + 1, 0, none⟩) sz1_z).trans bx1_z_0
    have fz2_z_0 : w2.frozen? ⟨w.heap.size + 1, 0, none⟩ = false := (hst2.frozen (p := ⟨w.heap.size + 1, 0, none⟩) sz1_z).trans fz1_z_0
    have bx2_z_1 : w2.cell? ⟨w.heap.size + 1, 1, none⟩ = some (.slice none 0 0) := (hst2.cell (p := ⟨w.heap.size + 1, 1, none⟩) sz1_z).trans bx1_z_1
    have fz2_z_1 : w2.frozen? ⟨w.heap.size + 1, 1, none⟩ = false := (hst2.frozen (p := ⟨w.heap.size + 1, 1, none⟩) sz1_z).trans fz1_z_1
    have sz2_x : w1.heap.size < w2.heap.size := Nat.lt_of_lt_of_le (by first | omega | (simp; done) | (simp; omega) | (simp [World.setCell]; omega)) hb2.size
    have bx2_x_0 : w2.cell? ⟨w1.heap.size, 0, none⟩ = some (.int .i64 r.fN) := (hb2.cell (p := ⟨w1.heap.size, 0, none⟩) (by first | omega | (simp; done) | (simp; omega) | (simp [World.setCell]; omega))).trans (by go_simp)
    have bx2_x_1 : w2.cell? ⟨w1.heap.size, 1, none⟩ = some (.slice a1 r.fRows.length c1) := (hb2.cell (p := ⟨w1.heap.size, 1, none⟩) (by first | omega | (simp; done) | (simp; omega) | (simp [World.setCell]; omega))).trans (by go_simp)
    have HG2 := Lib.hid ((hst2.block (w.heap.size + 1) sz1_z).trans HG1.out)
    have HO2 := Lib.hid (HO1.out.kept (Kept.of_below_all hst2))
    have HB2 := Lib.hid (HB1.out.trans (hst2.mono HB1.out.size))
    have hr2 : w1.heap.size ≤ w2.heap.size := hst2.size
    clear hb2 hst2 bx1_r_0 bx1_r_1 sz1_r bx1_z_0 bx1_z_1 sz1_z fz1_z_0 fz1_z_1
    go_wp2
    refine bodyPost_ret (v := .agg #[.int .i64 r.fN, .slice a1 r.fRows.length c1]) (results_cell_row Try.results13 _ _ (w.heap.size + 1) 27 #[.int .i64 r.fN, .slice a1 r.fRows.length c1] (0, 0) _ rfl (by refine Eq.trans (blk_set (cs := #[.int .i64 r.fN, .slice none 0 0]) (t := 27) (fr := (0, 0)) ?_) rfl; refine Eq.trans (blk_set (cs := #[.int .i64 0, .slice none 0 0]) (t := 27) (fr := (0, 0)) ?_) rfl; repeat (first | (with_reducible exact HG2.out) | (refine blk_other (by dsimp only; omega) ?_))) Try.underlying27 rfl rfl) rfl ?_
    rw [fin.out]
    refine ⟨a1, c1, rfl, ?_, ?_⟩
    · refine Own.sub (F := fun y => w.heap.size + 2 ≤ y ∧ y < w1.heap.size) (Own.kept (HO2.out) ?_) (fun y hy => ⟨Nat.le_trans (by omega) hy.1, Nat.lt_of_lt_of_le hy.2 (by first | (simp; done) | (simp; omega))⟩)
      repeat (first | (with_reducible exact Kept.refl) | (with_reducible apply Kept.drew) | (with_reducible apply Kept.drewN) | (refine Kept.put ?_ (by intro h; have h1 := h.1; dsimp only at h1; omega)))
    · repeat (first | (with_reducible exact HB2.out) | (with_reducible apply Below.drew) | (with_reducible refine below_drewN ?_ _) | (refine Below.setCell ?_ (by simp <;> omega) _) | (refine Below.alloc ?_ (by simp <;> omega) _))
  | true =>
    have HV := Lib.hid hv
    have fin := Lib.hid (closeRel_yes hv)
    obtain ⟨n, hn16, hrN, hrl, hrows⟩ := relB_parts hv
    have HRN := Lib.hid hrN
    have HRL := Lib.hid hrl
    have HRW := Lib.hid hrows
    clear hv hrN hrl hrows
    have hN1 : 0 ≤ r.fN ∧ r.fN ≤ 16 := by have h := HRN.out; omega
    go_enter Try.func13, Try.ntmps13
    go_wp2_with fail
    refine (impl_copyRelation (c0 := c0_0) r HL_r.out _ (Nat.le_trans HH.out HB0.out.size) (HS_r.out.later HB0.out HH.out)).mono ?_
    rintro e w1 ⟨a1, c1, rfl, ho1, hb1⟩
    have hst1 : Below (w.heap.size + 2) ((w.alloc (.cells #[.int .i64 r.fN, .slice a0 r.fRows.length c0_0] 27)).alloc (.cells #[.int .i64 0, .slice none 0 0] 27)) w1 := hb1.mono (Nat.le_of_eq HSZ0.out.symm)
    have sz1_r : w.heap.size < w1.heap.size := Nat.lt_of_lt_of_le (by show w.heap.size < w.heap.size + 2; omega) (Nat.le_trans (Nat.le_of_eq HSZ0.out.symm) hst1.size)
    have bx1_r_0 : w1.cell? ⟨w.heap.size, 0, none⟩ = some (.int .i64 r.fN) := (hst1.cell (p := ⟨w.heap.size, 0, none⟩) (by show w.heap.size < w.heap.size + 2; omega)).trans (by go_simp)
    have bx1_r_1 : w1.cell? ⟨w.heap.size, 1, none⟩ = some (.slice a0 r.fRows.length c0_0) := (hst1.cell (p := ⟨w.heap.size, 1, none⟩) (by show w.heap.size < w.heap.size + 2; omega)).trans (by go_simp)
    have sz1_z : w.heap.size + 1 < w1.heap.size := Nat.lt_of_lt_of_le (by show w.heap.size + 1 < w.heap.size + 2; omega) (Nat.le_trans (Nat.le_of_eq HSZ0.out.symm) hst1.size)
    have bx1_z_0 : w1.cell? ⟨w.heap.size + 1, 0, none⟩ = some (.int .i64 0) := (hst1.cell (p := ⟨w.heap.size + 1, 0, none⟩) (by show w.heap.size + 1 < w.heap.size + 2; omega)).trans (by go_simp)
    have fz1_z_0 : w1.frozen? ⟨w.heap.size + 1, 0, none⟩ = false := (hst1.frozen (p := ⟨w.heap.size + 1, 0, none⟩) (by show w.heap.size + 1 < w.heap.size + 2; omega)).trans (by go_simp)
    have bx1_z_1 : w1.cell? ⟨w.heap.size + 1, 1, none⟩ = some (.slice none 0 0) := (hst1.cell (p := ⟨w.heap.size + 1, 1, none⟩) (by show w.heap.size + 1 < w.heap.size + 2; omega)).trans (by go_simp)
    have fz1_z_1 : w1.frozen? ⟨w.heap.size + 1, 1, none⟩ = false := (hst1.frozen (p := ⟨w.heap.size + 1, 1, none⟩) (by show w.heap.size + 1 < w.heap.size + 2; omega)).trans (by go_simp)
    have HG1 := Lib.hid ((hst1.block (w.heap.size + 1) (by omega)).trans HG0.out)
    have HO1 := Lib.hid (ho1.sub (F' := fun y => w.heap.size + 2 ≤ y ∧ y < w1.heap.size) (fun y hy => ⟨Nat.le_trans (Nat.le_of_eq HSZ0.out.symm) hy.1, hy.2⟩))
    clear ho1
    have HB1 := Lib.hid (HB0.out.trans (hb1.mono HB0.out.size))
    clear hb1 hst1
    go_wp2_with fail
    refine (impl_relValid (c0 := c0_0) r HL_r.out true HV.out _ (Nat.le_trans HH.out (Nat.le_trans HB1.out.size (Below.size (by repeat (first | (with_reducible exact Below.refl _ _) | (with_reducible apply Below.drew) | (with_reducible refine below_drewN ?_ _) | (refine Below.setCell ?_ (by simp <;> omega) _) | (refine Below.alloc ?_ (by simp <;> omega) _)) : Below w1.heap.size w1 _)))) (HS_r.out.later (HB1.out.trans ((by repeat (first | (with_reducible exact Below.refl _ _) | (with_reducible apply Below.drew) | (with_reducible refine below_drewN ?_ _) | (refine Below.setCell ?_ (by simp <;> omega) _) | (refine Below.alloc ?_ (by simp <;> omega) _)) : Below w1.heap.size w1 _).mono HB1.out.size)) HH.out)).mono ?_
    rintro e w2 ⟨rfl, hb2⟩
    have hst2 : Below w1.heap.size w1 w2 := Below.trans (by repeat (first | (with_reducible exact Below.refl _ _) | (with_reducible apply Below.drew) | (with_reducible refine below_drewN ?_ _) | (refine Below.setCell ?_ (by simp <;> omega) _) | (refine Below.alloc ?_ (by simp <;> omega) _)) : Below w1.heap.size w1 _) (hb2.mono (Below.size (by repeat (first | (with_reducible exact Below.refl _ _) | (with_reducible apply Below.drew) | (with_reducible refine below_drewN ?_ _) | (refine Below.setCell ?_ (by simp <;> omega) _) | (refine Below.alloc ?_ (by simp <;> omega) _)) : Below w1.heap.size w1 _)))
    have sz2_r : w.heap.size < w2.heap.size := Nat.lt_of_lt_of_le sz1_r hst2.size
    have bx2_r_0 : w2.cell? ⟨w.heap.size, 0, none⟩ = some (.int .i64 r.fN) := (hst2.cell (p := ⟨w.heap.size, 0, none⟩) sz1_r).trans bx1_r_0
    have bx2_r_1 : w2.cell? ⟨w.heap.size, 1, none⟩ = some (.slice a0 r.fRows.length c0_0) := (hst2.cell (p := ⟨w.heap.size, 1, none⟩) sz1_r).trans bx1_r_1
    have sz2_z : w.heap.size + 1 < w2.heap.size := Nat.lt_of_lt_of_le sz1_z hst2.size
    have bx2_z_0 : w2.cell? ⟨w.heap.size + 1, 0, none⟩ = some (.int .i64 0) := (hst2.cell (p := ⟨w.heap.size + 1, 0, none⟩) sz1_z).trans bx1_z_0
    have fz2_z_0 : w2.frozen? ⟨w.heap.size + 1, 0, none⟩ = false := (hst2.frozen (p := ⟨w.heap.size + 1, 0, none⟩) sz1_z).trans fz1_z_0
    have bx2_z_1 : w2.cell? ⟨w.heap.size + 1, 1, none⟩ = some (.slice none 0 0) := (hst2.cell (p := ⟨w.heap.size + 1, 1, none⟩) sz1_z).trans bx1_z_1
    have fz2_z_1 : w2.frozen? ⟨w.heap.size + 1, 1, none⟩ = false := (hst2.frozen (p := ⟨w.heap.size + 1, 1, none⟩) sz1_z).trans fz1_z_1
    have sz2_x : w1.heap.size < w2.heap.size := Nat.lt_of_lt_of_le (by first | omega | (simp; done) | (simp; omega) | (simp [World.setCell]; omega)) hb2.size
    have bx2_x_0 : w2.cell? ⟨w1.heap.size, 0, none⟩ = some (.int .i64 r.fN) := (hb2.cell (p := ⟨w1.heap.size, 0, none⟩) (by first | omega | (simp; done) | (simp; omega) | (simp [World.setCell]; omega))).trans (by go_simp)
    have bx2_x_1 : w2.cell? ⟨w1.heap.size, 1, none⟩ = some (.slice a1 r.fRows.length c1) := (hb2.cell (p := ⟨w1.heap.size, 1, none⟩) (by first | omega | (simp; done) | (simp; omega) | (simp [World.setCell]; omega))).trans (by go_simp)
    have HG2 := Lib.hid ((hst2.block (w.heap.size + 1) sz1_z).trans HG1.out)
    have HO2 := Lib.hid (HO1.out.kept (Kept.of_below_all hst2))
    have HB2 := Lib.hid (HB1.out.trans (hst2.mono HB1.out.size))
    have hr2 : w1.heap.size ≤ w2.heap.size := hst2.size
    clear hb2 hst2 bx1_r_0 bx1_r_1 sz1_r bx1_z_0 bx1_z_1 sz1_z fz1_z_0 fz1_z_1
    have HO := Lib.hid (show Own w2 (fun y => w.heap.size + 2 ≤ y ∧ y < w1.heap.size) (.sl 1 r.fRows.length (fun j => ictI (outF (fun j => r.fRows.getD j default) r.fRows.length 0 j))) (.slice a1 r.fRows.length c1) from HO2.out)
    have HG0F := Lib.hid (show ∀ j, j < n → 0 ≤ outF (fun j => r.fRows.getD j default) r.fRows.length 0 j ∧ outF (fun j => r.fRows.getD j default) r.fRows.length 0 j < 2 ^ n from HRW.out)
    go_wp2
    go_loopw [14] (fun i wr => ∃ k : Nat, k ≤ n ∧ i = .int .i64 (k : Int) ∧ Own wr (fun y => w.heap.size + 2 ≤ y ∧ y < w1.heap.size) (.sl 1 r.fRows.length (fun j => ictI (outF (fun j => r.fRows.getD j default) r.fRows.length k j))) (.slice a1 r.fRows.length c1) ∧ (∀ j, j < n → 0 ≤ outF (fun j => r.fRows.getD j default) r.fRows.length k j ∧ outF (fun j => r.fRows.getD j default) r.fRows.length k j < 2 ^ n) ∧ WritesF (fun y => w.heap.size + 2 ≤ y ∧ y < w1.heap.size) w2 wr) (fun i _ => n - (intOf i).toNat)
    case atStart => exact ⟨0, Nat.zero_le _, rfl, HO.out, HG0F.out, WritesF.refl _ _⟩
    case round =>
      obtain ⟨k, hk, rfl, hown, hin, hwr⟩ := hrel
      obtain ⟨wo, rfl⟩ : ∃ wo : World, wo = wr := ⟨_, rfl⟩
      have qwo_r : wo.cell? ⟨w.heap.size, 0, none⟩ = some (.int .i64 r.fN) := (hwr.cell (p := ⟨w.heap.size, 0, none⟩) sz2_r (by intro h; have h1 := h.1; have h2 := h.2; dsimp only at h1 h2; omega)).trans bx2_r_0
      have qwo_x0 : wo.cell? ⟨w1.heap.size, 0, none⟩ = some (.int .i64 r.fN) := (hwr.cell (p := ⟨w1.heap.size, 0, none⟩) sz2_x (by intro h; have h1 := h.1; have h2 := h.2; dsimp only at h1 h2; omega)).trans bx2_x_0
      have qwo_x1 : wo.cell? ⟨w1.heap.size, 1, none⟩ = some (.slice a1 r.fRows.length c1) := (hwr.cell (p := ⟨w1.heap.size, 1, none⟩) sz2_x (by intro h; have h1 := h.1; have h2 := h.2; dsimp only at h1 h2; omega)).trans bx2_x_1
      have qwo_z0 : wo.cell? ⟨w.heap.size + 1, 0, none⟩ = some (.int .i64 0) := (hwr.cell (p := ⟨w.heap.size + 1, 0, none⟩) sz2_z (by intro h; have h1 := h.1; have h2 := h.2; dsimp only at h1 h2; omega)).trans bx2_z_0
      have qwo_z1 : wo.cell? ⟨w.heap.size + 1, 1, none⟩ = some (.slice none 0 0) := (hwr.cell (p := ⟨w.heap.size + 1, 1, none⟩) sz2_z (by intro h; have h1 := h.1; have h2 := h.2; dsimp only at h1 h2; omega)).trans bx2_z_1
      have qwo_f0 : wo.frozen? ⟨w.heap.size + 1, 0, none⟩ = false := (hwr.frozen (p := ⟨w.heap.size + 1, 0, none⟩) sz2_z (by intro h; have h1 := h.1; dsimp only at h1; omega)).trans fz2_z_0
      have qwo_f1 : wo.frozen? ⟨w.heap.size + 1, 1, none⟩ = false := (hwr.frozen (p := ⟨w.heap.size + 1, 1, none⟩) sz2_z (by intro h; have h1 := h.1; dsimp only at h1; omega)).trans fz2_z_1
      have HWO := Lib.hid hwr
      have HOO := Lib.hid hown
      have HIN := Lib.hid hin
      have HGO := Lib.hid ((hwr.block (w.heap.size + 1) sz2_z (by intro h; have h1 := h.1; omega)).trans HG2.out)
      have HBO := Lib.hid (HB2.out.trans (hwr.below (fun y hy => by have h1 := hy.1; omega) HB2.out.size))
      have hszo : w2.heap.size ≤ wo.heap.size := hwr.size
      clear hown hwr hin
      by_cases hlt : k < n
      · have hltN : (k : Int) < r.fN := by have h := HRN.out; omega
        go_wp2
        go_loopw [19] (fun i wr => ∃ t : Nat, t ≤ n ∧ i = .int .i64 (t : Int) ∧ Own wr (fun y => w.heap.size + 2 ≤ y ∧ y < w1.heap.size) (.sl 1 r.fRows.length (fun j => ictI (inF (outF (fun j => r.fRows.getD j default) r.fRows.length k) k t j))) (.slice a1 r.fRows.length c1) ∧ (∀ j, j < n → 0 ≤ inF (outF (fun j => r.fRows.getD j default) r.fRows.length k) k t j ∧ inF (outF (fun j => r.fRows.getD j default) r.fRows.length k) k t j < 2 ^ n) ∧ WritesF (fun y => w.heap.size + 2 ≤ y ∧ y < w1.heap.size) w2 wr) (fun i _ => n - (intOf i).toNat)
        case atStart => exact ⟨0, Nat.zero_le _, rfl, HOO.out, HIN.out, HWO.out⟩
        case round =>
          obtain ⟨t, ht, rfl, hown, hin, hwr⟩ := hrel
          clear qwo_r qwo_x0 qwo_x1 qwo_z0 qwo_z1 qwo_f0 qwo_f1 hszo
          have qwr_r : wr.cell? ⟨w.heap.size, 0, none⟩ = some (.int .i64 r.fN) := (hwr.cell (p := ⟨w.heap.size, 0, none⟩) sz2_r (by intro h; have h1 := h.1; have h2 := h.2; dsimp only at h1 h2; omega)).trans bx2_r_0
          have qwr_x0 : wr.cell? ⟨w1.heap.size, 0, none⟩ = some (.int .i64 r.fN) := (hwr.cell (p := ⟨w1.heap.size, 0, none⟩) sz2_x (by intro h; have h1 := h.1; have h2 := h.2; dsimp only at h1 h2; omega)).trans bx2_x_0
          have qwr_x1 : wr.cell? ⟨w1.heap.size, 1, none⟩ = some (.slice a1 r.fRows.length c1) := (hwr.cell (p := ⟨w1.heap.size, 1, none⟩) sz2_x (by intro h; have h1 := h.1; have h2 := h.2; dsimp only at h1 h2; omega)).trans bx2_x_1
          have qwr_z0 : wr.cell? ⟨w.heap.size + 1, 0, none⟩ = some (.int .i64 0) := (hwr.cell (p := ⟨w.heap.size + 1, 0, none⟩) sz2_z (by intro h; have h1 := h.1; have h2 := h.2; dsimp only at h1 h2; omega)).trans bx2_z_0
          have qwr_z1 : wr.cell? ⟨w.heap.size + 1, 1, none⟩ = some (.slice none 0 0) := (hwr.cell (p := ⟨w.heap.size + 1, 1, none⟩) sz2_z (by intro h; have h1 := h.1; have h2 := h.2; dsimp only at h1 h2; omega)).trans bx2_z_1
          have qwr_f0 : wr.frozen? ⟨w.heap.size + 1, 0, none⟩ = false := (hwr.frozen (p := ⟨w.heap.size + 1, 0, none⟩) sz2_z (by intro h; have h1 := h.1; dsimp only at h1; omega)).trans fz2_z_0
          have qwr_f1 : wr.frozen? ⟨w.heap.size + 1, 1, none⟩ = false := (hwr.frozen (p := ⟨w.heap.size + 1, 1, none⟩) sz2_z (by intro h; have h1 := h.1; dsimp only at h1; omega)).trans fz2_z_1
          have HWR := Lib.hid hwr
          have HOR := Lib.hid hown
          have HINR := Lib.hid hin
          have hszr : w2.heap.size ≤ wr.heap.size := hwr.size
          clear hown hwr hin
          by_cases hltt : t < n
          · have htN : (t : Int) < r.fN := by have h := HRN.out; omega
            have htl : t < r.fRows.length := by have h := HRL.out; omega
            have hkl : k < r.fRows.length := by have h := HRL.out; omega
            obtain ⟨bb, off, rfl, hFb, hbl, hcs, hzs⟩ := ownf_at HOR.out (by omega)
            have hFb1 : w.heap.size + 2 ≤ bb := hFb.1
            have hFb2 : bb < w1.heap.size := hFb.2
            have hrow := hcs t htl
            have hrowk := hcs k hkl
            have hrz := hzs (off + t)
            have hi1 := HINR.out t hltt
            have hi2 := HINR.out k hlt
            have hp := pow_in hn16
            have HNEXT := Lib.hid (stF_in hn16 hlt hltt HINR.out)
            clear hFb hcs hzs
            cases hbit : bitB (inF (outF (fun j => r.fRows.getD j default) r.fRows.length k) k t t) k with
            | true =>
              have HY := Lib.hid (stF_yes hbit)
              generalize hg : inF (outF (fun j => r.fRows.getD j default) r.fRows.length k) k t = g at *
              have HGX := Lib.hid hg
              unfold bitB at hbit
              have hrt : 0 ≤ g t ∧ g t ≤ 65535 := by omega
              clear hg hi1 hi2 hp
              generalize hrt1 : g t = row at *
              generalize hrk1 : g k = rowk at *
              have HRT := Lib.hid hrt1
              have HRK := Lib.hid hrk1
              clear hrt1 hrk1
              go_wp2_with fail
              go_region
              all_goals
                go_wp2
                go_roundw
                case rel =>
                  have e9 : inF (outF (fun j => r.fRows.getD j default) r.fRows.length k) k (t + 1) = stF g k t := by show stF (inF (outF (fun j => r.fRows.getD j default) r.fRows.length k) k t) k t = _; rw [HGX.out]
                  refine ⟨t + 1, by omega, by go_num, ?_, ?_, ?_⟩
                  · rw [e9]
                    refine Own.kept (ownf_set HOR.out t htl (bits BinOp.or IntKind.i64 row rowk) (g' := stF g k t) (by rw [HY.out]; rfl) (fun j _ hj => (stF_other hj).symm)) ?_
                    repeat (first | (with_reducible exact Kept.refl) | (with_reducible apply Kept.drew) | (with_reducible apply Kept.drewN))
                  · rw [e9]; exact HNEXT.out
                  · repeat (first | (with_reducible exact HWR.out) | (with_reducible apply WritesF.drew) | (with_reducible refine WritesF.drewN ?_ _) | (refine WritesF.setCell ?_ (by exact ⟨hFb1, hFb2⟩)))
                case measure => simp [intOf]; omega
            | false =>
              have HY := Lib.hid (fun j => stF_no (j := j) hbit)
              generalize hg : inF (outF (fun j => r.fRows.getD j default) r.fRows.length k) k t = g at *
              have HGX := Lib.hid hg
              unfold bitB at hbit
              have hrt : 0 ≤ g t ∧ g t ≤ 65535 := by omega
              clear hg hi1 hi2 hp hrowk
              generalize hrt1 : g t = row at hrow hrt hbit
              clear hrt1
              go_wp2
              go_roundw
              case rel =>
                have e9 : inF (outF (fun j => r.fRows.getD j default) r.fRows.length k) k (t + 1) = stF g k t := by show stF (inF (outF (fun j => r.fRows.getD j default) r.fRows.length k) k t) k t = _; rw [HGX.out]
                refine ⟨t + 1, by omega, by go_num, ?_, ?_, HWR.out⟩
                · rw [e9]; exact HOR.out.congr (fun j _ q _ => by show ictI (g j) q = ictI (stF g k t j) q; rw [HY.out j])
                · rw [e9]; exact HNEXT.out
              case measure => simp [intOf]; omega
          · obtain rfl : t = n := by omega
            have hgeN : ¬ (t : Int) < r.fN := by have h := HRN.out; omega
            have HEQ := Lib.hid (show inF (outF (fun j => r.fRows.getD j default) r.fRows.length k) k t = outF (fun j => r.fRows.getD j default) r.fRows.length (k + 1) from by show _ = inF (outF (fun j => r.fRows.getD j default) r.fRows.length k) k r.fRows.length; rw [HRL.out])
            go_wp2
            go_roundw
            case rel => exact ⟨k + 1, by omega, by go_num, by rw [← HEQ.out]; exact HOR.out, by rw [← HEQ.out]; exact HINR.out, HWR.out⟩
            case measure => simp [intOf]; omega
      · obtain rfl : k = n := by omega
        have hgeN : ¬ (k : Int) < r.fN := by have h := HRN.out; omega
        have HEQ := Lib.hid (show k = r.fRows.length from HRL.out.symm)
        have HOF := Lib.hid (own_range_sl (show Own wo (fun y => w.heap.size + 2 ≤ y ∧ y < w1.heap.size) (.sl 1 r.fRows.length (fun j => ictI (outF (fun j => r.fRows.getD j default) r.fRows.length r.fRows.length j))) (.slice a1 r.fRows.length c1) from by have h := HOO.out; rw [HEQ.out] at h; exact h))
        go_wp2
        refine bodyPost_ret (v := .agg #[.int .i64 r.fN, .slice a1 r.fRows.length c1]) (results_cell_row Try.results13 _ _ (w.heap.size + 1) 27 #[.int .i64 r.fN, .slice a1 r.fRows.length c1] (0, 0) _ rfl (by refine Eq.trans (blk_set (cs := #[.int .i64 r.fN, .slice none 0 0]) (t := 27) (fr := (0, 0)) ?_) rfl; refine Eq.trans (blk_set (cs := #[.int .i64 0, .slice none 0 0]) (t := 27) (fr := (0, 0)) ?_) rfl; repeat (first | (with_reducible exact HGO.out) | (refine blk_other (by dsimp only; omega) ?_))) Try.underlying27 rfl rfl) rfl ?_
        rw [fin.out]
        refine ⟨a1, c1, by simp, ?_, ?_⟩
        · refine Own.sub (F := fun y => w.heap.size + 2 ≤ y ∧ y < w1.heap.size) (Own.kept (HOF.out) ?_) (fun y hy => ⟨Nat.le_trans (by omega) hy.1, Nat.lt_of_lt_of_le hy.2 (by first | (simp; done) | (simp; omega))⟩)
          repeat (first | (with_reducible exact Kept.refl) | (with_reducible apply Kept.drew) | (with_reducible apply Kept.drewN) | (refine Kept.put ?_ (by intro h; have h1 := h.1; dsimp only at h1; omega)))
        · repeat (first | (with_reducible exact HBO.out) | (with_reducible apply Below.drew) | (with_reducible refine below_drewN ?_ _) | (refine Below.setCell ?_ (by simp <;> omega) _) | (refine Below.alloc ?_ (by simp <;> omega) _))
end Go.Proofs.Ytkfonlejblcknaa
