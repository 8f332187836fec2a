/-
  UnionRelation in the model and in the program.
-/
import Derived.Test.YtkfonlejblcknaaAddPair
namespace Go.Proofs.Ytkfonlejblcknaa
open Go.ChangeShapes Go.WideShapes Go.ChangeAt Go.RowKit Go.Deep

/-! Numbers of its own by a function of the index. -/
theorem ownf_at {w : World} {F : Nat → Prop} {n : Nat} {g : Nat → Int} {a : Option Addr} {c : Nat} (h : Own w F (.sl 1 n (fun j => ictI (g j))) (.slice a n c)) (hn : 0 < n) :
    ∃ b off, a = some ⟨b, off, none⟩ ∧ F b ∧ b < w.heap.size ∧ (∀ j, j < n → w.cell? ⟨b, off + j, none⟩ = some (.int .i64 (g j))) ∧ ∀ o, w.frozen? ⟨b, o, none⟩ = false := by
  rcases own_ints h (fun k _ => ⟨_, rfl⟩) with h0 | ⟨b, off, ha, hF, hb, hc, hz⟩
  · omega
  · refine ⟨b, off, ha, hF, hb, fun j hj => ?_, hz⟩
    obtain ⟨v, hv, hcell⟩ := hc j hj
    obtain rfl : v = .int .i64 (g j) := by
      have : Ct.lit v = .lit (.int .i64 (g j)) := hv.symm
      simpa using this
    exact hcell
theorem ownf_set {w : World} {F : Nat → Prop} {n : Nat} {g g' : Nat → Int} {b off c : Nat} (h : Own w F (.sl 1 n (fun j => ictI (g j))) (.slice (some ⟨b, off, none⟩) n c)) (i : Nat) (hi : i < n) (z : Int) (hz : z = g' i) (hg : ∀ j, j < n → j ≠ i → g j = g' j) :
    Own (w.setCell ⟨b, off + i, none⟩ (.int .i64 z)) F (.sl 1 n (fun j => ictI (g' j))) (.slice (some ⟨b, off, none⟩) n c) := by
  obtain ⟨b', off', ha, hF, hb, hc, hzz⟩ := ownf_at h (by omega)
  simp only [Option.some.injEq, Addr.mk.injEq, and_true] at ha
  obtain ⟨rfl, rfl⟩ := ha
  refine ints_own hF (by simpa [World.setCell] using hb) (fun j hj => ⟨_, rfl, ?_⟩) (fun o => by rw [World.frozen?_setCell]; exact hzz o)
  by_cases hji : j = i
  · subst hji
    rw [World.cell?_setCell_same _ _ _ (hc j hj), hz]
  · rw [World.cell?_setCell_other _ ⟨b, off + i, none⟩ ⟨b, off + j, none⟩ _ (fun e => by have := congrArg Addr.off e; simp only at this; omega), hc j hj, hg j hj hji]
theorem WritesF.cell {F : Nat → Prop} {w w' : World} (h : WritesF F w w') {p : Addr} (hp : p.block < w.heap.size) (hn : ¬ F p.block) : w'.cell? p = w.cell? p := World.cell?_of_block (h.block p.block hp hn)
theorem WritesF.frozen {F : Nat → Prop} {w w' : World} (h : WritesF F w w') {p : Addr} (hp : p.block < w.heap.size) (hn : ¬ F p.block) : w'.frozen? p = w.frozen? p := World.frozen?_of_block (h.block p.block hp hn)
theorem WritesF.drew {F : Nat → Prop} {a w : World} (h : WritesF F a w) : WritesF F a w.drew := ⟨h.os, h.tape, h.output, h.size, h.block⟩
theorem WritesF.drewN {F : Nat → Prop} {a w : World} (h : WritesF F a w) (n : Nat) : WritesF F a (w.drewN n) := ⟨h.os, h.tape, h.output, h.size, h.block⟩

def orI (x y : Int) : Int := bits BinOp.or IntKind.i64 x y
/-- The rows of the first relation, joined with those of the second up to row k. -/
def uniF (a b : List Int) (k j : Nat) : Int := if j < k then orI (a.getD j default) (b.getD j default) else a.getD j default
def uniB (a b : DRelation) : Bool := relB a && relB b && a.fN == b.fN
def unionRel (a b : DRelation) : DRelation := if uniB a b then ⟨a.fN, (List.range a.fRows.length).map (uniF a.fRows b.fRows a.fRows.length)⟩ else a
theorem unionRel_no {a b : DRelation} (h : uniB a b = false) : unionRel a b = a := by unfold unionRel; rw [h]; rfl
theorem unionRel_yes {a b : DRelation} (h : uniB a b = true) : unionRel a b = ⟨a.fN, (List.range a.fRows.length).map (uniF a.fRows b.fRows a.fRows.length)⟩ := by unfold unionRel; rw [h]; rfl
theorem unionRel_len (a b : DRelation) : (unionRel a b).fRows.length = a.fRows.length := by unfold unionRel; split <;> simp
theorem unionRel_sz {a : DRelation} (h : a.sz ≤ 1048576) (b : DRelation) : (unionRel a b).sz ≤ 1048576 := by
  have h1 := rel_len h
  have h2 := unionRel_len a b
  unfold DRelation.sz
  rw [lsz_zero]
  omega
theorem uniF_zero (a b : List Int) (j : Nat) : uniF a b 0 j = a.getD j default := by unfold uniF; rw [if_neg (Nat.not_lt_zero _)]
theorem uniF_here (a b : List Int) (k : Nat) : uniF a b k k = a.getD k default := by unfold uniF; rw [if_neg (Nat.lt_irrefl _)]
theorem uniF_next (a b : List Int) (k : Nat) : uniF a b (k + 1) k = orI (a.getD k default) (b.getD k default) := by unfold uniF; rw [if_pos (Nat.lt_succ_self _)]
theorem uniF_other {a b : List Int} {k j : Nat} (h : j ≠ k) : uniF a b k j = uniF a b (k + 1) j := by
  unfold uniF
  by_cases hj : j < k
  · rw [if_pos hj, if_pos (by omega)]
  · rw [if_neg hj, if_neg (by omega)]
/-- A row made by a function is its list. -/
theorem own_range {w : World} {F : Nat → Prop} {n : Nat} {g : Nat → Int} {v : Value} (h : Own w F (.sl 1 n (fun j => ictI (g j))) v) : Own w F (.sl 1 ((List.range n).map g).length (rowsI ((List.range n).map g))) v := by
  rw [List.length_map, List.length_range]
  refine h.congr fun k hk j _ => ?_
  show ictI (g k) j = ictI (((List.range n).map g).getD k default) j
  rw [List.getD_eq_getElem?_getD, List.getElem?_map, List.getElem?_range hk]
  rfl
theorem own_range_sl {w : World} {F : Nat → Prop} {n c : Nat} {g : Nat → Int} {a : Option Addr} (h : Own w F (.sl 1 n (fun j => ictI (g j))) (.slice a n c)) :
    Own w F (.sl 1 ((List.range n).map g).length (rowsI ((List.range n).map g))) (.slice a ((List.range n).map g).length c) := by
  have e : ((List.range n).map g).length = n := by simp
  have h2 := own_range h
  rw [e] at h2 ⊢
  exact h2

set_option maxHeartbeats 1600000 in
set_option maxRecDepth 100000 in
theorem spec_UnionRelation {lo hi c0_0 c1_0 : Nat} {a0 b0 : Option Addr} (a : DRelation) (_ : a.ok) (hsz : a.sz ≤ 1048576) (b : DRelation) (_ : b.ok) (hszb : b.sz ≤ 1048576) (w : World) (hhi : hi ≤ w.heap.size) (hs : Sl lo hi w 1 a.fRows.length (rowsI a.fRows) a0) (hsb : Sl lo hi w 1 b.fRows.length (rowsI b.fRows) b0) :
    Calls Try.prog 25 #[.agg #[.int .i64 a.fN, .slice a0 a.fRows.length c0_0], .agg #[.int .i64 b.fN, .slice b0 b.fRows.length c1_0]] w (RelOut (unionRel a b) w) := by
  have HL_a := Lib.hid (rel_len hsz)
  have HL_b := Lib.hid (rel_len hszb)
  have HS_a := Lib.hid hs
  have HS_b := Lib.hid hsb
  have HH := Lib.hid hhi
  clear hs hsb hhi hsz hszb
  have HB0 := Lib.hid ((((Below.refl w.heap.size w).alloc (Nat.le_refl _) (.cells #[.int .i64 a.fN, .slice a0 a.fRows.length c0_0] 27)).alloc (by simp <;> omega) (.cells #[.int .i64 b.fN, .slice b0 b.fRows.length c1_0] 27)).alloc (by simp <;> omega) (.cells #[.int .i64 0, .slice none 0 0] 27))
  have HG0 := Lib.hid (show (((w.alloc (.cells #[.int .i64 a.fN, .slice a0 a.fRows.length c0_0] 27)).alloc (.cells #[.int .i64 b.fN, .slice b0 b.fRows.length c1_0] 27)).alloc (.cells #[.int .i64 0, .slice none 0 0] 27)).heap[w.heap.size + 2]? = some (.cells #[.int .i64 0, .slice none 0 0] 27) from blk_new (by simp))
  have HSZ0 := Lib.hid (show (((w.alloc (.cells #[.int .i64 a.fN, .slice a0 a.fRows.length c0_0] 27)).alloc (.cells #[.int .i64 b.fN, .slice b0 b.fRows.length c1_0] 27)).alloc (.cells #[.int .i64 0, .slice none 0 0] 27)).heap.size = w.heap.size + 3 by simp)
  cases hva : relB a with
  | false =>
    have HVA := Lib.hid hva
    have fin := Lib.hid (unionRel_no (a := a) (b := b) (by unfold uniB; rw [hva]; rfl))
    clear hva
    go_enter Try.func25, Try.ntmps25
    go_wp2_with fail
    refine (spec_copy (c0 := c0_0) a HL_a.out _ (Nat.le_trans HH.out HB0.out.size) (HS_a.out.later HB0.out HH.out)).mono ?_
    rintro e w1 ⟨a1, c1, rfl, ho1, hb1⟩
    have hst1 : Below (w.heap.size + 3) (((w.alloc (.cells #[.int .i64 a.fN, .slice a0 a.fRows.length c0_0] 27)).alloc (.cells #[.int .i64 b.fN, .slice b0 b.fRows.length c1_0] 27)).alloc (.cells #[.int .i64 0, .slice none 0 0] 27)) w1 := hb1.mono (Nat.le_of_eq HSZ0.out.symm)
    have sz1_a : w.heap.size < w1.heap.size := Nat.lt_of_lt_of_le (by show w.heap.size < w.heap.size + 3; omega) (Nat.le_trans (Nat.le_of_eq HSZ0.out.symm) hst1.size)
    have bx1_a_0 : w1.cell? ⟨w.heap.size, 0, none⟩ = some (.int .i64 a.fN) := (hst1.cell (p := ⟨w.heap.size, 0, none⟩) (by show w.heap.size < w.heap.size + 3; omega)).trans (by go_simp)
    have bx1_a_1 : w1.cell? ⟨w.heap.size, 1, none⟩ = some (.slice a0 a.fRows.length c0_0) := (hst1.cell (p := ⟨w.heap.size, 1, none⟩) (by show w.heap.size < w.heap.size + 3; omega)).trans (by go_simp)
    have sz1_b : w.heap.size + 1 < w1.heap.size := Nat.lt_of_lt_of_le (by show w.heap.size + 1 < w.heap.size + 3; omega) (Nat.le_trans (Nat.le_of_eq HSZ0.out.symm) hst1.size)
    have bx1_b_0 : w1.cell? ⟨w.heap.size + 1, 0, none⟩ = some (.int .i64 b.fN) := (hst1.cell (p := ⟨w.heap.size + 1, 0, none⟩) (by show w.heap.size + 1 < w.heap.size + 3; omega)).trans (by go_simp)
    have bx1_b_1 : w1.cell? ⟨w.heap.size + 1, 1, none⟩ = some (.slice b0 b.fRows.length c1_0) := (hst1.cell (p := ⟨w.heap.size + 1, 1, none⟩) (by show w.heap.size + 1 < w.heap.size + 3; omega)).trans (by go_simp)
    have sz1_z : w.heap.size + 2 < w1.heap.size := Nat.lt_of_lt_of_le (by show w.heap.size + 2 < w.heap.size + 3; omega) (Nat.le_trans (Nat.le_of_eq HSZ0.out.symm) hst1.size)
    have bx1_z_0 : w1.cell? ⟨w.heap.size + 2, 0, none⟩ = some (.int .i64 0) := (hst1.cell (p := ⟨w.heap.size + 2, 0, none⟩) (by show w.heap.size + 2 < w.heap.size + 3; omega)).trans (by go_simp)
    have fz1_z_0 : w1.frozen? ⟨w.heap.size + 2, 0, none⟩ = false := (hst1.frozen (p := ⟨w.heap.size + 2, 0, none⟩) (by show w.heap.size + 2 < w.heap.size + 3; omega)).trans (by go_simp)
    have bx1_z_1 : w1.cell? ⟨w.heap.size + 2, 1, none⟩ = some (.slice none 0 0) := (hst1.cell (p := ⟨w.heap.size + 2, 1, none⟩) (by show w.heap.size + 2 < w.heap.size + 3; omega)).trans (by go_simp)
    have fz1_z_1 : w1.frozen? ⟨w.heap.size + 2, 1, none⟩ = false := (hst1.frozen (p := ⟨w.heap.size + 2, 1, none⟩) (by show w.heap.size + 2 < w.heap.size + 3; omega)).trans (by go_simp)
    have HG1 := Lib.hid ((hst1.block (w.heap.size + 2) (by omega)).trans HG0.out)
    have HO1 := Lib.hid (ho1.sub (F' := fun y => w.heap.size + 3 ≤ y ∧ y < w1.heap.size) (fun y hy => ⟨Nat.le_trans (Nat.le_of_eq HSZ0.out.symm) hy.1, hy.2⟩))
    clear ho1
    have HB1 := Lib.hid (HB0.out.trans (hb1.mono HB0.out.size))
    clear hb1 hst1
    go_wp2_with fail
    refine (spec_relValid (c0 := c0_0) a HL_a.out false HVA.out _ (Nat.le_trans HH.out (Nat.le_trans HB1.out.size (Below.size (by repeat (first | (with_reducible exact Below.refl _ _) | (with_reducible apply Below.drew) | (with_reducible refine below_drewN ?_ _) | (refine Below.setCell ?_ (by simp <;> omega) _) | (refine Below.alloc ?_ (by simp <;> omega) _)) : Below w1.heap.size w1 _)))) (HS_a.out.later (HB1.out.trans ((by repeat (first | (with_reducible exact Below.refl _ _) | (with_reducible apply Below.drew) | (with_reducible refine below_drewN ?_ _) | (refine Below.setCell ?_ (by simp <;> omega) _) | (refine Below.alloc ?_ (by simp <;> omega) _)) : Below w1.heap.size w1 _).mono HB1.out.size)) HH.out)).mono ?_
    rintro e w2 ⟨rfl, hb2⟩
    have hst2 : Below w1.heap.size w1 w2 := Below.trans (by repeat (first | (with_reducible exact Below.refl _ _) | (with_reducible apply Below.drew) | (with_reducible refine below_drewN ?_ _) | (refine Below.setCell ?_ (by simp <;> omega) _) | (refine Below.alloc ?_ (by simp <;> omega) _)) : Below w1.heap.size w1 _) (hb2.mono (Below.size (by repeat (first | (with_reducible exact Below.refl _ _) | (with_reducible apply Below.drew) | (with_reducible refine below_drewN ?_ _) | (refine Below.setCell ?_ (by simp <;> omega) _) | (refine Below.alloc ?_ (by simp <;> omega) _)) : Below w1.heap.size w1 _)))
    have sz2_a : w.heap.size < w2.heap.size := Nat.lt_of_lt_of_le sz1_a hst2.size
    have bx2_a_0 : w2.cell? ⟨w.heap.size, 0, none⟩ = some (.int .i64 a.fN) := (hst2.cell (p := ⟨w.heap.size, 0, none⟩) sz1_a).trans bx1_a_0
    have bx2_a_1 : w2.cell? ⟨w.heap.size, 1, none⟩ = some (.slice a0 a.fRows.length c0_0) := (hst2.cell (p := ⟨w.heap.size, 1, none⟩) sz1_a).trans bx1_a_1
    have sz2_b : w.heap.size + 1 < w2.heap.size := Nat.lt_of_lt_of_le sz1_b hst2.size
    have bx2_b_0 : w2.cell? ⟨w.heap.size + 1, 0, none⟩ = some (.int .i64 b.fN) := (hst2.cell (p := ⟨w.heap.size + 1, 0, none⟩) sz1_b).trans bx1_b_0
    have bx2_b_1 : w2.cell? ⟨w.heap.size + 1, 1, none⟩ = some (.slice b0 b.fRows.length c1_0) := (hst2.cell (p := ⟨w.heap.size + 1, 1, none⟩) sz1_b).trans bx1_b_1
    have sz2_z : w.heap.size + 2 < w2.heap.size := Nat.lt_of_lt_of_le sz1_z hst2.size
    have bx2_z_0 : w2.cell? ⟨w.heap.size + 2, 0, none⟩ = some (.int .i64 0) := (hst2.cell (p := ⟨w.heap.size + 2, 0, none⟩) sz1_z).trans bx1_z_0
    have fz2_z_0 : w2.frozen? ⟨w.heap.size + 2, 0, none⟩ = false := (hst2.frozen (p := ⟨w.heap.size + 2, 0, none⟩) sz1_z).trans fz1_z_0
    have bx2_z_1 : w2.cell? ⟨w.heap.size + 2, 1, none⟩ = some (.slice none 0 0) := (hst2.cell (p := ⟨w.heap.size + 2, 1, none⟩) sz1_z).trans bx1_z_1
    have fz2_z_1 : w2.frozen? ⟨w.heap.size + 2, 1, none⟩ = false := (hst2.frozen (p := ⟨w.heap.size + 2, 1, none⟩) sz1_z).trans fz1_z_1
    have sz2_x : w1.heap.size < w2.heap.size := Nat.lt_of_lt_of_le (by first | omega | (simp; done) | (simp; omega) | (simp [World.setCell]; omega)) hb2.size
    have bx2_x_0 : w2.cell? ⟨w1.heap.size, 0, none⟩ = some (.int .i64 a.fN) := (hb2.cell (p := ⟨w1.heap.size, 0, none⟩) (by first | omega | (simp; done) | (simp; omega) | (simp [World.setCell]; omega))).trans (by go_simp)
    have bx2_x_1 : w2.cell? ⟨w1.heap.size, 1, none⟩ = some (.slice a1 a.fRows.length c1) := (hb2.cell (p := ⟨w1.heap.size, 1, none⟩) (by first | omega | (simp; done) | (simp; omega) | (simp [World.setCell]; omega))).trans (by go_simp)
    have HG2 := Lib.hid ((hst2.block (w.heap.size + 2) sz1_z).trans HG1.out)
    have HO2 := Lib.hid (HO1.out.kept (Kept.of_below_all hst2))
    have HB2 := Lib.hid (HB1.out.trans (hst2.mono HB1.out.size))
    have hr2 : w1.heap.size ≤ w2.heap.size := hst2.size
    clear hb2 hst2 bx1_a_0 bx1_a_1 sz1_a bx1_b_0 bx1_b_1 sz1_b bx1_z_0 bx1_z_1 sz1_z fz1_z_0 fz1_z_1
    go_wp2
    refine bodyPost_ret (v := .agg #[.int .i64 a.fN, .slice a1 a.fRows.length c1]) (results_cell_row Try.results25 _ _ (w.heap.size + 2) 27 #[.int .i64 a.fN, .slice a1 a.fRows.length c1] (0, 0) _ rfl (by refine Eq.trans (blk_set (cs := #[.int .i64 a.fN, .slice none 0 0]) (t := 27) (fr := (0, 0)) ?_) rfl; refine Eq.trans (blk_set (cs := #[.int .i64 0, .slice none 0 0]) (t := 27) (fr := (0, 0)) ?_) rfl; repeat (first | (with_reducible exact HG2.out) | (refine blk_other (by dsimp only; omega) ?_))) Try.underlying27 rfl rfl) rfl ?_
    rw [fin.out]
    refine ⟨a1, c1, rfl, ?_, ?_⟩
    · refine Own.sub (F := fun y => w.heap.size + 3 ≤ y ∧ y < w1.heap.size) (Own.kept (HO2.out) ?_) (fun y hy => ⟨Nat.le_trans (by omega) hy.1, Nat.lt_of_lt_of_le hy.2 (by first | (simp; done) | (simp; omega))⟩)
      repeat (first | (with_reducible exact Kept.refl) | (with_reducible apply Kept.drew) | (with_reducible apply Kept.drewN) | (refine Kept.put ?_ (by intro h; have h1 := h.1; dsimp only at h1; omega)))
    · repeat (first | (with_reducible exact HB2.out) | (with_reducible apply Below.drew) | (with_reducible refine below_drewN ?_ _) | (refine Below.setCell ?_ (by simp <;> omega) _) | (refine Below.alloc ?_ (by simp <;> omega) _))
  | true =>
    have HVA := Lib.hid hva
    cases hvb : relB b with
    | false =>
      have HVB := Lib.hid hvb
      have fin := Lib.hid (unionRel_no (a := a) (b := b) (by unfold uniB; rw [hvb, Bool.and_false]; rfl))
      clear hva hvb
      go_enter Try.func25, Try.ntmps25
      go_wp2_with fail
      refine (spec_copy (c0 := c0_0) a HL_a.out _ (Nat.le_trans HH.out HB0.out.size) (HS_a.out.later HB0.out HH.out)).mono ?_
      rintro e w1 ⟨a1, c1, rfl, ho1, hb1⟩
      have hst1 : Below (w.heap.size + 3) (((w.alloc (.cells #[.int .i64 a.fN, .slice a0 a.fRows.length c0_0] 27)).alloc (.cells #[.int .i64 b.fN, .slice b0 b.fRows.length c1_0] 27)).alloc (.cells #[.int .i64 0, .slice none 0 0] 27)) w1 := hb1.mono (Nat.le_of_eq HSZ0.out.symm)
      have sz1_a : w.heap.size < w1.heap.size := Nat.lt_of_lt_of_le (by show w.heap.size < w.heap.size + 3; omega) (Nat.le_trans (Nat.le_of_eq HSZ0.out.symm) hst1.size)
      have bx1_a_0 : w1.cell? ⟨w.heap.size, 0, none⟩ = some (.int .i64 a.fN) := (hst1.cell (p := ⟨w.heap.size, 0, none⟩) (by show w.heap.size < w.heap.size + 3; omega)).trans (by go_simp)
      have bx1_a_1 : w1.cell? ⟨w.heap.size, 1, none⟩ = some (.slice a0 a.fRows.length c0_0) := (hst1.cell (p := ⟨w.heap.size, 1, none⟩) (by show w.heap.size < w.heap.size + 3; omega)).trans (by go_simp)
      have sz1_b : w.heap.size + 1 < w1.heap.size := Nat.lt_of_lt_of_le (by show w.heap.size + 1 < w.heap.size + 3; omega) (Nat.le_trans (Nat.le_of_eq HSZ0.out.symm) hst1.size)
      have bx1_b_0 : w1.cell? ⟨w.heap.size + 1, 0, none⟩ = some (.int .i64 b.fN) := (hst1.cell (p := ⟨w.heap.size + 1, 0, none⟩) (by show w.heap.size + 1 < w.heap.size + 3; omega)).trans (by go_simp)
      have bx1_b_1 : w1.cell? ⟨w.heap.size + 1, 1, none⟩ = some (.slice b0 b.fRows.length c1_0) := (hst1.cell (p := ⟨w.heap.size + 1, 1, none⟩) (by show w.heap.size + 1 < w.heap.size + 3; omega)).trans (by go_simp)
      have sz1_z : w.heap.size + 2 < w1.heap.size := Nat.lt_of_lt_of_le (by show w.heap.size + 2 < w.heap.size + 3; omega) (Nat.le_trans (Nat.le_of_eq HSZ0.out.symm) hst1.size)
      have bx1_z_0 : w1.cell? ⟨w.heap.size + 2, 0, none⟩ = some (.int .i64 0) := (hst1.cell (p := ⟨w.heap.size + 2, 0, none⟩) (by show w.heap.size + 2 < w.heap.size + 3; omega)).trans (by go_simp)
      have fz1_z_0 : w1.frozen? ⟨w.heap.size + 2, 0, none⟩ = false := (hst1.frozen (p := ⟨w.heap.size + 2, 0, none⟩) (by show w.heap.size + 2 < w.heap.size + 3; omega)).trans (by go_simp)
      have bx1_z_1 : w1.cell? ⟨w.heap.size + 2, 1, none⟩ = some (.slice none 0 0) := (hst1.cell (p := ⟨w.heap.size + 2, 1, none⟩) (by show w.heap.size + 2 < w.heap.size + 3; omega)).trans (by go_simp)
      have fz1_z_1 : w1.frozen? ⟨w.heap.size + 2, 1, none⟩ = false := (hst1.frozen (p := ⟨w.heap.size + 2, 1, none⟩) (by show w.heap.size + 2 < w.heap.size + 3; omega)).trans (by go_simp)
      have HG1 := Lib.hid ((hst1.block (w.heap.size + 2) (by omega)).trans HG0.out)
      have HO1 := Lib.hid (ho1.sub (F' := fun y => w.heap.size + 3 ≤ y ∧ y < w1.heap.size) (fun y hy => ⟨Nat.le_trans (Nat.le_of_eq HSZ0.out.symm) hy.1, hy.2⟩))
      clear ho1
      have HB1 := Lib.hid (HB0.out.trans (hb1.mono HB0.out.size))
      clear hb1 hst1
      go_wp2_with fail
      refine (spec_relValid (c0 := c0_0) a HL_a.out true HVA.out _ (Nat.le_trans HH.out (Nat.le_trans HB1.out.size (Below.size (by repeat (first | (with_reducible exact Below.refl _ _) | (with_reducible apply Below.drew) | (with_reducible refine below_drewN ?_ _) | (refine Below.setCell ?_ (by simp <;> omega) _) | (refine Below.alloc ?_ (by simp <;> omega) _)) : Below w1.heap.size w1 _)))) (HS_a.out.later (HB1.out.trans ((by repeat (first | (with_reducible exact Below.refl _ _) | (with_reducible apply Below.drew) | (with_reducible refine below_drewN ?_ _) | (refine Below.setCell ?_ (by simp <;> omega) _) | (refine Below.alloc ?_ (by simp <;> omega) _)) : Below w1.heap.size w1 _).mono HB1.out.size)) HH.out)).mono ?_
      rintro e w2 ⟨rfl, hb2⟩
      have hst2 : Below w1.heap.size w1 w2 := Below.trans (by repeat (first | (with_reducible exact Below.refl _ _) | (with_reducible apply Below.drew) | (with_reducible refine below_drewN ?_ _) | (refine Below.setCell ?_ (by simp <;> omega) _) | (refine Below.alloc ?_ (by simp <;> omega) _)) : Below w1.heap.size w1 _) (hb2.mono (Below.size (by repeat (first | (with_reducible exact Below.refl _ _) | (with_reducible apply Below.drew) | (with_reducible refine below_drewN ?_ _) | (refine Below.setCell ?_ (by simp <;> omega) _) | (refine Below.alloc ?_ (by simp <;> omega) _)) : Below w1.heap.size w1 _)))
      have sz2_a : w.heap.size < w2.heap.size := Nat.lt_of_lt_of_le sz1_a hst2.size
      have bx2_a_0 : w2.cell? ⟨w.heap.size, 0, none⟩ = some (.int .i64 a.fN) := (hst2.cell (p := ⟨w.heap.size, 0, none⟩) sz1_a).trans bx1_a_0
      have bx2_a_1 : w2.cell? ⟨w.heap.size, 1, none⟩ = some (.slice a0 a.fRows.length c0_0) := (hst2.cell (p := ⟨w.heap.size, 1, none⟩) sz1_a).trans bx1_a_1
      have sz2_b : w.heap.size + 1 < w2.heap.size := Nat.lt_of_lt_of_le sz1_b hst2.size
      have bx2_b_0 : w2.cell? ⟨w.heap.size + 1, 0, none⟩ = some (.int .i64 b.fN) := (hst2.cell (p := ⟨w.heap.size + 1, 0, none⟩) sz1_b).trans bx1_b_0
      have bx2_b_1 : w2.cell? ⟨w.heap.size + 1, 1, none⟩ = some (.slice b0 b.fRows.length c1_0) := (hst2.cell (p := ⟨w.heap.size + 1, 1, none⟩) sz1_b).trans bx1_b_1
      have sz2_z : w.heap.size + 2 < w2.heap.size := Nat.lt_of_lt_of_le sz1_z hst2.size
      have bx2_z_0 : w2.cell? ⟨w.heap.size + 2, 0, none⟩ = some (.int .i64 0) := (hst2.cell (p := ⟨w.heap.size + 2, 0, none⟩) sz1_z).trans bx1_z_0
      have fz2_z_0 : w2.frozen? ⟨w.heap.size + 2, 0, none⟩ = false := (hst2.frozen (p := ⟨w.heap.size + 2, 0, none⟩) sz1_z).trans fz1_z_0
      have bx2_z_1 : w2.cell? ⟨w.heap.size + 2, 1, none⟩ = some (.slice none 0 0) := (hst2.cell (p := ⟨w.heap.size + 2, 1, none⟩) sz1_z).trans bx1_z_1
      have fz2_z_1 : w2.frozen? ⟨w.heap.size + 2, 1, none⟩ = false := (hst2.frozen (p := ⟨w.heap.size + 2, 1, none⟩) sz1_z).trans fz1_z_1
      have sz2_x : w1.heap.size < w2.heap.size := Nat.lt_of_lt_of_le (by first | omega | (simp; done) | (simp; omega) | (simp [World.setCell]; omega)) hb2.size
      have bx2_x_0 : w2.cell? ⟨w1.heap.size, 0, none⟩ = some (.int .i64 a.fN) := (hb2.cell (p := ⟨w1.heap.size, 0, none⟩) (by first | omega | (simp; done) | (simp; omega) | (simp [World.setCell]; omega))).trans (by go_simp)
      have bx2_x_1 : w2.cell? ⟨w1.heap.size, 1, none⟩ = some (.slice a1 a.fRows.length c1) := (hb2.cell (p := ⟨w1.heap.size, 1, none⟩) (by first | omega | (simp; done) | (simp; omega) | (simp [World.setCell]; omega))).trans (by go_simp)
      have HG2 := Lib.hid ((hst2.block (w.heap.size + 2) sz1_z).trans HG1.out)
      have HO2 := Lib.hid (HO1.out.kept (Kept.of_below_all hst2))
      have HB2 := Lib.hid (HB1.out.trans (hst2.mono HB1.out.size))
      have hr2 : w1.heap.size ≤ w2.heap.size := hst2.size
      clear hb2 hst2 bx1_a_0 bx1_a_1 sz1_a bx1_b_0 bx1_b_1 sz1_b bx1_z_0 bx1_z_1 sz1_z fz1_z_0 fz1_z_1
      go_wp2_with fail
      refine (spec_relValid (c0 := c1_0) b HL_b.out false HVB.out _ (Nat.le_trans HH.out (Nat.le_trans HB2.out.size (Below.size (by repeat (first | (with_reducible exact Below.refl _ _) | (with_reducible apply Below.drew) | (with_reducible refine below_drewN ?_ _) | (refine Below.setCell ?_ (by simp <;> omega) _) | (refine Below.alloc ?_ (by simp <;> omega) _)) : Below w2.heap.size w2 _)))) (HS_b.out.later (HB2.out.trans ((by repeat (first | (with_reducible exact Below.refl _ _) | (with_reducible apply Below.drew) | (with_reducible refine below_drewN ?_ _) | (refine Below.setCell ?_ (by simp <;> omega) _) | (refine Below.alloc ?_ (by simp <;> omega) _)) : Below w2.heap.size w2 _).mono HB2.out.size)) HH.out)).mono ?_
      rintro e w3 ⟨rfl, hb3⟩
      have hst3 : Below w2.heap.size w2 w3 := Below.trans (by repeat (first | (with_reducible exact Below.refl _ _) | (with_reducible apply Below.drew) | (with_reducible refine below_drewN ?_ _) | (refine Below.setCell ?_ (by simp <;> omega) _) | (refine Below.alloc ?_ (by simp <;> omega) _)) : Below w2.heap.size w2 _) (hb3.mono (Below.size (by repeat (first | (with_reducible exact Below.refl _ _) | (with_reducible apply Below.drew) | (with_reducible refine below_drewN ?_ _) | (refine Below.setCell ?_ (by simp <;> omega) _) | (refine Below.alloc ?_ (by simp <;> omega) _)) : Below w2.heap.size w2 _)))
      have sz3_a : w.heap.size < w3.heap.size := Nat.lt_of_lt_of_le sz2_a hst3.size
      have bx3_a_0 : w3.cell? ⟨w.heap.size, 0, none⟩ = some (.int .i64 a.fN) := (hst3.cell (p := ⟨w.heap.size, 0, none⟩) sz2_a).trans bx2_a_0
      have bx3_a_1 : w3.cell? ⟨w.heap.size, 1, none⟩ = some (.slice a0 a.fRows.length c0_0) := (hst3.cell (p := ⟨w.heap.size, 1, none⟩) sz2_a).trans bx2_a_1
      have sz3_b : w.heap.size + 1 < w3.heap.size := Nat.lt_of_lt_of_le sz2_b hst3.size
      have bx3_b_0 : w3.cell? ⟨w.heap.size + 1, 0, none⟩ = some (.int .i64 b.fN) := (hst3.cell (p := ⟨w.heap.size + 1, 0, none⟩) sz2_b).trans bx2_b_0
      have bx3_b_1 : w3.cell? ⟨w.heap.size + 1, 1, none⟩ = some (.slice b0 b.fRows.length c1_0) := (hst3.cell (p := ⟨w.heap.size + 1, 1, none⟩) sz2_b).trans bx2_b_1
      have sz3_z : w.heap.size + 2 < w3.heap.size := Nat.lt_of_lt_of_le sz2_z hst3.size
      have bx3_z_0 : w3.cell? ⟨w.heap.size + 2, 0, none⟩ = some (.int .i64 0) := (hst3.cell (p := ⟨w.heap.size + 2, 0, none⟩) sz2_z).trans bx2_z_0
      have fz3_z_0 : w3.frozen? ⟨w.heap.size + 2, 0, none⟩ = false := (hst3.frozen (p := ⟨w.heap.size + 2, 0, none⟩) sz2_z).trans fz2_z_0
      have bx3_z_1 : w3.cell? ⟨w.heap.size + 2, 1, none⟩ = some (.slice none 0 0) := (hst3.cell (p := ⟨w.heap.size + 2, 1, none⟩) sz2_z).trans bx2_z_1
      have fz3_z_1 : w3.frozen? ⟨w.heap.size + 2, 1, none⟩ = false := (hst3.frozen (p := ⟨w.heap.size + 2, 1, none⟩) sz2_z).trans fz2_z_1
      have sz3_x : w1.heap.size < w3.heap.size := Nat.lt_of_lt_of_le sz2_x hst3.size
      have bx3_x_0 : w3.cell? ⟨w1.heap.size, 0, none⟩ = some (.int .i64 a.fN) := (hst3.cell (p := ⟨w1.heap.size, 0, none⟩) sz2_x).trans bx2_x_0
      have bx3_x_1 : w3.cell? ⟨w1.heap.size, 1, none⟩ = some (.slice a1 a.fRows.length c1) := (hst3.cell (p := ⟨w1.heap.size, 1, none⟩) sz2_x).trans bx2_x_1
      have HG3 := Lib.hid ((hst3.block (w.heap.size + 2) sz2_z).trans HG2.out)
      have HO3 := Lib.hid (HO2.out.kept (Kept.of_below_all hst3))
      have HB3 := Lib.hid (HB2.out.trans (hst3.mono HB2.out.size))
      have hr3 : w2.heap.size ≤ w3.heap.size := hst3.size
      clear hb3 hst3 bx2_a_0 bx2_a_1 sz2_a bx2_b_0 bx2_b_1 sz2_b bx2_z_0 bx2_z_1 sz2_z fz2_z_0 fz2_z_1 bx2_x_0 bx2_x_1 sz2_x
      go_wp2
      refine bodyPost_ret (v := .agg #[.int .i64 a.fN, .slice a1 a.fRows.length c1]) (results_cell_row Try.results25 _ _ (w.heap.size + 2) 27 #[.int .i64 a.fN, .slice a1 a.fRows.length c1] (0, 0) _ rfl (by refine Eq.trans (blk_set (cs := #[.int .i64 a.fN, .slice none 0 0]) (t := 27) (fr := (0, 0)) ?_) rfl; refine Eq.trans (blk_set (cs := #[.int .i64 0, .slice none 0 0]) (t := 27) (fr := (0, 0)) ?_) rfl; repeat (first | (with_reducible exact HG3.out) | (refine blk_other (by dsimp only; omega) ?_))) Try.underlying27 rfl rfl) rfl ?_
      rw [fin.out]
      refine ⟨a1, c1, rfl, ?_, ?_⟩
      · refine Own.sub (F := fun y => w.heap.size + 3 ≤ y ∧ y < w1.heap.size) (Own.kept (HO3.out) ?_) (fun y hy => ⟨Nat.le_trans (by omega) hy.1, Nat.lt_of_lt_of_le hy.2 (by first | (simp; done) | (simp; omega))⟩)
        repeat (first | (with_reducible exact Kept.refl) | (with_reducible apply Kept.drew) | (with_reducible apply Kept.drewN) | (refine Kept.put ?_ (by intro h; have h1 := h.1; dsimp only at h1; omega)))
      · repeat (first | (with_reducible exact HB3.out) | (with_reducible apply Below.drew) | (with_reducible refine below_drewN ?_ _) | (refine Below.setCell ?_ (by simp <;> omega) _) | (refine Below.alloc ?_ (by simp <;> omega) _))
    | true =>
      have HVB := Lib.hid hvb
      by_cases hN : a.fN = b.fN
      · have fin := Lib.hid (unionRel_yes (a := a) (b := b) (by unfold uniB; rw [hva, hvb, hN]; simp))
        have HPA := Lib.hid (relB_parts hva)
        have HPB := Lib.hid (relB_parts hvb)
        have HN := Lib.hid hN
        have hlen : a.fRows.length = b.fRows.length := by
          obtain ⟨n, h1, h2, h3, _⟩ := HPA.out
          obtain ⟨m, g1, g2, g3, _⟩ := HPB.out
          omega
        have hlenN : (a.fRows.length : Int) = a.fN := by
          obtain ⟨n, h1, h2, h3, _⟩ := HPA.out
          omega
        have HLEN := Lib.hid hlen
        have HLN := Lib.hid hlenN
        have hN1 : 0 ≤ a.fN ∧ a.fN ≤ 16 := by
          obtain ⟨n, h1, h2, _⟩ := HPA.out
          rw [h2]; omega
        clear hva hvb hN hlen hlenN
        go_enter Try.func25, Try.ntmps25
        go_wp2_with fail
        refine (spec_copy (c0 := c0_0) a HL_a.out _ (Nat.le_trans HH.out HB0.out.size) (HS_a.out.later HB0.out HH.out)).mono ?_
        rintro e w1 ⟨a1, c1, rfl, ho1, hb1⟩
        have hst1 : Below (w.heap.size + 3) (((w.alloc (.cells #[.int .i64 a.fN, .slice a0 a.fRows.length c0_0] 27)).alloc (.cells #[.int .i64 b.fN, .slice b0 b.fRows.length c1_0] 27)).alloc (.cells #[.int .i64 0, .slice none 0 0] 27)) w1 := hb1.mono (Nat.le_of_eq HSZ0.out.symm)
        have sz1_a : w.heap.size < w1.heap.size := Nat.lt_of_lt_of_le (by show w.heap.size < w.heap.size + 3; omega) (Nat.le_trans (Nat.le_of_eq HSZ0.out.symm) hst1.size)
        have bx1_a_0 : w1.cell? ⟨w.heap.size, 0, none⟩ = some (.int .i64 a.fN) := (hst1.cell (p := ⟨w.heap.size, 0, none⟩) (by show w.heap.size < w.heap.size + 3; omega)).trans (by go_simp)
        have bx1_a_1 : w1.cell? ⟨w.heap.size, 1, none⟩ = some (.slice a0 a.fRows.length c0_0) := (hst1.cell (p := ⟨w.heap.size, 1, none⟩) (by show w.heap.size < w.heap.size + 3; omega)).trans (by go_simp)
        have sz1_b : w.heap.size + 1 < w1.heap.size := Nat.lt_of_lt_of_le (by show w.heap.size + 1 < w.heap.size + 3; omega) (Nat.le_trans (Nat.le_of_eq HSZ0.out.symm) hst1.size)
        have bx1_b_0 : w1.cell? ⟨w.heap.size + 1, 0, none⟩ = some (.int .i64 b.fN) := (hst1.cell (p := ⟨w.heap.size + 1, 0, none⟩) (by show w.heap.size + 1 < w.heap.size + 3; omega)).trans (by go_simp)
        have bx1_b_1 : w1.cell? ⟨w.heap.size + 1, 1, none⟩ = some (.slice b0 b.fRows.length c1_0) := (hst1.cell (p := ⟨w.heap.size + 1, 1, none⟩) (by show w.heap.size + 1 < w.heap.size + 3; omega)).trans (by go_simp)
        have sz1_z : w.heap.size + 2 < w1.heap.size := Nat.lt_of_lt_of_le (by show w.heap.size + 2 < w.heap.size + 3; omega) (Nat.le_trans (Nat.le_of_eq HSZ0.out.symm) hst1.size)
        have bx1_z_0 : w1.cell? ⟨w.heap.size + 2, 0, none⟩ = some (.int .i64 0) := (hst1.cell (p := ⟨w.heap.size + 2, 0, none⟩) (by show w.heap.size + 2 < w.heap.size + 3; omega)).trans (by go_simp)
        have fz1_z_0 : w1.frozen? ⟨w.heap.size + 2, 0, none⟩ = false := (hst1.frozen (p := ⟨w.heap.size + 2, 0, none⟩) (by show w.heap.size + 2 < w.heap.size + 3; omega)).trans (by go_simp)
        have bx1_z_1 : w1.cell? ⟨w.heap.size + 2, 1, none⟩ = some (.slice none 0 0) := (hst1.cell (p := ⟨w.heap.size + 2, 1, none⟩) (by show w.heap.size + 2 < w.heap.size + 3; omega)).trans (by go_simp)
        have fz1_z_1 : w1.frozen? ⟨w.heap.size + 2, 1, none⟩ = false := (hst1.frozen (p := ⟨w.heap.size + 2, 1, none⟩) (by show w.heap.size + 2 < w.heap.size + 3; omega)).trans (by go_simp)
        have HG1 := Lib.hid ((hst1.block (w.heap.size + 2) (by omega)).trans HG0.out)
        have HO1 := Lib.hid (ho1.sub (F' := fun y => w.heap.size + 3 ≤ y ∧ y < w1.heap.size) (fun y hy => ⟨Nat.le_trans (Nat.le_of_eq HSZ0.out.symm) hy.1, hy.2⟩))
        clear ho1
        have HB1 := Lib.hid (HB0.out.trans (hb1.mono HB0.out.size))
        clear hb1 hst1
        go_wp2_with fail
        refine (spec_relValid (c0 := c0_0) a HL_a.out true HVA.out _ (Nat.le_trans HH.out (Nat.le_trans HB1.out.size (Below.size (by repeat (first | (with_reducible exact Below.refl _ _) | (with_reducible apply Below.drew) | (with_reducible refine below_drewN ?_ _) | (refine Below.setCell ?_ (by simp <;> omega) _) | (refine Below.alloc ?_ (by simp <;> omega) _)) : Below w1.heap.size w1 _)))) (HS_a.out.later (HB1.out.trans ((by repeat (first | (with_reducible exact Below.refl _ _) | (with_reducible apply Below.drew) | (with_reducible refine below_drewN ?_ _) | (refine Below.setCell ?_ (by simp <;> omega) _) | (refine Below.alloc ?_ (by simp <;> omega) _)) : Below w1.heap.size w1 _).mono HB1.out.size)) HH.out)).mono ?_
        rintro e w2 ⟨rfl, hb2⟩
        have hst2 : Below w1.heap.size w1 w2 := Below.trans (by repeat (first | (with_reducible exact Below.refl _ _) | (with_reducible apply Below.drew) | (with_reducible refine below_drewN ?_ _) | (refine Below.setCell ?_ (by simp <;> omega) _) | (refine Below.alloc ?_ (by simp <;> omega) _)) : Below w1.heap.size w1 _) (hb2.mono (Below.size (by repeat (first | (with_reducible exact Below.refl _ _) | (with_reducible apply Below.drew) | (with_reducible refine below_drewN ?_ _) | (refine Below.setCell ?_ (by simp <;> omega) _) | (refine Below.alloc ?_ (by simp <;> omega) _)) : Below w1.heap.size w1 _)))
        have sz2_a : w.heap.size < w2.heap.size := Nat.lt_of_lt_of_le sz1_a hst2.size
        have bx2_a_0 : w2.cell? ⟨w.heap.size, 0, none⟩ = some (.int .i64 a.fN) := (hst2.cell (p := ⟨w.heap.size, 0, none⟩) sz1_a).trans bx1_a_0
        have bx2_a_1 : w2.cell? ⟨w.heap.size, 1, none⟩ = some (.slice a0 a.fRows.length c0_0) := (hst2.cell (p := ⟨w.heap.size, 1, none⟩) sz1_a).trans bx1_a_1
        have sz2_b : w.heap.size + 1 < w2.heap.size := Nat.lt_of_lt_of_le sz1_b hst2.size
        have bx2_b_0 : w2.cell? ⟨w.heap.size + 1, 0, none⟩ = some (.int .i64 b.fN) := (hst2.cell (p := ⟨w.heap.size + 1, 0, none⟩) sz1_b).trans bx1_b_0
        have bx2_b_1 : w2.cell? ⟨w.heap.size + 1, 1, none⟩ = some (.slice b0 b.fRows.length c1_0) := (hst2.cell (p := ⟨w.heap.size + 1, 1, none⟩) sz1_b).trans bx1_b_1
        have sz2_z : w.heap.size + 2 < w2.heap.size := Nat.lt_of_lt_of_le sz1_z hst2.size
        have bx2_z_0 : w2.cell? ⟨w.heap.size + 2, 0, none⟩ = some (.int .i64 0) := (hst2.cell (p := ⟨w.heap.size + 2, 0, none⟩) sz1_z).trans bx1_z_0
        have fz2_z_0 : w2.frozen? ⟨w.heap.size + 2, 0, none⟩ = false := (hst2.frozen (p := ⟨w.heap.size + 2, 0, none⟩) sz1_z).trans fz1_z_0
        have bx2_z_1 : w2.cell? ⟨w.heap.size + 2, 1, none⟩ = some (.slice none 0 0) := (hst2.cell (p := ⟨w.heap.size + 2, 1, none⟩) sz1_z).trans bx1_z_1
        have fz2_z_1 : w2.frozen? ⟨w.heap.size + 2, 1, none⟩ = false := (hst2.frozen (p := ⟨w.heap.size + 2, 1, none⟩) sz1_z).trans fz1_z_1
        have sz2_x : w1.heap.size < w2.heap.size := Nat.lt_of_lt_of_le (by first | omega | (simp; done) | (simp; omega) | (simp [World.setCell]; omega)) hb2.size
        have bx2_x_0 : w2.cell? ⟨w1.heap.size, 0, none⟩ = some (.int .i64 a.fN) := (hb2.cell (p := ⟨w1.heap.size, 0, none⟩) (by first | omega | (simp; done) | (simp; omega) | (simp [World.setCell]; omega))).trans (by go_simp)
        have bx2_x_1 : w2.cell? ⟨w1.heap.size, 1, none⟩ = some (.slice a1 a.fRows.length c1) := (hb2.cell (p := ⟨w1.heap.size, 1, none⟩) (by first | omega | (simp; done) | (simp; omega) | (simp [World.setCell]; omega))).trans (by go_simp)
        have HG2 := Lib.hid ((hst2.block (w.heap.size + 2) sz1_z).trans HG1.out)
        have HO2 := Lib.hid (HO1.out.kept (Kept.of_below_all hst2))
        have HB2 := Lib.hid (HB1.out.trans (hst2.mono HB1.out.size))
        have hr2 : w1.heap.size ≤ w2.heap.size := hst2.size
        clear hb2 hst2 bx1_a_0 bx1_a_1 sz1_a bx1_b_0 bx1_b_1 sz1_b bx1_z_0 bx1_z_1 sz1_z fz1_z_0 fz1_z_1
        go_wp2_with fail
        refine (spec_relValid (c0 := c1_0) b HL_b.out true HVB.out _ (Nat.le_trans HH.out (Nat.le_trans HB2.out.size (Below.size (by repeat (first | (with_reducible exact Below.refl _ _) | (with_reducible apply Below.drew) | (with_reducible refine below_drewN ?_ _) | (refine Below.setCell ?_ (by simp <;> omega) _) | (refine Below.alloc ?_ (by simp <;> omega) _)) : Below w2.heap.size w2 _)))) (HS_b.out.later (HB2.out.trans ((by repeat (first | (with_reducible exact Below.refl _ _) | (with_reducible apply Below.drew) | (with_reducible refine below_drewN ?_ _) | (refine Below.setCell ?_ (by simp <;> omega) _) | (refine Below.alloc ?_ (by simp <;> omega) _)) : Below w2.heap.size w2 _).mono HB2.out.size)) HH.out)).mono ?_
        rintro e w3 ⟨rfl, hb3⟩
        have hst3 : Below w2.heap.size w2 w3 := Below.trans (by repeat (first | (with_reducible exact Below.refl _ _) | (with_reducible apply Below.drew) | (with_reducible refine below_drewN ?_ _) | (refine Below.setCell ?_ (by simp <;> omega) _) | (refine Below.alloc ?_ (by simp <;> omega) _)) : Below w2.heap.size w2 _) (hb3.mono (Below.size (by repeat (first | (with_reducible exact Below.refl _ _) | (with_reducible apply Below.drew) | (with_reducible refine below_drewN ?_ _) | (refine Below.setCell ?_ (by simp <;> omega) _) | (refine Below.alloc ?_ (by simp <;> omega) _)) : Below w2.heap.size w2 _)))
        have sz3_a : w.heap.size < w3.heap.size := Nat.lt_of_lt_of_le sz2_a hst3.size
        have bx3_a_0 : w3.cell? ⟨w.heap.size, 0, none⟩ = some (.int .i64 a.fN) := (hst3.cell (p := ⟨w.heap.size, 0, none⟩) sz2_a).trans bx2_a_0
        have bx3_a_1 : w3.cell? ⟨w.heap.size, 1, none⟩ = some (.slice a0 a.fRows.length c0_0) := (hst3.cell (p := ⟨w.heap.size, 1, none⟩) sz2_a).trans bx2_a_1
        have sz3_b : w.heap.size + 1 < w3.heap.size := Nat.lt_of_lt_of_le sz2_b hst3.size
        have bx3_b_0 : w3.cell? ⟨w.heap.size + 1, 0, none⟩ = some (.int .i64 b.fN) := (hst3.cell (p := ⟨w.heap.size + 1, 0, none⟩) sz2_b).trans bx2_b_0
        have bx3_b_1 : w3.cell? ⟨w.heap.size + 1, 1, none⟩ = some (.slice b0 b.fRows.length c1_0) := (hst3.cell (p := ⟨w.heap.size + 1, 1, none⟩) sz2_b).trans bx2_b_1
        have sz3_z : w.heap.size + 2 < w3.heap.size := Nat.lt_of_lt_of_le sz2_z hst3.size
        have bx3_z_0 : w3.cell? ⟨w.heap.size + 2, 0, none⟩ = some (.int .i64 0) := (hst3.cell (p := ⟨w.heap.size + 2, 0, none⟩) sz2_z).trans bx2_z_0
        have fz3_z_0 : w3.frozen? ⟨w.heap.size + 2, 0, none⟩ = false := (hst3.frozen (p := ⟨w.heap.size + 2, 0, none⟩) sz2_z).trans fz2_z_0
        have bx3_z_1 : w3.cell? ⟨w.heap.size + 2, 1, none⟩ = some (.slice none 0 0) := (hst3.cell (p := ⟨w.heap.size + 2, 1, none⟩) sz2_z).trans bx2_z_1
        have fz3_z_1 : w3.frozen? ⟨w.heap.size + 2, 1, none⟩ = false := (hst3.frozen (p := ⟨w.heap.size + 2, 1, none⟩) sz2_z).trans fz2_z_1
        have sz3_x : w1.heap.size < w3.heap.size := Nat.lt_of_lt_of_le sz2_x hst3.size
        have bx3_x_0 : w3.cell? ⟨w1.heap.size, 0, none⟩ = some (.int .i64 a.fN) := (hst3.cell (p := ⟨w1.heap.size, 0, none⟩) sz2_x).trans bx2_x_0
        have bx3_x_1 : w3.cell? ⟨w1.heap.size, 1, none⟩ = some (.slice a1 a.fRows.length c1) := (hst3.cell (p := ⟨w1.heap.size, 1, none⟩) sz2_x).trans bx2_x_1
        have HG3 := Lib.hid ((hst3.block (w.heap.size + 2) sz2_z).trans HG2.out)
        have HO3 := Lib.hid (HO2.out.kept (Kept.of_below_all hst3))
        have HB3 := Lib.hid (HB2.out.trans (hst3.mono HB2.out.size))
        have hr3 : w2.heap.size ≤ w3.heap.size := hst3.size
        clear hb3 hst3 bx2_a_0 bx2_a_1 sz2_a bx2_b_0 bx2_b_1 sz2_b bx2_z_0 bx2_z_1 sz2_z fz2_z_0 fz2_z_1 bx2_x_0 bx2_x_1 sz2_x
        have eN : b.fN = a.fN := HN.out.symm
        go_wp2
        have HO := Lib.hid (show Own w3 (fun y => w.heap.size + 3 ≤ y ∧ y < w1.heap.size) (.sl 1 a.fRows.length (fun j => ictI (uniF a.fRows b.fRows 0 j))) (.slice a1 a.fRows.length c1) from HO3.out.congr (fun k _ j _ => by rw [uniF_zero]))
        go_loopw [6] (fun i wr => ∃ k : Nat, k ≤ a.fRows.length ∧ i = .int .i64 (k : Int) ∧ Own wr (fun y => w.heap.size + 3 ≤ y ∧ y < w1.heap.size) (.sl 1 a.fRows.length (fun j => ictI (uniF a.fRows b.fRows k j))) (.slice a1 a.fRows.length c1) ∧ WritesF (fun y => w.heap.size + 3 ≤ y ∧ y < w1.heap.size) w3 wr) (fun i _ => a.fRows.length - (intOf i).toNat)
        case atStart => exact ⟨0, Nat.zero_le _, rfl, HO.out, WritesF.refl _ _⟩
        case round =>
          obtain ⟨k, hk, rfl, hown, hwr⟩ := hrel
          have HW := Lib.hid hwr
          have HOW := Lib.hid hown
          have hfa : wr.cell? ⟨w.heap.size, 0, none⟩ = some (.int .i64 a.fN) := (hwr.cell (p := ⟨w.heap.size, 0, none⟩) sz3_a (by intro h; have h1 := h.1; dsimp only at h1; omega)).trans bx3_a_0
          have hfb : wr.cell? ⟨w.heap.size + 1, 1, none⟩ = some (.slice b0 b.fRows.length c1_0) := (hwr.cell (p := ⟨w.heap.size + 1, 1, none⟩) sz3_b (by intro h; have h1 := h.1; dsimp only at h1; omega)).trans bx3_b_1
          have hx0 : wr.cell? ⟨w1.heap.size, 0, none⟩ = some (.int .i64 a.fN) := (hwr.cell (p := ⟨w1.heap.size, 0, none⟩) sz3_x (by intro h; have h1 := h.2; dsimp only at h1; omega)).trans bx3_x_0
          have hx1 : wr.cell? ⟨w1.heap.size, 1, none⟩ = some (.slice a1 a.fRows.length c1) := (hwr.cell (p := ⟨w1.heap.size, 1, none⟩) sz3_x (by intro h; have h1 := h.2; dsimp only at h1; omega)).trans bx3_x_1
          have hz0 : wr.cell? ⟨w.heap.size + 2, 0, none⟩ = some (.int .i64 0) := (hwr.cell (p := ⟨w.heap.size + 2, 0, none⟩) sz3_z (by intro h; have h1 := h.1; dsimp only at h1; omega)).trans bx3_z_0
          have hz1 : wr.cell? ⟨w.heap.size + 2, 1, none⟩ = some (.slice none 0 0) := (hwr.cell (p := ⟨w.heap.size + 2, 1, none⟩) sz3_z (by intro h; have h1 := h.1; dsimp only at h1; omega)).trans bx3_z_1
          have hq0 : wr.frozen? ⟨w.heap.size + 2, 0, none⟩ = false := (hwr.frozen (p := ⟨w.heap.size + 2, 0, none⟩) sz3_z (by intro h; have h1 := h.1; dsimp only at h1; omega)).trans fz3_z_0
          have hq1 : wr.frozen? ⟨w.heap.size + 2, 1, none⟩ = false := (hwr.frozen (p := ⟨w.heap.size + 2, 1, none⟩) sz3_z (by intro h; have h1 := h.1; dsimp only at h1; omega)).trans fz3_z_1
          have HGW := Lib.hid ((hwr.block (w.heap.size + 2) sz3_z (by intro h; have h1 := h.1; omega)).trans HG3.out)
          have HBW := Lib.hid (HB3.out.trans (hwr.below (fun y hy => by have h1 := hy.1; omega) HB3.out.size))
          have hszr : w3.heap.size ≤ wr.heap.size := hwr.size
          clear hown hwr
          by_cases hlt : k < a.fRows.length
          · have hltN : (k : Int) < a.fN := by have h := HLN.out; omega
            have hltb : k < b.fRows.length := by have h := HLEN.out; omega
            obtain ⟨bb, off, rfl, hFb, hbl, hcs, hzs⟩ := ownf_at HOW.out (by omega)
            have hFb1 : w.heap.size + 3 ≤ bb := hFb.1
            have hFb2 : bb < w1.heap.size := hFb.2
            have hrow := hcs k hlt
            have hrz := hzs (off + k)
            obtain ⟨b2, off2, rfl, _, _, hc2⟩ := (HS_b.out.later HBW.out HH.out).at k hltb
            rw [Nat.mul_one] at hc2
            have hrb := open_Int hc2
            clear hFb hcs hzs hc2
            have HNX := Lib.hid (uniF_next a.fRows b.fRows k)
            have HHR := Lib.hid (uniF_here a.fRows b.fRows k)
            generalize hr1 : uniF a.fRows b.fRows k k = row at hrow
            generalize hr2 : b.fRows.getD k default = rowb at hrb
            have HR1 := Lib.hid hr1
            have HR2 := Lib.hid hr2
            clear hr1 hr2
            go_wp2_with fail
            go_region
            all_goals go_wp2
            all_goals
              go_roundw
              case rel =>
                refine ⟨k + 1, by omega, by go_num, Own.kept (ownf_set HOW.out k hlt (bits BinOp.or IntKind.i64 row rowb) (g' := uniF a.fRows b.fRows (k + 1)) (by rw [HNX.out, ← HHR.out, HR1.out, HR2.out]; rfl) (fun j _ hj => uniF_other hj)) ?_, ?_⟩
                · repeat (first | (with_reducible exact Kept.refl) | (with_reducible apply Kept.drew) | (with_reducible apply Kept.drewN))
                · repeat (first | (with_reducible exact HW.out) | (with_reducible apply WritesF.drew) | (with_reducible refine WritesF.drewN ?_ _) | (refine WritesF.setCell ?_ (by exact ⟨hFb1, hFb2⟩)))
              case measure => simp [intOf]; omega
          · obtain rfl : k = a.fRows.length := by omega
            have hgeN : ¬ (a.fRows.length : Int) < a.fN := by have h := HLN.out; omega
            have hgeb : ¬ (a.fRows.length : Int) < b.fRows.length := by have h := HLEN.out; omega
            have HOF := Lib.hid (own_range_sl HOW.out)
            go_wp2
            refine bodyPost_ret (v := .agg #[.int .i64 a.fN, .slice a1 a.fRows.length c1]) (results_cell_row Try.results25 _ _ (w.heap.size + 2) 27 #[.int .i64 a.fN, .slice a1 a.fRows.length c1] (0, 0) _ rfl (by refine Eq.trans (blk_set (cs := #[.int .i64 a.fN, .slice none 0 0]) (t := 27) (fr := (0, 0)) ?_) rfl; refine Eq.trans (blk_set (cs := #[.int .i64 0, .slice none 0 0]) (t := 27) (fr := (0, 0)) ?_) rfl; repeat (first | (with_reducible exact HGW.out) | (refine blk_other (by dsimp only; omega) ?_))) Try.underlying27 rfl rfl) rfl ?_
            rw [fin.out]
            refine ⟨a1, c1, by simp, ?_, ?_⟩
            · refine Own.sub (F := fun y => w.heap.size + 3 ≤ y ∧ y < w1.heap.size) (Own.kept (HOF.out) ?_) (fun y hy => ⟨Nat.le_trans (by omega) hy.1, Nat.lt_of_lt_of_le hy.2 (by first | (simp; done) | (simp; omega))⟩)
              repeat (first | (with_reducible exact Kept.refl) | (with_reducible apply Kept.drew) | (with_reducible apply Kept.drewN) | (refine Kept.put ?_ (by intro h; have h1 := h.1; dsimp only at h1; omega)))
            · repeat (first | (with_reducible exact HBW.out) | (with_reducible apply Below.drew) | (with_reducible refine below_drewN ?_ _) | (refine Below.setCell ?_ (by simp <;> omega) _) | (refine Below.alloc ?_ (by simp <;> omega) _))
      · have fin := Lib.hid (unionRel_no (a := a) (b := b) (by unfold uniB; rw [show (a.fN == b.fN) = false from beq_eq_false_iff_ne.2 hN, Bool.and_false]))
        have e1 : (a.fN == b.fN) = false := beq_eq_false_iff_ne.2 hN
        have e2 : (a.fN != b.fN) = true := by simp [bne, e1]
        clear hva hvb hN
        go_enter Try.func25, Try.ntmps25
        go_wp2_with fail
        refine (spec_copy (c0 := c0_0) a HL_a.out _ (Nat.le_trans HH.out HB0.out.size) (HS_a.out.later HB0.out HH.out)).mono ?_
        rintro e w1 ⟨a1, c1, rfl, ho1, hb1⟩
        have hst1 : Below (w.heap.size + 3) (((w.alloc (.cells #[.int .i64 a.fN, .slice a0 a.fRows.length c0_0] 27)).alloc (.cells #[.int .i64 b.fN, .slice b0 b.fRows.length c1_0] 27)).alloc (.cells #[.int .i64 0, .slice none 0 0] 27)) w1 := hb1.mono (Nat.le_of_eq HSZ0.out.symm)
        have sz1_a : w.heap.size < w1.heap.size := Nat.lt_of_lt_of_le (by show w.heap.size < w.heap.size + 3; omega) (Nat.le_trans (Nat.le_of_eq HSZ0.out.symm) hst1.size)
        have bx1_a_0 : w1.cell? ⟨w.heap.size, 0, none⟩ = some (.int .i64 a.fN) := (hst1.cell (p := ⟨w.heap.size, 0, none⟩) (by show w.heap.size < w.heap.size + 3; omega)).trans (by go_simp)
        have bx1_a_1 : w1.cell? ⟨w.heap.size, 1, none⟩ = some (.slice a0 a.fRows.length c0_0) := (hst1.cell (p := ⟨w.heap.size, 1, none⟩) (by show w.heap.size < w.heap.size + 3; omega)).trans (by go_simp)
        have sz1_b : w.heap.size + 1 < w1.heap.size := Nat.lt_of_lt_of_le (by show w.heap.size + 1 < w.heap.size + 3; omega) (Nat.le_trans (Nat.le_of_eq HSZ0.out.symm) hst1.size)
        have bx1_b_0 : w1.cell? ⟨w.heap.size + 1, 0, none⟩ = some (.int .i64 b.fN) := (hst1.cell (p := ⟨w.heap.size + 1, 0, none⟩) (by show w.heap.size + 1 < w.heap.size + 3; omega)).trans (by go_simp)
        have bx1_b_1 : w1.cell? ⟨w.heap.size + 1, 1, none⟩ = some (.slice b0 b.fRows.length c1_0) := (hst1.cell (p := ⟨w.heap.size + 1, 1, none⟩) (by show w.heap.size + 1 < w.heap.size + 3; omega)).trans (by go_simp)
        have sz1_z : w.heap.size + 2 < w1.heap.size := Nat.lt_of_lt_of_le (by show w.heap.size + 2 < w.heap.size + 3; omega) (Nat.le_trans (Nat.le_of_eq HSZ0.out.symm) hst1.size)
        have bx1_z_0 : w1.cell? ⟨w.heap.size + 2, 0, none⟩ = some (.int .i64 0) := (hst1.cell (p := ⟨w.heap.size + 2, 0, none⟩) (by show w.heap.size + 2 < w.heap.size + 3; omega)).trans (by go_simp)
        have fz1_z_0 : w1.frozen? ⟨w.heap.size + 2, 0, none⟩ = false := (hst1.frozen (p := ⟨w.heap.size + 2, 0, none⟩) (by show w.heap.size + 2 < w.heap.size + 3; omega)).trans (by go_simp)
        have bx1_z_1 : w1.cell? ⟨w.heap.size + 2, 1, none⟩ = some (.slice none 0 0) := (hst1.cell (p := ⟨w.heap.size + 2, 1, none⟩) (by show w.heap.size + 2 < w.heap.size + 3; omega)).trans (by go_simp)
        have fz1_z_1 : w1.frozen? ⟨w.heap.size + 2, 1, none⟩ = false := (hst1.frozen (p := ⟨w.heap.size + 2, 1, none⟩) (by show w.heap.size + 2 < w.heap.size + 3; omega)).trans (by go_simp)
        have HG1 := Lib.hid ((hst1.block (w.heap.size + 2) (by omega)).trans HG0.out)
        have HO1 := Lib.hid (ho1.sub (F' := fun y => w.heap.size + 3 ≤ y ∧ y < w1.heap.size) (fun y hy => ⟨Nat.le_trans (Nat.le_of_eq HSZ0.out.symm) hy.1, hy.2⟩))
        clear ho1
        have HB1 := Lib.hid (HB0.out.trans (hb1.mono HB0.out.size))
        clear hb1 hst1
        go_wp2_with fail
        refine (spec_relValid (c0 := c0_0) a HL_a.out true HVA.out _ (Nat.le_trans HH.out (Nat.le_trans HB1.out.size (Below.size (by repeat (first | (with_reducible exact Below.refl _ _) | (with_reducible apply Below.drew) | (with_reducible refine below_drewN ?_ _) | (refine Below.setCell ?_ (by simp <;> omega) _) | (refine Below.alloc ?_ (by simp <;> omega) _)) : Below w1.heap.size w1 _)))) (HS_a.out.later (HB1.out.trans ((by repeat (first | (with_reducible exact Below.refl _ _) | (with_reducible apply Below.drew) | (with_reducible refine below_drewN ?_ _) | (refine Below.setCell ?_ (by simp <;> omega) _) | (refine Below.alloc ?_ (by simp <;> omega) _)) : Below w1.heap.size w1 _).mono HB1.out.size)) HH.out)).mono ?_
        rintro e w2 ⟨rfl, hb2⟩
        have hst2 : Below w1.heap.size w1 w2 := Below.trans (by repeat (first | (with_reducible exact Below.refl _ _) | (with_reducible apply Below.drew) | (with_reducible refine below_drewN ?_ _) | (refine Below.setCell ?_ (by simp <;> omega) _) | (refine Below.alloc ?_ (by simp <;> omega) _)) : Below w1.heap.size w1 _) (hb2.mono (Below.size (by repeat (first | (with_reducible exact Below.refl _ _) | (with_reducible apply Below.drew) | (with_reducible refine below_drewN ?_ _) | (refine Below.setCell ?_ (by simp <;> omega) _) | (refine Below.alloc ?_ (by simp <;> omega) _)) : Below w1.heap.size w1 _)))
        have sz2_a : w.heap.size < w2.heap.size := Nat.lt_of_lt_of_le sz1_a hst2.size
        have bx2_a_0 : w2.cell? ⟨w.heap.size, 0, none⟩ = some (.int .i64 a.fN) := (hst2.cell (p := ⟨w.heap.size, 0, none⟩) sz1_a).trans bx1_a_0
        have bx2_a_1 : w2.cell? ⟨w.heap.size, 1, none⟩ = some (.slice a0 a.fRows.length c0_0) := (hst2.cell (p := ⟨w.heap.size, 1, none⟩) sz1_a).trans bx1_a_1
        have sz2_b : w.heap.size + 1 < w2.heap.size := Nat.lt_of_lt_of_le sz1_b hst2.size
        have bx2_b_0 : w2.cell? ⟨w.heap.size + 1, 0, none⟩ = some (.int .i64 b.fN) := (hst2.cell (p := ⟨w.heap.size + 1, 0, none⟩) sz1_b).trans bx1_b_0
        have bx2_b_1 : w2.cell? ⟨w.heap.size + 1, 1, none⟩ = some (.slice b0 b.fRows.length c1_0) := (hst2.cell (p := ⟨w.heap.size + 1, 1, none⟩) sz1_b).trans bx1_b_1
        have sz2_z : w.heap.size + 2 < w2.heap.size := Nat.lt_of_lt_of_le sz1_z hst2.size
        have bx2_z_0 : w2.cell? ⟨w.heap.size + 2, 0, none⟩ = some (.int .i64 0) := (hst2.cell (p := ⟨w.heap.size + 2, 0, none⟩) sz1_z).trans bx1_z_0
        have fz2_z_0 : w2.frozen? ⟨w.heap.size + 2, 0, none⟩ = false := (hst2.frozen (p := ⟨w.heap.size + 2, 0, none⟩) sz1_z).trans fz1_z_0
        have bx2_z_1 : w2.cell? ⟨w.heap.size + 2, 1, none⟩ = some (.slice none 0 0) := (hst2.cell (p := ⟨w.heap.size + 2, 1, none⟩) sz1_z).trans bx1_z_1
        have fz2_z_1 : w2.frozen? ⟨w.heap.size + 2, 1, none⟩ = false := (hst2.frozen (p := ⟨w.heap.size + 2, 1, none⟩) sz1_z).trans fz1_z_1
        have sz2_x : w1.heap.size < w2.heap.size := Nat.lt_of_lt_of_le (by first | omega | (simp; done) | (simp; omega) | (simp [World.setCell]; omega)) hb2.size
        have bx2_x_0 : w2.cell? ⟨w1.heap.size, 0, none⟩ = some (.int .i64 a.fN) := (hb2.cell (p := ⟨w1.heap.size, 0, none⟩) (by first | omega | (simp; done) | (simp; omega) | (simp [World.setCell]; omega))).trans (by go_simp)
        have bx2_x_1 : w2.cell? ⟨w1.heap.size, 1, none⟩ = some (.slice a1 a.fRows.length c1) := (hb2.cell (p := ⟨w1.heap.size, 1, none⟩) (by first | omega | (simp; done) | (simp; omega) | (simp [World.setCell]; omega))).trans (by go_simp)
        have HG2 := Lib.hid ((hst2.block (w.heap.size + 2) sz1_z).trans HG1.out)
        have HO2 := Lib.hid (HO1.out.kept (Kept.of_below_all hst2))
        have HB2 := Lib.hid (HB1.out.trans (hst2.mono HB1.out.size))
        have hr2 : w1.heap.size ≤ w2.heap.size := hst2.size
        clear hb2 hst2 bx1_a_0 bx1_a_1 sz1_a bx1_b_0 bx1_b_1 sz1_b bx1_z_0 bx1_z_1 sz1_z fz1_z_0 fz1_z_1
        go_wp2_with fail
        refine (spec_relValid (c0 := c1_0) b HL_b.out true HVB.out _ (Nat.le_trans HH.out (Nat.le_trans HB2.out.size (Below.size (by repeat (first | (with_reducible exact Below.refl _ _) | (with_reducible apply Below.drew) | (with_reducible refine below_drewN ?_ _) | (refine Below.setCell ?_ (by simp <;> omega) _) | (refine Below.alloc ?_ (by simp <;> omega) _)) : Below w2.heap.size w2 _)))) (HS_b.out.later (HB2.out.trans ((by repeat (first | (with_reducible exact Below.refl _ _) | (with_reducible apply Below.drew) | (with_reducible refine below_drewN ?_ _) | (refine Below.setCell ?_ (by simp <;> omega) _) | (refine Below.alloc ?_ (by simp <;> omega) _)) : Below w2.heap.size w2 _).mono HB2.out.size)) HH.out)).mono ?_
        rintro e w3 ⟨rfl, hb3⟩
        have hst3 : Below w2.heap.size w2 w3 := Below.trans (by repeat (first | (with_reducible exact Below.refl _ _) | (with_reducible apply Below.drew) | (with_reducible refine below_drewN ?_ _) | (refine Below.setCell ?_ (by simp <;> omega) _) | (refine Below.alloc ?_ (by simp <;> omega) _)) : Below w2.heap.size w2 _) (hb3.mono (Below.size (by repeat (first | (with_reducible exact Below.refl _ _) | (with_reducible apply Below.drew) | (with_reducible refine below_drewN ?_ _) | (refine Below.setCell ?_ (by simp <;> omega) _) | (refine Below.alloc ?_ (by simp <;> omega) _)) : Below w2.heap.size w2 _)))
        have sz3_a : w.heap.size < w3.heap.size := Nat.lt_of_lt_of_le sz2_a hst3.size
        have bx3_a_0 : w3.cell? ⟨w.heap.size, 0, none⟩ = some (.int .i64 a.fN) := (hst3.cell (p := ⟨w.heap.size, 0, none⟩) sz2_a).trans bx2_a_0
        have bx3_a_1 : w3.cell? ⟨w.heap.size, 1, none⟩ = some (.slice a0 a.fRows.length c0_0) := (hst3.cell (p := ⟨w.heap.size, 1, none⟩) sz2_a).trans bx2_a_1
        have sz3_b : w.heap.size + 1 < w3.heap.size := Nat.lt_of_lt_of_le sz2_b hst3.size
        have bx3_b_0 : w3.cell? ⟨w.heap.size + 1, 0, none⟩ = some (.int .i64 b.fN) := (hst3.cell (p := ⟨w.heap.size + 1, 0, none⟩) sz2_b).trans bx2_b_0
        have bx3_b_1 : w3.cell? ⟨w.heap.size + 1, 1, none⟩ = some (.slice b0 b.fRows.length c1_0) := (hst3.cell (p := ⟨w.heap.size + 1, 1, none⟩) sz2_b).trans bx2_b_1
        have sz3_z : w.heap.size + 2 < w3.heap.size := Nat.lt_of_lt_of_le sz2_z hst3.size
        have bx3_z_0 : w3.cell? ⟨w.heap.size + 2, 0, none⟩ = some (.int .i64 0) := (hst3.cell (p := ⟨w.heap.size + 2, 0, none⟩) sz2_z).trans bx2_z_0
        have fz3_z_0 : w3.frozen? ⟨w.heap.size + 2, 0, none⟩ = false := (hst3.frozen (p := ⟨w.heap.size + 2, 0, none⟩) sz2_z).trans fz2_z_0
        have bx3_z_1 : w3.cell? ⟨w.heap.size + 2, 1, none⟩ = some (.slice none 0 0) := (hst3.cell (p := ⟨w.heap.size + 2, 1, none⟩) sz2_z).trans bx2_z_1
        have fz3_z_1 : w3.frozen? ⟨w.heap.size + 2, 1, none⟩ = false := (hst3.frozen (p := ⟨w.heap.size + 2, 1, none⟩) sz2_z).trans fz2_z_1
        have sz3_x : w1.heap.size < w3.heap.size := Nat.lt_of_lt_of_le sz2_x hst3.size
        have bx3_x_0 : w3.cell? ⟨w1.heap.size, 0, none⟩ = some (.int .i64 a.fN) := (hst3.cell (p := ⟨w1.heap.size, 0, none⟩) sz2_x).trans bx2_x_0
        have bx3_x_1 : w3.cell? ⟨w1.heap.size, 1, none⟩ = some (.slice a1 a.fRows.length c1) := (hst3.cell (p := ⟨w1.heap.size, 1, none⟩) sz2_x).trans bx2_x_1
        have HG3 := Lib.hid ((hst3.block (w.heap.size + 2) sz2_z).trans HG2.out)
        have HO3 := Lib.hid (HO2.out.kept (Kept.of_below_all hst3))
        have HB3 := Lib.hid (HB2.out.trans (hst3.mono HB2.out.size))
        have hr3 : w2.heap.size ≤ w3.heap.size := hst3.size
        clear hb3 hst3 bx2_a_0 bx2_a_1 sz2_a bx2_b_0 bx2_b_1 sz2_b bx2_z_0 bx2_z_1 sz2_z fz2_z_0 fz2_z_1 bx2_x_0 bx2_x_1 sz2_x
        go_wp2
        refine bodyPost_ret (v := .agg #[.int .i64 a.fN, .slice a1 a.fRows.length c1]) (results_cell_row Try.results25 _ _ (w.heap.size + 2) 27 #[.int .i64 a.fN, .slice a1 a.fRows.length c1] (0, 0) _ rfl (by refine Eq.trans (blk_set (cs := #[.int .i64 a.fN, .slice none 0 0]) (t := 27) (fr := (0, 0)) ?_) rfl; refine Eq.trans (blk_set (cs := #[.int .i64 0, .slice none 0 0]) (t := 27) (fr := (0, 0)) ?_) rfl; repeat (first | (with_reducible exact HG3.out) | (refine blk_other (by dsimp only; omega) ?_))) Try.underlying27 rfl rfl) rfl ?_
        rw [fin.out]
        refine ⟨a1, c1, rfl, ?_, ?_⟩
        · refine Own.sub (F := fun y => w.heap.size + 3 ≤ y ∧ y < w1.heap.size) (Own.kept (HO3.out) ?_) (fun y hy => ⟨Nat.le_trans (by omega) hy.1, Nat.lt_of_lt_of_le hy.2 (by first | (simp; done) | (simp; omega))⟩)
          repeat (first | (with_reducible exact Kept.refl) | (with_reducible apply Kept.drew) | (with_reducible apply Kept.drewN) | (refine Kept.put ?_ (by intro h; have h1 := h.1; dsimp only at h1; omega)))
        · repeat (first | (with_reducible exact HB3.out) | (with_reducible apply Below.drew) | (with_reducible refine below_drewN ?_ _) | (refine Below.setCell ?_ (by simp <;> omega) _) | (refine Below.alloc ?_ (by simp <;> omega) _))

set_option maxHeartbeats 1600000 in
set_option maxRecDepth 100000 in
theorem impl_UnionRelation {lo hi c0_0 c1_0 : Nat} {a0 b0 : Option Addr} (a : DRelation) (_ : a.ok) (hsz : a.sz ≤ 1048576) (b : DRelation) (_ : b.ok) (hszb : b.sz ≤ 1048576) (w : World) (hhi : hi ≤ w.heap.size) (hs : Sl lo hi w 1 a.fRows.length (rowsI a.fRows) a0) (hsb : Sl lo hi w 1 b.fRows.length (rowsI b.fRows) b0) :
    Calls Try.prog 24 #[.agg #[.int .i64 a.fN, .slice a0 a.fRows.length c0_0], .agg #[.int .i64 b.fN, .slice b0 b.fRows.length c1_0]] w (RelOut (unionRel a b) w) := by
  have HL_a := Lib.hid (rel_len hsz)
  have HL_b := Lib.hid (rel_len hszb)
  have HS_a := Lib.hid hs
  have HS_b := Lib.hid hsb
  have HH := Lib.hid hhi
  clear hs hsb hhi hsz hszb
  have HB0 := Lib.hid ((((Below.refl w.heap.size w).alloc (Nat.le_refl _) (.cells #[.int .i64 a.fN, .slice a0 a.fRows.length c0_0] 27)).alloc (by simp <;> omega) (.cells #[.int .i64 b.fN, .slice b0 b.fRows.length c1_0] 27)).alloc (by simp <;> omega) (.cells #[.int .i64 0, .slice none 0 0] 27))
  have HG0 := Lib.hid (show (((w.alloc (.cells #[.int .i64 a.fN, .slice a0 a.fRows.length c0_0] 27)).alloc (.cells #[.int .i64 b.fN, .slice b0 b.fRows.length c1_0] 27)).alloc (.cells #[.int .i64 0, .slice none 0 0] 27)).heap[w.heap.size + 2]? = some (.cells #[.int .i64 0, .slice none 0 0] 27) from blk_new (by simp))
  have HSZ0 := Lib.hid (show (((w.alloc (.cells #[.int .i64 a.fN, .slice a0 a.fRows.length c0_0] 27)).alloc (.cells #[.int .i64 b.fN, .slice b0 b.fRows.length c1_0] 27)).alloc (.cells #[.int .i64 0, .slice none 0 0] 27)).heap.size = w.heap.size + 3 by simp)
  cases hva : relB a with
  | false =>
    have HVA := Lib.hid hva
    have fin := Lib.hid (unionRel_no (a := a) (b := b) (by unfold uniB; rw [hva]; rfl))
    clear hva
    go_enter Try.func24, Try.ntmps24
    go_wp2_with fail
    refine (impl_copyRelation (c0 := c0_0) a HL_a.out _ (Nat.le_trans HH.out HB0.out.size) (HS_a.out.later HB0.out HH.out)).mono ?_
    rintro e w1 ⟨a1, c1, rfl, ho1, hb1⟩
    have hst1 : Below (w.heap.size + 3) (((w.alloc (.cells #[.int .i64 a.fN, .slice a0 a.fRows.length c0_0] 27)).alloc (.cells #[.int .i64 b.fN, .slice b0 b.fRows.length c1_0] 27)).alloc (.cells #[.int .i64 0, .slice none 0 0] 27)) w1 := hb1.mono (Nat.le_of_eq HSZ0.out.symm)
    have sz1_a : w.heap.size < w1.heap.size := Nat.lt_of_lt_of_le (by show w.heap.size < w.heap.size + 3; omega) (Nat.le_trans (Nat.le_of_eq HSZ0.out.symm) hst1.size)
    have bx1_a_0 : w1.cell? ⟨w.heap.size, 0, none⟩ = some (.int .i64 a.fN) := (hst1.cell (p := ⟨w.heap.size, 0, none⟩) (by show w.heap.size < w.heap.size + 3; omega)).trans (by go_simp)
    have bx1_a_1 : w1.cell? ⟨w.heap.size, 1, none⟩ = some (.slice a0 a.fRows.length c0_0) := (hst1.cell (p := ⟨w.heap.size, 1, none⟩) (by show w.heap.size < w.heap.size + 3; omega)).trans (by go_simp)
    have sz1_b : w.heap.size + 1 < w1.heap.size := Nat.lt_of_lt_of_le (by show w.heap.size + 1 < w.heap.size + 3; omega) (Nat.le_trans (Nat.le_of_eq HSZ0.out.symm) hst1.size)
    have bx1_b_0 : w1.cell? ⟨w.heap.size + 1, 0, none⟩ = some (.int .i64 b.fN) := (hst1.cell (p := ⟨w.heap.size + 1, 0, none⟩) (by show w.heap.size + 1 < w.heap.size + 3; omega)).trans (by go_simp)
    have bx1_b_1 : w1.cell? ⟨w.heap.size + 1, 1, none⟩ = some (.slice b0 b.fRows.length c1_0) := (hst1.cell (p := ⟨w.heap.size + 1, 1, none⟩) (by show w.heap.size + 1 < w.heap.size + 3; omega)).trans (by go_simp)
    have sz1_z : w.heap.size + 2 < w1.heap.size := Nat.lt_of_lt_of_le (by show w.heap.size + 2 < w.heap.size + 3; omega) (Nat.le_trans (Nat.le_of_eq HSZ0.out.symm) hst1.size)
    have bx1_z_0 : w1.cell? ⟨w.heap.size + 2, 0, none⟩ = some (.int .i64 0) := (hst1.cell (p := ⟨w.heap.size + 2, 0, none⟩) (by show w.heap.size + 2 < w.heap.size + 3; omega)).trans (by go_simp)
    have fz1_z_0 : w1.frozen? ⟨w.heap.size + 2, 0, none⟩ = false := (hst1.frozen (p := ⟨w.heap.size + 2, 0, none⟩) (by show w.heap.size + 2 < w.heap.size + 3; omega)).trans (by go_simp)
    have bx1_z_1 : w1.cell? ⟨w.heap.size + 2, 1, none⟩ = some (.slice none 0 0) := (hst1.cell (p := ⟨w.heap.size + 2, 1, none⟩) (by show w.heap.size + 2 < w.heap.size + 3; omega)).trans (by go_simp)
    have fz1_z_1 : w1.frozen? ⟨w.heap.size + 2, 1, none⟩ = false := (hst1.frozen (p := ⟨w.heap.size + 2, 1, none⟩) (by show w.heap.size + 2 < w.heap.size + 3; omega)).trans (by go_simp)
    have HG1 := Lib.hid ((hst1.block (w.heap.size + 2) (by omega)).trans HG0.out)
    have HO1 := Lib.hid (ho1.sub (F' := fun y => w.heap.size + 3 ≤ y ∧ y < w1.heap.size) (fun y hy => ⟨Nat.le_trans (Nat.le_of_eq HSZ0.out.symm) hy.1, hy.2⟩))
    clear ho1
    have HB1 := Lib.hid (HB0.out.trans (hb1.mono HB0.out.size))
    clear hb1 hst1
    go_wp2_with fail
    refine (impl_relValid (c0 := c0_0) a HL_a.out false HVA.out _ (Nat.le_trans HH.out (Nat.le_trans HB1.out.size (Below.size (by repeat (first | (with_reducible exact Below.refl _ _) | (with_reducible apply Below.drew) | (with_reducible refine below_drewN ?_ _) | (refine Below.setCell ?_ (by simp <;> omega) _) | (refine Below.alloc ?_ (by simp <;> omega) _)) : Below w1.heap.size w1 _)))) (HS_a.out.later (HB1.out.trans ((by repeat (first | (with_reducible exact Below.refl _ _) | (with_reducible apply Below.drew) | (with_reducible refine below_drewN ?_ _) | (refine Below.setCell ?_ (by simp <;> omega) _) | (refine Below.alloc ?_ (by simp <;> omega) _)) : Below w1.heap.size w1 _).mono HB1.out.size)) HH.out)).mono ?_
    rintro e w2 ⟨rfl, hb2⟩
    have hst2 : Below w1.heap.size w1 w2 := Below.trans (by repeat (first | (with_reducible exact Below.refl _ _) | (with_reducible apply Below.drew) | (with_reducible refine below_drewN ?_ _) | (refine Below.setCell ?_ (by simp <;> omega) _) | (refine Below.alloc ?_ (by simp <;> omega) _)) : Below w1.heap.size w1 _) (hb2.mono (Below.size (by repeat (first | (with_reducible exact Below.refl _ _) | (with_reducible apply Below.drew) | (with_reducible refine below_drewN ?_ _) | (refine Below.setCell ?_ (by simp <;> omega) _) | (refine Below.alloc ?_ (by simp <;> omega) _)) : Below w1.heap.size w1 _)))
    have sz2_a : w.heap.size < w2.heap.size := Nat.lt_of_lt_of_le sz1_a hst2.size
    have bx2_a_0 : w2.cell? ⟨w.heap.size, 0, none⟩ = some (.int .i64 a.fN) := (hst2.cell (p := ⟨w.heap.size, 0, none⟩) sz1_a).trans bx1_a_0
    have bx2_a_1 : w2.cell? ⟨w.heap.size, 1, none⟩ = some (.slice a0 a.fRows.length c0_0) := (hst2.cell (p := ⟨w.heap.size, 1, none⟩) sz1_a).trans bx1_a_1
    have sz2_b : w.heap.size + 1 < w2.heap.size := Nat.lt_of_lt_of_le sz1_b hst2.size
    have bx2_b_0 : w2.cell? ⟨w.heap.size + 1, 0, none⟩ = some (.int .i64 b.fN) := (hst2.cell (p := ⟨w.heap.size + 1, 0, none⟩) sz1_b).trans bx1_b_0
    have bx2_b_1 : w2.cell? ⟨w.heap.size + 1, 1, none⟩ = some (.slice b0 b.fRows.length c1_0) := (hst2.cell (p := ⟨w.heap.size + 1, 1, none⟩) sz1_b).trans bx1_b_1
    have sz2_z : w.heap.size + 2 < w2.heap.size := Nat.lt_of_lt_of_le sz1_z hst2.size
    have bx2_z_0 : w2.cell? ⟨w.heap.size + 2, 0, none⟩ = some (.int .i64 0) := (hst2.cell (p := ⟨w.heap.size + 2, 0, none⟩) sz1_z).trans bx1_z_0
    have fz2_z_0 : w2.frozen? ⟨w.heap.size + 2, 0, none⟩ = false := (hst2.frozen (p := ⟨w.heap.size + 2, 0, none⟩) sz1_z).trans fz1_z_0
    have bx2_z_1 : w2.cell? ⟨w.heap.size + 2, 1, none⟩ = some (.slice none 0 0) := (hst2.cell (p := ⟨w.heap.size + 2, 1, none⟩) sz1_z).trans bx1_z_1
    have fz2_z_1 : w2.frozen? ⟨w.heap.size + 2, 1, none⟩ = false := (hst2.frozen (p := ⟨w.heap.size + 2, 1, none⟩) sz1_z).trans fz1_z_1
    have sz2_x : w1.heap.size < w2.heap.size := Nat.lt_of_lt_of_le (by first | omega | (simp; done) | (simp; omega) | (simp [World.setCell]; omega)) hb2.size
    have bx2_x_0 : w2.cell? ⟨w1.heap.size, 0, none⟩ = some (.int .i64 a.fN) := (hb2.cell (p := ⟨w1.heap.size, 0, none⟩) (by first | omega | (simp; done) | (simp; omega) | (simp [World.setCell]; omega))).trans (by go_simp)
    have bx2_x_1 : w2.cell? ⟨w1.heap.size, 1, none⟩ = some (.slice a1 a.fRows.length c1) := (hb2.cell (p := ⟨w1.heap.size, 1, none⟩) (by first | omega | (simp; done) | (simp; omega) | (simp [World.setCell]; omega))).trans (by go_simp)
    have HG2 := Lib.hid ((hst2.block (w.heap.size + 2) sz1_z).trans HG1.out)
    have HO2 := Lib.hid (HO1.out.kept (Kept.of_below_all hst2))
    have HB2 := Lib.hid (HB1.out.trans (hst2.mono HB1.out.size))
    have hr2 : w1.heap.size ≤ w2.heap.size := hst2.size
    clear hb2 hst2 bx1_a_0 bx1_a_1 sz1_a bx1_b_0 bx1_b_1 sz1_b bx1_z_0 bx1_z_1 sz1_z fz1_z_0 fz1_z_1
    go_wp2
    refine bodyPost_ret (v := .agg #[.int .i64 a.fN, .slice a1 a.fRows.length c1]) (results_cell_row Try.results24 _ _ (w.heap.size + 2) 27 #[.int .i64 a.fN, .slice a1 a.fRows.length c1] (0, 0) _ rfl (by refine Eq.trans (blk_set (cs := #[.int .i64 a.fN, .slice none 0 0]) (t := 27) (fr := (0, 0)) ?_) rfl; refine Eq.trans (blk_set (cs := #[.int .i64 0, .slice none 0 0]) (t := 27) (fr := (0, 0)) ?_) rfl; repeat (first | (with_reducible exact HG2.out) | (refine blk_other (by dsimp only; omega) ?_))) Try.underlying27 rfl rfl) rfl ?_
    rw [fin.out]
    refine ⟨a1, c1, rfl, ?_, ?_⟩
    · refine Own.sub (F := fun y => w.heap.size + 3 ≤ y ∧ y < w1.heap.size) (Own.kept (HO2.out) ?_) (fun y hy => ⟨Nat.le_trans (by omega) hy.1, Nat.lt_of_lt_of_le hy.2 (by first | (simp; done) | (simp; omega))⟩)
      repeat (first | (with_reducible exact Kept.refl) | (with_reducible apply Kept.drew) | (with_reducible apply Kept.drewN) | (refine Kept.put ?_ (by intro h; have h1 := h.1; dsimp only at h1; omega)))
    · repeat (first | (with_reducible exact HB2.out) | (with_reducible apply Below.drew) | (with_reducible refine below_drewN ?_ _) | (refine Below.setCell ?_ (by simp <;> omega) _) | (refine Below.alloc ?_ (by simp <;> omega) _))
  | true =>
    have HVA := Lib.hid hva
    cases hvb : relB b with
    | false =>
      have HVB := Lib.hid hvb
      have fin := Lib.hid (unionRel_no (a := a) (b := b) (by unfold uniB; rw [hvb, Bool.and_false]; rfl))
      clear hva hvb
      go_enter Try.func24, Try.ntmps24
      go_wp2_with fail
      refine (impl_copyRelation (c0 := c0_0) a HL_a.out _ (Nat.le_trans HH.out HB0.out.size) (HS_a.out.later HB0.out HH.out)).mono ?_
      rintro e w1 ⟨a1, c1, rfl, ho1, hb1⟩
      have hst1 : Below (w.heap.size + 3) (((w.alloc (.cells #[.int .i64 a.fN, .slice a0 a.fRows.length c0_0] 27)).alloc (.cells #[.int .i64 b.fN, .slice b0 b.fRows.length c1_0] 27)).alloc (.cells #[.int .i64 0, .slice none 0 0] 27)) w1 := hb1.mono (Nat.le_of_eq HSZ0.out.symm)
      have sz1_a : w.heap.size < w1.heap.size := Nat.lt_of_lt_of_le (by show w.heap.size < w.heap.size + 3; omega) (Nat.le_trans (Nat.le_of_eq HSZ0.out.symm) hst1.size)
      have bx1_a_0 : w1.cell? ⟨w.heap.size, 0, none⟩ = some (.int .i64 a.fN) := (hst1.cell (p := ⟨w.heap.size, 0, none⟩) (by show w.heap.size < w.heap.size + 3; omega)).trans (by go_simp)
      have bx1_a_1 : w1.cell? ⟨w.heap.size, 1, none⟩ = some (.slice a0 a.fRows.length c0_0) := (hst1.cell (p := ⟨w.heap.size, 1, none⟩) (by show w.heap.size < w.heap.size + 3; omega)).trans (by go_simp)
      have sz1_b : w.heap.size + 1 < w1.heap.size := Nat.lt_of_lt_of_le (by show w.heap.size + 1 < w.heap.size + 3; omega) (Nat.le_trans (Nat.le_of_eq HSZ0.out.symm) hst1.size)
      have bx1_b_0 : w1.cell? ⟨w.heap.size + 1, 0, none⟩ = some (.int .i64 b.fN) := (hst1.cell (p := ⟨w.heap.size + 1, 0, none⟩) (by show w.heap.size + 1 < w.heap.size + 3; omega)).trans (by go_simp)
      have bx1_b_1 : w1.cell? ⟨w.heap.size + 1, 1, none⟩ = some (.slice b0 b.fRows.length c1_0) := (hst1.cell (p := ⟨w.heap.size + 1, 1, none⟩) (by show w.heap.size + 1 < w.heap.size + 3; omega)).trans (by go_simp)
      have sz1_z : w.heap.size + 2 < w1.heap.size := Nat.lt_of_lt_of_le (by show w.heap.size + 2 < w.heap.size + 3; omega) (Nat.le_trans (Nat.le_of_eq HSZ0.out.symm) hst1.size)
      have bx1_z_0 : w1.cell? ⟨w.heap.size + 2, 0, none⟩ = some (.int .i64 0) := (hst1.cell (p := ⟨w.heap.size + 2, 0, none⟩) (by show w.heap.size + 2 < w.heap.size + 3; omega)).trans (by go_simp)
      have fz1_z_0 : w1.frozen? ⟨w.heap.size + 2, 0, none⟩ = false := (hst1.frozen (p := ⟨w.heap.size + 2, 0, none⟩) (by show w.heap.size + 2 < w.heap.size + 3; omega)).trans (by go_simp)
      have bx1_z_1 : w1.cell? ⟨w.heap.size + 2, 1, none⟩ = some (.slice none 0 0) := (hst1.cell (p := ⟨w.heap.size + 2, 1, none⟩) (by show w.heap.size + 2 < w.heap.size + 3; omega)).trans (by go_simp)
      have fz1_z_1 : w1.frozen? ⟨w.heap.size + 2, 1, none⟩ = false := (hst1.frozen (p := ⟨w.heap.size + 2, 1, none⟩) (by show w.heap.size + 2 < w.heap.size + 3; omega)).trans (by go_simp)
      have HG1 := Lib.hid ((hst1.block (w.heap.size + 2) (by omega)).trans HG0.out)
      have HO1 := Lib.hid (ho1.sub (F' := fun y => w.heap.size + 3 ≤ y ∧ y < w1.heap.size) (fun y hy => ⟨Nat.le_trans (Nat.le_of_eq HSZ0.out.symm) hy.1, hy.2⟩))
      clear ho1
      have HB1 := Lib.hid (HB0.out.trans (hb1.mono HB0.out.size))
      clear hb1 hst1
      go_wp2_with fail
      refine (impl_relValid (c0 := c0_0) a HL_a.out true HVA.out _ (Nat.le_trans HH.out (Nat.le_trans HB1.out.size (Below.size (by repeat (first | (with_reducible exact Below.refl _ _) | (with_reducible apply Below.drew) | (with_reducible refine below_drewN ?_ _) | (refine Below.setCell ?_ (by simp <;> omega) _) | (refine Below.alloc ?_ (by simp <;> omega) _)) : Below w1.heap.size w1 _)))) (HS_a.out.later (HB1.out.trans ((by repeat (first | (with_reducible exact Below.refl _ _) | (with_reducible apply Below.drew) | (with_reducible refine below_drewN ?_ _) | (refine Below.setCell ?_ (by simp <;> omega) _) | (refine Below.alloc ?_ (by simp <;> omega) _)) : Below w1.heap.size w1 _).mono HB1.out.size)) HH.out)).mono ?_
      rintro e w2 ⟨rfl, hb2⟩
      have hst2 : Below w1.heap.size w1 w2 := Below.trans (by repeat (first | (with_reducible exact Below.refl _ _) | (with_reducible apply Below.drew) | (with_reducible refine below_drewN ?_ _) | (refine Below.setCell ?_ (by simp <;> omega) _) | (refine Below.alloc ?_ (by simp <;> omega) _)) : Below w1.heap.size w1 _) (hb2.mono (Below.size (by repeat (first | (with_reducible exact Below.refl _ _) | (with_reducible apply Below.drew) | (with_reducible refine below_drewN ?_ _) | (refine Below.setCell ?_ (by simp <;> omega) _) | (refine Below.alloc ?_ (by simp <;> omega) _)) : Below w1.heap.size w1 _)))
      have sz2_a : w.heap.size < w2.heap.size := Nat.lt_of_lt_of_le sz1_a hst2.size
      have bx2_a_0 : w2.cell? ⟨w.heap.size, 0, none⟩ = some (.int .i64 a.fN) := (hst2.cell (p := ⟨w.heap.size, 0, none⟩) sz1_a).trans bx1_a_0
      have bx2_a_1 : w2.cell? ⟨w.heap.size, 1, none⟩ = some (.slice a0 a.fRows.length c0_0) := (hst2.cell (p := ⟨w.heap.size, 1, none⟩) sz1_a).trans bx1_a_1
      have sz2_b : w.heap.size + 1 < w2.heap.size := Nat.lt_of_lt_of_le sz1_b hst2.size
      have bx2_b_0 : w2.cell? ⟨w.heap.size + 1, 0, none⟩ = some (.int .i64 b.fN) := (hst2.cell (p := ⟨w.heap.size + 1, 0, none⟩) sz1_b).trans bx1_b_0
      have bx2_b_1 : w2.cell? ⟨w.heap.size + 1, 1, none⟩ = some (.slice b0 b.fRows.length c1_0) := (hst2.cell (p := ⟨w.heap.size + 1, 1, none⟩) sz1_b).trans bx1_b_1
      have sz2_z : w.heap.size + 2 < w2.heap.size := Nat.lt_of_lt_of_le sz1_z hst2.size
      have bx2_z_0 : w2.cell? ⟨w.heap.size + 2, 0, none⟩ = some (.int .i64 0) := (hst2.cell (p := ⟨w.heap.size + 2, 0, none⟩) sz1_z).trans bx1_z_0
      have fz2_z_0 : w2.frozen? ⟨w.heap.size + 2, 0, none⟩ = false := (hst2.frozen (p := ⟨w.heap.size + 2, 0, none⟩) sz1_z).trans fz1_z_0
      have bx2_z_1 : w2.cell? ⟨w.heap.size + 2, 1, none⟩ = some (.slice none 0 0) := (hst2.cell (p := ⟨w.heap.size + 2, 1, none⟩) sz1_z).trans bx1_z_1
      have fz2_z_1 : w2.frozen? ⟨w.heap.size + 2, 1, none⟩ = false := (hst2.frozen (p := ⟨w.heap.size + 2, 1, none⟩) sz1_z).trans fz1_z_1
      have sz2_x : w1.heap.size < w2.heap.size := Nat.lt_of_lt_of_le (by first | omega | (simp; done) | (simp; omega) | (simp [World.setCell]; omega)) hb2.size
      have bx2_x_0 : w2.cell? ⟨w1.heap.size, 0, none⟩ = some (.int .i64 a.fN) := (hb2.cell (p := ⟨w1.heap.size, 0, none⟩) (by first | omega | (simp; done) | (simp; omega) | (simp [World.setCell]; omega))).trans (by go_simp)
      have bx2_x_1 : w2.cell? ⟨w1.heap.size, 1, none⟩ = some (.slice a1 a.fRows.length c1) := (hb2.cell (p := ⟨w1.heap.size, 1, none⟩) (by first | omega | (simp; done) | (simp; omega) | (simp [World.setCell]; omega))).trans (by go_simp)
      have HG2 := Lib.hid ((hst2.block (w.heap.size + 2) sz1_z).trans HG1.out)
      have HO2 := Lib.hid (HO1.out.kept (Kept.of_below_all hst2))
      have HB2 := Lib.hid (HB1.out.trans (hst2.mono HB1.out.size))
      have hr2 : w1.heap.size ≤ w2.heap.size := hst2.size
      clear hb2 hst2 bx1_a_0 bx1_a_1 sz1_a bx1_b_0 bx1_b_1 sz1_b bx1_z_0 bx1_z_1 sz1_z fz1_z_0 fz1_z_1
      go_wp2_with fail
      refine (impl_relValid (c0 := c1_0) b HL_b.out false HVB.out _ (Nat.le_trans HH.out (Nat.le_trans HB2.out.size (Below.size (by repeat (first | (with_reducible exact Below.refl _ _) | (with_reducible apply Below.drew) | (with_reducible refine below_drewN ?_ _) | (refine Below.setCell ?_ (by simp <;> omega) _) | (refine Below.alloc ?_ (by simp <;> omega) _)) : Below w2.heap.size w2 _)))) (HS_b.out.later (HB2.out.trans ((by repeat (first | (with_reducible exact Below.refl _ _) | (with_reducible apply Below.drew) | (with_reducible refine below_drewN ?_ _) | (refine Below.setCell ?_ (by simp <;> omega) _) | (refine Below.alloc ?_ (by simp <;> omega) _)) : Below w2.heap.size w2 _).mono HB2.out.size)) HH.out)).mono ?_
      rintro e w3 ⟨rfl, hb3⟩
      have hst3 : Below w2.heap.size w2 w3 := Below.trans (by repeat (first | (with_reducible exact Below.refl _ _) | (with_reducible apply Below.drew) | (with_reducible refine below_drewN ?_ _) | (refine Below.setCell ?_ (by simp <;> omega) _) | (refine Below.alloc ?_ (by simp <;> omega) _)) : Below w2.heap.size w2 _) (hb3.mono (Below.size (by repeat (first | (with_reducible exact Below.refl _ _) | (with_reducible apply Below.drew) | (with_reducible refine below_drewN ?_ _) | (refine Below.setCell ?_ (by simp <;> omega) _) | (refine Below.alloc ?_ (by simp <;> omega) _)) : Below w2.heap.size w2 _)))
      have sz3_a : w.heap.size < w3.heap.size := Nat.lt_of_lt_of_le sz2_a hst3.size
      have bx3_a_0 : w3.cell? ⟨w.heap.size, 0, none⟩ = some (.int .i64 a.fN) := (hst3.cell (p := ⟨w.heap.size, 0, none⟩) sz2_a).trans bx2_a_0
      have bx3_a_1 : w3.cell? ⟨w.heap.size, 1, none⟩ = some (.slice a0 a.fRows.length c0_0) := (hst3.cell (p := ⟨w.heap.size, 1, none⟩) sz2_a).trans bx2_a_1
      have sz3_b : w.heap.size + 1 < w3.heap.size := Nat.lt_of_lt_of_le sz2_b hst3.size
      have bx3_b_0 : w3.cell? ⟨w.heap.size + 1, 0, none⟩ = some (.int .i64 b.fN) := (hst3.cell (p := ⟨w.heap.size + 1, 0, none⟩) sz2_b).trans bx2_b_0
      have bx3_b_1 : w3.cell? ⟨w.heap.size + 1, 1, none⟩ = some (.slice b0 b.fRows.length c1_0) := (hst3.cell (p := ⟨w.heap.size + 1, 1, none⟩) sz2_b).trans bx2_b_1
      have sz3_z : w.heap.size + 2 < w3.heap.size := Nat.lt_of_lt_of_le sz2_z hst3.size
      have bx3_z_0 : w3.cell? ⟨w.heap.size + 2, 0, none⟩ = some (.int .i64 0) := (hst3.cell (p := ⟨w.heap.size + 2, 0, none⟩) sz2_z).trans bx2_z_0
      have fz3_z_0 : w3.frozen? ⟨w.heap.size + 2, 0, none⟩ = false := (hst3.frozen (p := ⟨w.heap.size + 2, 0, none⟩) sz2_z).trans fz2_z_0
      have bx3_z_1 : w3.cell? ⟨w.heap.size + 2, 1, none⟩ = some (.slice none 0 0) := (hst3.cell (p := ⟨w.heap.size + 2, 1, none⟩) sz2_z).trans bx2_z_1
      have fz3_z_1 : w3.frozen? ⟨w.heap.size + 2, 1, none⟩ = false := (hst3.frozen (p := ⟨w.heap.size + 2, 1, none⟩) sz2_z).trans fz2_z_1
      have sz3_x : w1.heap.size < w3.heap.size := Nat.lt_of_lt_of_le sz2_x hst3.size
      have bx3_x_0 : w3.cell? ⟨w1.heap.size, 0, none⟩ = some (.int .i64 a.fN) := (hst3.cell (p := ⟨w1.heap.size, 0, none⟩) sz2_x).trans bx2_x_0
      have bx3_x_1 : w3.cell? ⟨w1.heap.size, 1, none⟩ = some (.slice a1 a.fRows.length c1) := (hst3.cell (p := ⟨w1.heap.size, 1, none⟩) sz2_x).trans bx2_x_1
      have HG3 := Lib.hid ((hst3.block (w.heap.size + 2) sz2_z).trans HG2.out)
      have HO3 := Lib.hid (HO2.out.kept (Kept.of_below_all hst3))
      have HB3 := Lib.hid (HB2.out.trans (hst3.mono HB2.out.size))
      have hr3 : w2.heap.size ≤ w3.heap.size := hst3.size
      clear hb3 hst3 bx2_a_0 bx2_a_1 sz2_a bx2_b_0 bx2_b_1 sz2_b bx2_z_0 bx2_z_1 sz2_z fz2_z_0 fz2_z_1 bx2_x_0 bx2_x_1 sz2_x
      go_wp2
      refine bodyPost_ret (v := .agg #[.int .i64 a.fN, .slice a1 a.fRows.length c1]) (results_cell_row Try.results24 _ _ (w.heap.size + 2) 27 #[.int .i64 a.fN, .slice a1 a.fRows.length c1] (0, 0) _ rfl (by refine Eq.trans (blk_set (cs := #[.int .i64 a.fN, .slice none 0 0]) (t := 27) (fr := (0, 0)) ?_) rfl; refine Eq.trans (blk_set (cs := #[.int .i64 0, .slice none 0 0]) (t := 27) (fr := (0, 0)) ?_) rfl; repeat (first | (with_reducible exact HG3.out) | (refine blk_other (by dsimp only; omega) ?_))) Try.underlying27 rfl rfl) rfl ?_
      rw [fin.out]
      refine ⟨a1, c1, rfl, ?_, ?_⟩
      · refine Own.sub (F := fun y => w.heap.size + 3 ≤ y ∧ y < w1.heap.size) (Own.kept (HO3.out) ?_) (fun y hy => ⟨Nat.le_trans (by omega) hy.1, Nat.lt_of_lt_of_le hy.2 (by first | (simp; done) | (simp; omega))⟩)
        repeat (first | (with_reducible exact Kept.refl) | (with_reducible apply Kept.drew) | (with_reducible apply Kept.drewN) | (refine Kept.put ?_ (by intro h; have h1 := h.1; dsimp only at h1; omega)))
      · repeat (first | (with_reducible exact HB3.out) | (with_reducible apply Below.drew) | (with_reducible refine below_drewN ?_ _) | (refine Below.setCell ?_ (by simp <;> omega) _) | (refine Below.alloc ?_ (by simp <;> omega) _))
    | true =>
      have HVB := Lib.hid hvb
      by_cases hN : a.fN = b.fN
      · have fin := Lib.hid (unionRel_yes (a := a) (b := b) (by unfold uniB; rw [hva, hvb, hN]; simp))
        have HPA := Lib.hid (relB_parts hva)
        have HPB := Lib.hid (relB_parts hvb)
        have HN := Lib.hid hN
        have hlen : a.fRows.length = b.fRows.length := by
          obtain ⟨n, h1, h2, h3, _⟩ := HPA.out
          obtain ⟨m, g1, g2, g3, _⟩ := HPB.out
          omega
        have hlenN : (a.fRows.length : Int) = a.fN := by
          obtain ⟨n, h1, h2, h3, _⟩ := HPA.out
          omega
        have HLEN := Lib.hid hlen
        have HLN := Lib.hid hlenN
        have hN1 : 0 ≤ a.fN ∧ a.fN ≤ 16 := by
          obtain ⟨n, h1, h2, _⟩ := HPA.out
          rw [h2]; omega
        clear hva hvb hN hlen hlenN
        go_enter Try.func24, Try.ntmps24
        go_wp2_with fail
        refine (impl_copyRelation (c0 := c0_0) a HL_a.out _ (Nat.le_trans HH.out HB0.out.size) (HS_a.out.later HB0.out HH.out)).mono ?_
        rintro e w1 ⟨a1, c1, rfl, ho1, hb1⟩
        have hst1 : Below (w.heap.size + 3) (((w.alloc (.cells #[.int .i64 a.fN, .slice a0 a.fRows.length c0_0] 27)).alloc (.cells #[.int .i64 b.fN, .slice b0 b.fRows.length c1_0] 27)).alloc (.cells #[.int .i64 0, .slice none 0 0] 27)) w1 := hb1.mono (Nat.le_of_eq HSZ0.out.symm)
        have sz1_a : w.heap.size < w1.heap.size := Nat.lt_of_lt_of_le (by show w.heap.size < w.heap.size + 3; omega) (Nat.le_trans (Nat.le_of_eq HSZ0.out.symm) hst1.size)
        have bx1_a_0 : w1.cell? ⟨w.heap.size, 0, none⟩ = some (.int .i64 a.fN) := (hst1.cell (p := ⟨w.heap.size, 0, none⟩) (by show w.heap.size < w.heap.size + 3; omega)).trans (by go_simp)
        have bx1_a_1 : w1.cell? ⟨w.heap.size, 1, none⟩ = some (.slice a0 a.fRows.length c0_0) := (hst1.cell (p := ⟨w.heap.size, 1, none⟩) (by show w.heap.size < w.heap.size + 3; omega)).trans (by go_simp)
        have sz1_b : w.heap.size + 1 < w1.heap.size := Nat.lt_of_lt_of_le (by show w.heap.size + 1 < w.heap.size + 3; omega) (Nat.le_trans (Nat.le_of_eq HSZ0.out.symm) hst1.size)
        have bx1_b_0 : w1.cell? ⟨w.heap.size + 1, 0, none⟩ = some (.int .i64 b.fN) := (hst1.cell (p := ⟨w.heap.size + 1, 0, none⟩) (by show w.heap.size + 1 < w.heap.size + 3; omega)).trans (by go_simp)
        have bx1_b_1 : w1.cell? ⟨w.heap.size + 1, 1, none⟩ = some (.slice b0 b.fRows.length c1_0) := (hst1.cell (p := ⟨w.heap.size + 1, 1, none⟩) (by show w.heap.size + 1 < w.heap.size + 3; omega)).trans (by go_simp)
        have sz1_z : w.heap.size + 2 < w1.heap.size := Nat.lt_of_lt_of_le (by show w.heap.size + 2 < w.heap.size + 3; omega) (Nat.le_trans (Nat.le_of_eq HSZ0.out.symm) hst1.size)
        have bx1_z_0 : w1.cell? ⟨w.heap.size + 2, 0, none⟩ = some (.int .i64 0) := (hst1.cell (p := ⟨w.heap.size + 2, 0, none⟩) (by show w.heap.size + 2 < w.heap.size + 3; omega)).trans (by go_simp)
        have fz1_z_0 : w1.frozen? ⟨w.heap.size + 2, 0, none⟩ = false := (hst1.frozen (p := ⟨w.heap.size + 2, 0, none⟩) (by show w.heap.size + 2 < w.heap.size + 3; omega)).trans (by go_simp)
        have bx1_z_1 : w1.cell? ⟨w.heap.size + 2, 1, none⟩ = some (.slice none 0 0) := (hst1.cell (p := ⟨w.heap.size + 2, 1, none⟩) (by show w.heap.size + 2 < w.heap.size + 3; omega)).trans (by go_simp)
        have fz1_z_1 : w1.frozen? ⟨w.heap.size + 2, 1, none⟩ = false := (hst1.frozen (p := ⟨w.heap.size + 2, 1, none⟩) (by show w.heap.size + 2 < w.heap.size + 3; omega)).trans (by go_simp)
        have HG1 := Lib.hid ((hst1.block (w.heap.size + 2) (by omega)).trans HG0.out)
        have HO1 := Lib.hid (ho1.sub (F' := fun y => w.heap.size + 3 ≤ y ∧ y < w1.heap.size) (fun y hy => ⟨Nat.le_trans (Nat.le_of_eq HSZ0.out.symm) hy.1, hy.2⟩))
        clear ho1
        have HB1 := Lib.hid (HB0.out.trans (hb1.mono HB0.out.size))
        clear hb1 hst1
        go_wp2_with fail
        refine (impl_relValid (c0 := c0_0) a HL_a.out true HVA.out _ (Nat.le_trans HH.out (Nat.le_trans HB1.out.size (Below.size (by repeat (first | (with_reducible exact Below.refl _ _) | (with_reducible apply Below.drew) | (with_reducible refine below_drewN ?_ _) | (refine Below.setCell ?_ (by simp <;> omega) _) | (refine Below.alloc ?_ (by simp <;> omega) _)) : Below w1.heap.size w1 _)))) (HS_a.out.later (HB1.out.trans ((by repeat (first | (with_reducible exact Below.refl _ _) | (with_reducible apply Below.drew) | (with_reducible refine below_drewN ?_ _) | (refine Below.setCell ?_ (by simp <;> omega) _) | (refine Below.alloc ?_ (by simp <;> omega) _)) : Below w1.heap.size w1 _).mono HB1.out.size)) HH.out)).mono ?_
        rintro e w2 ⟨rfl, hb2⟩
        have hst2 : Below w1.heap.size w1 w2 := Below.trans (by repeat (first | (with_reducible exact Below.refl _ _) | (with_reducible apply Below.drew) | (with_reducible refine below_drewN ?_ _) | (refine Below.setCell ?_ (by simp <;> omega) _) | (refine Below.alloc ?_ (by simp <;> omega) _)) : Below w1.heap.size w1 _) (hb2.mono (Below.size (by repeat (first | (with_reducible exact Below.refl _ _) | (with_reducible apply Below.drew) | (with_reducible refine below_drewN ?_ _) | (refine Below.setCell ?_ (by simp <;> omega) _) | (refine Below.alloc ?_ (by simp <;> omega) _)) : Below w1.heap.size w1 _)))
        have sz2_a : w.heap.size < w2.heap.size := Nat.lt_of_lt_of_le sz1_a hst2.size
        have bx2_a_0 : w2.cell? ⟨w.heap.size, 0, none⟩ = some (.int .i64 a.fN) := (hst2.cell (p := ⟨w.heap.size, 0, none⟩) sz1_a).trans bx1_a_0
        have bx2_a_1 : w2.cell? ⟨w.heap.size, 1, none⟩ = some (.slice a0 a.fRows.length c0_0) := (hst2.cell (p := ⟨w.heap.size, 1, none⟩) sz1_a).trans bx1_a_1
        have sz2_b : w.heap.size + 1 < w2.heap.size := Nat.lt_of_lt_of_le sz1_b hst2.size
        have bx2_b_0 : w2.cell? ⟨w.heap.size + 1, 0, none⟩ = some (.int .i64 b.fN) := (hst2.cell (p := ⟨w.heap.size + 1, 0, none⟩) sz1_b).trans bx1_b_0
        have bx2_b_1 : w2.cell? ⟨w.heap.size + 1, 1, none⟩ = some (.slice b0 b.fRows.length c1_0) := (hst2.cell (p := ⟨w.heap.size + 1, 1, none⟩) sz1_b).trans bx1_b_1
        have sz2_z : w.heap.size + 2 < w2.heap.size := Nat.lt_of_lt_of_le sz1_z hst2.size
        have bx2_z_0 : w2.cell? ⟨w.heap.size + 2, 0, none⟩ = some (.int .i64 0) := (hst2.cell (p := ⟨w.heap.size + 2, 0, none⟩) sz1_z).trans bx1_z_0
        have fz2_z_0 : w2.frozen? ⟨w.heap.size + 2, 0, none⟩ = false := (hst2.frozen (p := ⟨w.heap.size + 2, 0, none⟩) sz1_z).trans fz1_z_0
        have bx2_z_1 : w2.cell? ⟨w.heap.size + 2, 1, none⟩ = some (.slice none 0 0) := (hst2.cell (p := ⟨w.heap.size + 2, 1, none⟩) sz1_z).trans bx1_z_1
        have fz2_z_1 : w2.frozen? ⟨w.heap.size + 2, 1, none⟩ = false := (hst2.frozen (p := ⟨w.heap.size + 2, 1, none⟩) sz1_z).trans fz1_z_1
        have sz2_x : w1.heap.size < w2.heap.size := Nat.lt_of_lt_of_le (by first | omega | (simp; done) | (simp; omega) | (simp [World.setCell]; omega)) hb2.size
        have bx2_x_0 : w2.cell? ⟨w1.heap.size, 0, none⟩ = some (.int .i64 a.fN) := (hb2.cell (p := ⟨w1.heap.size, 0, none⟩) (by first | omega | (simp; done) | (simp; omega) | (simp [World.setCell]; omega))).trans (by go_simp)
        have bx2_x_1 : w2.cell? ⟨w1.heap.size, 1, none⟩ = some (.slice a1 a.fRows.length c1) := (hb2.cell (p := ⟨w1.heap.size, 1, none⟩) (by first | omega | (simp; done) | (simp; omega) | (simp [World.setCell]; omega))).trans (by go_simp)
        have HG2 := Lib.hid ((hst2.block (w.heap.size + 2) sz1_z).trans HG1.out)
        have HO2 := Lib.hid (HO1.out.kept (Kept.of_below_all hst2))
        have HB2 := Lib.hid (HB1.out.trans (hst2.mono HB1.out.size))
        have hr2 : w1.heap.size ≤ w2.heap.size := hst2.size
        clear hb2 hst2 bx1_a_0 bx1_a_1 sz1_a bx1_b_0 bx1_b_1 sz1_b bx1_z_0 bx1_z_1 sz1_z fz1_z_0 fz1_z_1
        go_wp2_with fail
        refine (impl_relValid (c0 := c1_0) b HL_b.out true HVB.out _ (Nat.le_trans HH.out (Nat.le_trans HB2.out.size (Below.size (by repeat (first | (with_reducible exact Below.refl _ _) | (with_reducible apply Below.drew) | (with_reducible refine below_drewN ?_ _) | (refine Below.setCell ?_ (by simp <;> omega) _) | (refine Below.alloc ?_ (by simp <;> omega) _)) : Below w2.heap.size w2 _)))) (HS_b.out.later (HB2.out.trans ((by repeat (first | (with_reducible exact Below.refl _ _) | (with_reducible apply Below.drew) | (with_reducible refine below_drewN ?_ _) | (refine Below.setCell ?_ (by simp <;> omega) _) | (refine Below.alloc ?_ (by simp <;> omega) _)) : Below w2.heap.size w2 _).mono HB2.out.size)) HH.out)).mono ?_
        rintro e w3 ⟨rfl, hb3⟩
        have hst3 : Below w2.heap.size w2 w3 := Below.trans (by repeat (first | (with_reducible exact Below.refl _ _) | (with_reducible apply Below.drew) | (with_reducible refine below_drewN ?_ _) | (refine Below.setCell ?_ (by simp <;> omega) _) | (refine Below.alloc ?_ (by simp <;> omega) _)) : Below w2.heap.size w2 _) (hb3.mono (Below.size (by repeat (first | (with_reducible exact Below.refl _ _) | (with_reducible apply Below.drew) | (with_reducible refine below_drewN ?_ _) | (refine Below.setCell ?_ (by simp <;> omega) _) | (refine Below.alloc ?_ (by simp <;> omega) _)) : Below w2.heap.size w2 _)))
        have sz3_a : w.heap.size < w3.heap.size := Nat.lt_of_lt_of_le sz2_a hst3.size
        have bx3_a_0 : w3.cell? ⟨w.heap.size, 0, none⟩ = some (.int .i64 a.fN) := (hst3.cell (p := ⟨w.heap.size, 0, none⟩) sz2_a).trans bx2_a_0
        have bx3_a_1 : w3.cell? ⟨w.heap.size, 1, none⟩ = some (.slice a0 a.fRows.length c0_0) := (hst3.cell (p := ⟨w.heap.size, 1, none⟩) sz2_a).trans bx2_a_1
        have sz3_b : w.heap.size + 1 < w3.heap.size := Nat.lt_of_lt_of_le sz2_b hst3.size
        have bx3_b_0 : w3.cell? ⟨w.heap.size + 1, 0, none⟩ = some (.int .i64 b.fN) := (hst3.cell (p := ⟨w.heap.size + 1, 0, none⟩) sz2_b).trans bx2_b_0
        have bx3_b_1 : w3.cell? ⟨w.heap.size + 1, 1, none⟩ = some (.slice b0 b.fRows.length c1_0) := (hst3.cell (p := ⟨w.heap.size + 1, 1, none⟩) sz2_b).trans bx2_b_1
        have sz3_z : w.heap.size + 2 < w3.heap.size := Nat.lt_of_lt_of_le sz2_z hst3.size
        have bx3_z_0 : w3.cell? ⟨w.heap.size + 2, 0, none⟩ = some (.int .i64 0) := (hst3.cell (p := ⟨w.heap.size + 2, 0, none⟩) sz2_z).trans bx2_z_0
        have fz3_z_0 : w3.frozen? ⟨w.heap.size + 2, 0, none⟩ = false := (hst3.frozen (p := ⟨w.heap.size + 2, 0, none⟩) sz2_z).trans fz2_z_0
        have bx3_z_1 : w3.cell? ⟨w.heap.size + 2, 1, none⟩ = some (.slice none 0 0) := (hst3.cell (p := ⟨w.heap.size + 2, 1, none⟩) sz2_z).trans bx2_z_1
        have fz3_z_1 : w3.frozen? ⟨w.heap.size + 2, 1, none⟩ = false := (hst3.frozen (p := ⟨w.heap.size + 2, 1, none⟩) sz2_z).trans fz2_z_1
        have sz3_x : w1.heap.size < w3.heap.size := Nat.lt_of_lt_of_le sz2_x hst3.size
        have bx3_x_0 : w3.cell? ⟨w1.heap.size, 0, none⟩ = some (.int .i64 a.fN) := (hst3.cell (p := ⟨w1.heap.size, 0, none⟩) sz2_x).trans bx2_x_0
        have bx3_x_1 : w3.cell? ⟨w1.heap.size, 1, none⟩ = some (.slice a1 a.fRows.length c1) := (hst3.cell (p := ⟨w1.heap.size, 1, none⟩) sz2_x).trans bx2_x_1
        have HG3 := Lib.hid ((hst3.block (w.heap.size + 2) sz2_z).trans HG2.out)
        have HO3 := Lib.hid (HO2.out.kept (Kept.of_below_all hst3))
        have HB3 := Lib.hid (HB2.out.trans (hst3.mono HB2.out.size))
        have hr3 : w2.heap.size ≤ w3.heap.size := hst3.size
        clear hb3 hst3 bx2_a_0 bx2_a_1 sz2_a bx2_b_0 bx2_b_1 sz2_b bx2_z_0 bx2_z_1 sz2_z fz2_z_0 fz2_z_1 bx2_x_0 bx2_x_1 sz2_x
        have eN : b.fN = a.fN := HN.out.symm
        go_wp2
        have HO := Lib.hid (show Own w3 (fun y => w.heap.size + 3 ≤ y ∧ y < w1.heap.size) (.sl 1 a.fRows.length (fun j => ictI (uniF a.fRows b.fRows 0 j))) (.slice a1 a.fRows.length c1) from HO3.out.congr (fun k _ j _ => by rw [uniF_zero]))
        go_loopw [26] (fun i wr => ∃ k : Nat, k ≤ a.fRows.length ∧ i = .int .i64 (k : Int) ∧ Own wr (fun y => w.heap.size + 3 ≤ y ∧ y < w1.heap.size) (.sl 1 a.fRows.length (fun j => ictI (uniF a.fRows b.fRows k j))) (.slice a1 a.fRows.length c1) ∧ WritesF (fun y => w.heap.size + 3 ≤ y ∧ y < w1.heap.size) w3 wr) (fun i _ => a.fRows.length - (intOf i).toNat)
        case atStart => exact ⟨0, Nat.zero_le _, rfl, HO.out, WritesF.refl _ _⟩
        case round =>
          obtain ⟨k, hk, rfl, hown, hwr⟩ := hrel
          have HW := Lib.hid hwr
          have HOW := Lib.hid hown
          have hfa : wr.cell? ⟨w.heap.size, 0, none⟩ = some (.int .i64 a.fN) := (hwr.cell (p := ⟨w.heap.size, 0, none⟩) sz3_a (by intro h; have h1 := h.1; dsimp only at h1; omega)).trans bx3_a_0
          have hfb : wr.cell? ⟨w.heap.size + 1, 1, none⟩ = some (.slice b0 b.fRows.length c1_0) := (hwr.cell (p := ⟨w.heap.size + 1, 1, none⟩) sz3_b (by intro h; have h1 := h.1; dsimp only at h1; omega)).trans bx3_b_1
          have hx0 : wr.cell? ⟨w1.heap.size, 0, none⟩ = some (.int .i64 a.fN) := (hwr.cell (p := ⟨w1.heap.size, 0, none⟩) sz3_x (by intro h; have h1 := h.2; dsimp only at h1; omega)).trans bx3_x_0
          have hx1 : wr.cell? ⟨w1.heap.size, 1, none⟩ = some (.slice a1 a.fRows.length c1) := (hwr.cell (p := ⟨w1.heap.size, 1, none⟩) sz3_x (by intro h; have h1 := h.2; dsimp only at h1; omega)).trans bx3_x_1
          have hz0 : wr.cell? ⟨w.heap.size + 2, 0, none⟩ = some (.int .i64 0) := (hwr.cell (p := ⟨w.heap.size + 2, 0, none⟩) sz3_z (by intro h; have h1 := h.1; dsimp only at h1; omega)).trans bx3_z_0
          have hz1 : wr.cell? ⟨w.heap.size + 2, 1, none⟩ = some (.slice none 0 0) := (hwr.cell (p := ⟨w.heap.size + 2, 1, none⟩) sz3_z (by intro h; have h1 := h.1; dsimp only at h1; omega)).trans bx3_z_1
          have hq0 : wr.frozen? ⟨w.heap.size + 2, 0, none⟩ = false := (hwr.frozen (p := ⟨w.heap.size + 2, 0, none⟩) sz3_z (by intro h; have h1 := h.1; dsimp only at h1; omega)).trans fz3_z_0
          have hq1 : wr.frozen? ⟨w.heap.size + 2, 1, none⟩ = false := (hwr.frozen (p := ⟨w.heap.size + 2, 1, none⟩) sz3_z (by intro h; have h1 := h.1; dsimp only at h1; omega)).trans fz3_z_1
          have HGW := Lib.hid ((hwr.block (w.heap.size + 2) sz3_z (by intro h; have h1 := h.1; omega)).trans HG3.out)
          have HBW := Lib.hid (HB3.out.trans (hwr.below (fun y hy => by have h1 := hy.1; omega) HB3.out.size))
          have hszr : w3.heap.size ≤ wr.heap.size := hwr.size
          clear hown hwr
          by_cases hlt : k < a.fRows.length
          · have hltN : (k : Int) < a.fN := by have h := HLN.out; omega
            have hltb : k < b.fRows.length := by have h := HLEN.out; omega
            obtain ⟨bb, off, rfl, hFb, hbl, hcs, hzs⟩ := ownf_at HOW.out (by omega)
            have hFb1 : w.heap.size + 3 ≤ bb := hFb.1
            have hFb2 : bb < w1.heap.size := hFb.2
            have hrow := hcs k hlt
            have hrz := hzs (off + k)
            obtain ⟨b2, off2, rfl, _, _, hc2⟩ := (HS_b.out.later HBW.out HH.out).at k hltb
            rw [Nat.mul_one] at hc2
            have hrb := open_Int hc2
            clear hFb hcs hzs hc2
            have HNX := Lib.hid (uniF_next a.fRows b.fRows k)
            have HHR := Lib.hid (uniF_here a.fRows b.fRows k)
            generalize hr1 : uniF a.fRows b.fRows k k = row at hrow
            generalize hr2 : b.fRows.getD k default = rowb at hrb
            have HR1 := Lib.hid hr1
            have HR2 := Lib.hid hr2
            clear hr1 hr2
            go_wp2
            all_goals
              go_roundw
              case rel =>
                refine ⟨k + 1, by omega, by go_num, Own.kept (ownf_set HOW.out k hlt (bits BinOp.or IntKind.i64 row rowb) (g' := uniF a.fRows b.fRows (k + 1)) (by rw [HNX.out, ← HHR.out, HR1.out, HR2.out]; rfl) (fun j _ hj => uniF_other hj)) ?_, ?_⟩
                · repeat (first | (with_reducible exact Kept.refl) | (with_reducible apply Kept.drew) | (with_reducible apply Kept.drewN))
                · repeat (first | (with_reducible exact HW.out) | (with_reducible apply WritesF.drew) | (with_reducible refine WritesF.drewN ?_ _) | (refine WritesF.setCell ?_ (by exact ⟨hFb1, hFb2⟩)))
              case measure => simp [intOf]; omega
          · obtain rfl : k = a.fRows.length := by omega
            have hgeN : ¬ (a.fRows.length : Int) < a.fN := by have h := HLN.out; omega
            have hgeb : ¬ (a.fRows.length : Int) < b.fRows.length := by have h := HLEN.out; omega
            have HOF := Lib.hid (own_range_sl HOW.out)
            go_wp2
            refine bodyPost_ret (v := .agg #[.int .i64 a.fN, .slice a1 a.fRows.length c1]) (results_cell_row Try.results24 _ _ (w.heap.size + 2) 27 #[.int .i64 a.fN, .slice a1 a.fRows.length c1] (0, 0) _ rfl (by refine Eq.trans (blk_set (cs := #[.int .i64 a.fN, .slice none 0 0]) (t := 27) (fr := (0, 0)) ?_) rfl; refine Eq.trans (blk_set (cs := #[.int .i64 0, .slice none 0 0]) (t := 27) (fr := (0, 0)) ?_) rfl; repeat (first | (with_reducible exact HGW.out) | (refine blk_other (by dsimp only; omega) ?_))) Try.underlying27 rfl rfl) rfl ?_
            rw [fin.out]
            refine ⟨a1, c1, by simp, ?_, ?_⟩
            · refine Own.sub (F := fun y => w.heap.size + 3 ≤ y ∧ y < w1.heap.size) (Own.kept (HOF.out) ?_) (fun y hy => ⟨Nat.le_trans (by omega) hy.1, Nat.lt_of_lt_of_le hy.2 (by first | (simp; done) | (simp; omega))⟩)
              repeat (first | (with_reducible exact Kept.refl) | (with_reducible apply Kept.drew) | (with_reducible apply Kept.drewN) | (refine Kept.put ?_ (by intro h; have h1 := h.1; dsimp only at h1; omega)))
            · repeat (first | (with_reducible exact HBW.out) | (with_reducible apply Below.drew) | (with_reducible refine below_drewN ?_ _) | (refine Below.setCell ?_ (by simp <;> omega) _) | (refine Below.alloc ?_ (by simp <;> omega) _))
      · have fin := Lib.hid (unionRel_no (a := a) (b := b) (by unfold uniB; rw [show (a.fN == b.fN) = false from beq_eq_false_iff_ne.2 hN, Bool.and_false]))
        have e1 : (a.fN == b.fN) = false := beq_eq_false_iff_ne.2 hN
        have e2 : (a.fN != b.fN) = true := by simp [bne, e1]
        clear hva hvb hN
        go_enter Try.func24, Try.ntmps24
        go_wp2_with fail
        refine (impl_copyRelation (c0 := c0_0) a HL_a.out _ (Nat.le_trans HH.out HB0.out.size) (HS_a.out.later HB0.out HH.out)).mono ?_
        rintro e w1 ⟨a1, c1, rfl, ho1, hb1⟩
        have hst1 : Below (w.heap.size + 3) (((w.alloc (.cells #[.int .i64 a.fN, .slice a0 a.fRows.length c0_0] 27)).alloc (.cells #[.int .i64 b.fN, .slice b0 b.fRows.length c1_0] 27)).alloc (.cells #[.int .i64 0, .slice none 0 0] 27)) w1 := hb1.mono (Nat.le_of_eq HSZ0.out.symm)
        have sz1_a : w.heap.size < w1.heap.size := Nat.lt_of_lt_of_le (by show w.heap.size < w.heap.size + 3; omega) (Nat.le_trans (Nat.le_of_eq HSZ0.out.symm) hst1.size)
        have bx1_a_0 : w1.cell? ⟨w.heap.size, 0, none⟩ = some (.int .i64 a.fN) := (hst1.cell (p := ⟨w.heap.size, 0, none⟩) (by show w.heap.size < w.heap.size + 3; omega)).trans (by go_simp)
        have bx1_a_1 : w1.cell? ⟨w.heap.size, 1, none⟩ = some (.slice a0 a.fRows.length c0_0) := (hst1.cell (p := ⟨w.heap.size, 1, none⟩) (by show w.heap.size < w.heap.size + 3; omega)).trans (by go_simp)
        have sz1_b : w.heap.size + 1 < w1.heap.size := Nat.lt_of_lt_of_le (by show w.heap.size + 1 < w.heap.size + 3; omega) (Nat.le_trans (Nat.le_of_eq HSZ0.out.symm) hst1.size)
        have bx1_b_0 : w1.cell? ⟨w.heap.size + 1, 0, none⟩ = some (.int .i64 b.fN) := (hst1.cell (p := ⟨w.heap.size + 1, 0, none⟩) (by show w.heap.size + 1 < w.heap.size + 3; omega)).trans (by go_simp)
        have bx1_b_1 : w1.cell? ⟨w.heap.size + 1, 1, none⟩ = some (.slice b0 b.fRows.length c1_0) := (hst1.cell (p := ⟨w.heap.size + 1, 1, none⟩) (by show w.heap.size + 1 < w.heap.size + 3; omega)).trans (by go_simp)
        have sz1_z : w.heap.size + 2 < w1.heap.size := Nat.lt_of_lt_of_le (by show w.heap.size + 2 < w.heap.size + 3; omega) (Nat.le_trans (Nat.le_of_eq HSZ0.out.symm) hst1.size)
        have bx1_z_0 : w1.cell? ⟨w.heap.size + 2, 0, none⟩ = some (.int .i64 0) := (hst1.cell (p := ⟨w.heap.size + 2, 0, none⟩) (by show w.heap.size + 2 < w.heap.size + 3; omega)).trans (by go_simp)
        have fz1_z_0 : w1.frozen? ⟨w.heap.size + 2, 0, none⟩ = false := (hst1.frozen (p := ⟨w.heap.size + 2, 0, none⟩) (by show w.heap.size + 2 < w.heap.size + 3; omega)).trans (by go_simp)
        have bx1_z_1 : w1.cell? ⟨w.heap.size + 2, 1, none⟩ = some (.slice none 0 0) := (hst1.cell (p := ⟨w.heap.size + 2, 1, none⟩) (by show w.heap.size + 2 < w.heap.size + 3; omega)).trans (by go_simp)
        have fz1_z_1 : w1.frozen? ⟨w.heap.size + 2, 1, none⟩ = false := (hst1.frozen (p := ⟨w.heap.size + 2, 1, none⟩) (by show w.heap.size + 2 < w.heap.size + 3; omega)).trans (by go_simp)
        have HG1 := Lib.hid ((hst1.block (w.heap.size + 2) (by omega)).trans HG0.out)
        have HO1 := Lib.hid (ho1.sub (F' := fun y => w.heap.size + 3 ≤ y ∧ y < w1.heap.size) (fun y hy => ⟨Nat.le_trans (Nat.le_of_eq HSZ0.out.symm) hy.1, hy.2⟩))
        clear ho1
        have HB1 := Lib.hid (HB0.out.trans (hb1.mono HB0.out.size))
        clear hb1 hst1
        go_wp2_with fail
        refine (impl_relValid (c0 := c0_0) a HL_a.out true HVA.out _ (Nat.le_trans HH.out (Nat.le_trans HB1.out.size (Below.size (by repeat (first | (with_reducible exact Below.refl _ _) | (with_reducible apply Below.drew) | (with_reducible refine below_drewN ?_ _) | (refine Below.setCell ?_ (by simp <;> omega) _) | (refine Below.alloc ?_ (by simp <;> omega) _)) : Below w1.heap.size w1 _)))) (HS_a.out.later (HB1.out.trans ((by repeat (first | (with_reducible exact Below.refl _ _) | (with_reducible apply Below.drew) | (with_reducible refine below_drewN ?_ _) | (refine Below.setCell ?_ (by simp <;> omega) _) | (refine Below.alloc ?_ (by simp <;> omega) _)) : Below w1.heap.size w1 _).mono HB1.out.size)) HH.out)).mono ?_
        rintro e w2 ⟨rfl, hb2⟩
        have hst2 : Below w1.heap.size w1 w2 := Below.trans (by repeat (first | (with_reducible exact Below.refl _ _) | (with_reducible apply Below.drew) | (with_reducible refine below_drewN ?_ _) | (refine Below.setCell ?_ (by simp <;> omega) _) | (refine Below.alloc ?_ (by simp <;> omega) _)) : Below w1.heap.size w1 _) (hb2.mono (Below.size (by repeat (first | (with_reducible exact Below.refl _ _) | (with_reducible apply Below.drew) | (with_reducible refine below_drewN ?_ _) | (refine Below.setCell ?_ (by simp <;> omega) _) | (refine Below.alloc ?_ (by simp <;> omega) _)) : Below w1.heap.size w1 _)))
        have sz2_a : w.heap.size < w2.heap.size := Nat.lt_of_lt_of_le sz1_a hst2.size
        have bx2_a_0 : w2.cell? ⟨w.heap.size, 0, none⟩ = some (.int .i64 a.fN) := (hst2.cell (p := ⟨w.heap.size, 0, none⟩) sz1_a).trans bx1_a_0
        have bx2_a_1 : w2.cell? ⟨w.heap.size, 1, none⟩ = some (.slice a0 a.fRows.length c0_0) := (hst2.cell (p := ⟨w.heap.size, 1, none⟩) sz1_a).trans bx1_a_1
        have sz2_b : w.heap.size + 1 < w2.heap.size := Nat.lt_of_lt_of_le sz1_b hst2.size
        have bx2_b_0 : w2.cell? ⟨w.heap.size + 1, 0, none⟩ = some (.int .i64 b.fN) := (hst2.cell (p := ⟨w.heap.size + 1, 0, none⟩) sz1_b).trans bx1_b_0
        have bx2_b_1 : w2.cell? ⟨w.heap.size + 1, 1, none⟩ = some (.slice b0 b.fRows.length c1_0) := (hst2.cell (p := ⟨w.heap.size + 1, 1, none⟩) sz1_b).trans bx1_b_1
        have sz2_z : w.heap.size + 2 < w2.heap.size := Nat.lt_of_lt_of_le sz1_z hst2.size
        have bx2_z_0 : w2.cell? ⟨w.heap.size + 2, 0, none⟩ = some (.int .i64 0) := (hst2.cell (p := ⟨w.heap.size + 2, 0, none⟩) sz1_z).trans bx1_z_0
        have fz2_z_0 : w2.frozen? ⟨w.heap.size + 2, 0, none⟩ = false := (hst2.frozen (p := ⟨w.heap.size + 2, 0, none⟩) sz1_z).trans fz1_z_0
        have bx2_z_1 : w2.cell? ⟨w.heap.size + 2, 1, none⟩ = some (.slice none 0 0) := (hst2.cell (p := ⟨w.heap.size + 2, 1, none⟩) sz1_z).trans bx1_z_1
        have fz2_z_1 : w2.frozen? ⟨w.heap.size + 2, 1, none⟩ = false := (hst2.frozen (p := ⟨w.heap.size + 2, 1, none⟩) sz1_z).trans fz1_z_1
        have sz2_x : w1.heap.size < w2.heap.size := Nat.lt_of_lt_of_le (by first | omega | (simp; done) | (simp; omega) | (simp [World.setCell]; omega)) hb2.size
        have bx2_x_0 : w2.cell? ⟨w1.heap.size, 0, none⟩ = some (.int .i64 a.fN) := (hb2.cell (p := ⟨w1.heap.size, 0, none⟩) (by first | omega | (simp; done) | (simp; omega) | (simp [World.setCell]; omega))).trans (by go_simp)
        have bx2_x_1 : w2.cell? ⟨w1.heap.size, 1, none⟩ = some (.slice a1 a.fRows.length c1) := (hb2.cell (p := ⟨w1.heap.size, 1, none⟩) (by first | omega | (simp; done) | (simp; omega) | (simp [World.setCell]; omega))).trans (by go_simp)
        have HG2 := Lib.hid ((hst2.block (w.heap.size + 2) sz1_z).trans HG1.out)
        have HO2 := Lib.hid (HO1.out.kept (Kept.of_below_all hst2))
        have HB2 := Lib.hid (HB1.out.trans (hst2.mono HB1.out.size))
        have hr2 : w1.heap.size ≤ w2.heap.size := hst2.size
        clear hb2 hst2 bx1_a_0 bx1_a_1 sz1_a bx1_b_0 bx1_b_1 sz1_b bx1_z_0 bx1_z_1 sz1_z fz1_z_0 fz1_z_1
        go_wp2_with fail
        refine (impl_relValid (c0 := c1_0) b HL_b.out true HVB.out _ (Nat.le_trans HH.out (Nat.le_trans HB2.out.size (Below.size (by repeat (first | (with_reducible exact Below.refl _ _) | (with_reducible apply Below.drew) | (with_reducible refine below_drewN ?_ _) | (refine Below.setCell ?_ (by simp <;> omega) _) | (refine Below.alloc ?_ (by simp <;> omega) _)) : Below w2.heap.size w2 _)))) (HS_b.out.later (HB2.out.trans ((by repeat (first | (with_reducible exact Below.refl _ _) | (with_reducible apply Below.drew) | (with_reducible refine below_drewN ?_ _) | (refine Below.setCell ?_ (by simp <;> omega) _) | (refine Below.alloc ?_ (by simp <;> omega) _)) : Below w2.heap.size w2 _).mono HB2.out.size)) HH.out)).mono ?_
        rintro e w3 ⟨rfl, hb3⟩
        have hst3 : Below w2.heap.size w2 w3 := Below.trans (by repeat (first | (with_reducible exact Below.refl _ _) | (with_reducible apply Below.drew) | (with_reducible refine below_drewN ?_ _) | (refine Below.setCell ?_ (by simp <;> omega) _) | (refine Below.alloc ?_ (by simp <;> omega) _)) : Below w2.heap.size w2 _) (hb3.mono (Below.size (by repeat (first | (with_reducible exact Below.refl _ _) | (with_reducible apply Below.drew) | (with_reducible refine below_drewN ?_ _) | (refine Below.setCell ?_ (by simp <;> omega) _) | (refine Below.alloc ?_ (by simp <;> omega) _)) : Below w2.heap.size w2 _)))
        have sz3_a : w.heap.size < w3.heap.size := Nat.lt_of_lt_of_le sz2_a hst3.size
        have bx3_a_0 : w3.cell? ⟨w.heap.size, 0, none⟩ = some (.int .i64 a.fN) := (hst3.cell (p := ⟨w.heap.size, 0, none⟩) sz2_a).trans bx2_a_0
        have bx3_a_1 : w3.cell? ⟨w.heap.size, 1, none⟩ = some (.slice a0 a.fRows.length c0_0) := (hst3.cell (p := ⟨w.heap.size, 1, none⟩) sz2_a).trans bx2_a_1
        have sz3_b : w.heap.size + 1 < w3.heap.size := Nat.lt_of_lt_of_le sz2_b hst3.size
        have bx3_b_0 : w3.cell? ⟨w.heap.size + 1, 0, none⟩ = some (.int .i64 b.fN) := (hst3.cell (p := ⟨w.heap.size + 1, 0, none⟩) sz2_b).trans bx2_b_0
        have bx3_b_1 : w3.cell? ⟨w.heap.size + 1, 1, none⟩ = some (.slice b0 b.fRows.length c1_0) := (hst3.cell (p := ⟨w.heap.size + 1, 1, none⟩) sz2_b).trans bx2_b_1
        have sz3_z : w.heap.size + 2 < w3.heap.size := Nat.lt_of_lt_of_le sz2_z hst3.size
        have bx3_z_0 : w3.cell? ⟨w.heap.size + 2, 0, none⟩ = some (.int .i64 0) := (hst3.cell (p := ⟨w.heap.size + 2, 0, none⟩) sz2_z).trans bx2_z_0
        have fz3_z_0 : w3.frozen? ⟨w.heap.size + 2, 0, none⟩ = false := (hst3.frozen (p := ⟨w.heap.size + 2, 0, none⟩) sz2_z).trans fz2_z_0
        have bx3_z_1 : w3.cell? ⟨w.heap.size + 2, 1, none⟩ = some (.slice none 0 0) := (hst3.cell (p := ⟨w.heap.size + 2, 1, none⟩) sz2_z).trans bx2_z_1
        have fz3_z_1 : w3.frozen? ⟨w.heap.size + 2, 1, none⟩ = false := (hst3.frozen (p := ⟨w.heap.size + 2, 1, none⟩) sz2_z).trans fz2_z_1
        have sz3_x : w1.heap.size < w3.heap.size := Nat.lt_of_lt_of_le sz2_x hst3.size
        have bx3_x_0 : w3.cell? ⟨w1.heap.size, 0, none⟩ = some (.int .i64 a.fN) := (hst3.cell (p := ⟨w1.heap.size, 0, none⟩) sz2_x).trans bx2_x_0
        have bx3_x_1 : w3.cell? ⟨w1.heap.size, 1, none⟩ = some (.slice a1 a.fRows.length c1) := (hst3.cell (p := ⟨w1.heap.size, 1, none⟩) sz2_x).trans bx2_x_1
        have HG3 := Lib.hid ((hst3.block (w.heap.size + 2) sz2_z).trans HG2.out)
        have HO3 := Lib.hid (HO2.out.kept (Kept.of_below_all hst3))
        have HB3 := Lib.hid (HB2.out.trans (hst3.mono HB2.out.size))
        have hr3 : w2.heap.size ≤ w3.heap.size := hst3.size
        clear hb3 hst3 bx2_a_0 bx2_a_1 sz2_a bx2_b_0 bx2_b_1 sz2_b bx2_z_0 bx2_z_1 sz2_z fz2_z_0 fz2_z_1 bx2_x_0 bx2_x_1 sz2_x
        go_wp2
        refine bodyPost_ret (v := .agg #[.int .i64 a.fN, .slice a1 a.fRows.length c1]) (results_cell_row Try.results24 _ _ (w.heap.size + 2) 27 #[.int .i64 a.fN, .slice a1 a.fRows.length c1] (0, 0) _ rfl (by refine Eq.trans (blk_set (cs := #[.int .i64 a.fN, .slice none 0 0]) (t := 27) (fr := (0, 0)) ?_) rfl; refine Eq.trans (blk_set (cs := #[.int .i64 0, .slice none 0 0]) (t := 27) (fr := (0, 0)) ?_) rfl; repeat (first | (with_reducible exact HG3.out) | (refine blk_other (by dsimp only; omega) ?_))) Try.underlying27 rfl rfl) rfl ?_
        rw [fin.out]
        refine ⟨a1, c1, rfl, ?_, ?_⟩
        · refine Own.sub (F := fun y => w.heap.size + 3 ≤ y ∧ y < w1.heap.size) (Own.kept (HO3.out) ?_) (fun y hy => ⟨Nat.le_trans (by omega) hy.1, Nat.lt_of_lt_of_le hy.2 (by first | (simp; done) | (simp; omega))⟩)
          repeat (first | (with_reducible exact Kept.refl) | (with_reducible apply Kept.drew) | (with_reducible apply Kept.drewN) | (refine Kept.put ?_ (by intro h; have h1 := h.1; dsimp only at h1; omega)))
        · repeat (first | (with_reducible exact HB3.out) | (with_reducible apply Below.drew) | (with_reducible refine below_drewN ?_ _) | (refine Below.setCell ?_ (by simp <;> omega) _) | (refine Below.alloc ?_ (by simp <;> omega) _))
end Go.Proofs.Ytkfonlejblcknaa
