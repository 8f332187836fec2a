/-
  Copies of relations, in the model and in the program.
-/
import Derived.Test.YtnmepemmpeboeaaGreatZEmptyRel
import Derived.Test.YtnmepemmpeboeaaGreatZShelfCl
namespace Go.Proofs.YtnmepemmpeboeaaGreat
open Go.ChangeShapes Go.WideShapes Go.ChangeAt Go.RowKit Go.Deep

abbrev rowsI (l : List Int) : Nat → Nat → Ct := fun k => ictI (l.getD k default)
/-- A slice of numbers that a call has made. -/
def IntsOut (l : List Int) (w : World) (e : Ending) (w' : World) : Prop :=
  ∃ (a : Option Addr) (c : Nat), e = .returned (.slice a l.length c) ∧ Own w' (fun y => w.heap.size ≤ y ∧ y < w'.heap.size) (.sl 1 l.length (rowsI l)) (.slice a l.length c) ∧ Below w.heap.size w w'
theorem own_of_row {w : World} {B : Nat} {e : TypeId} {v : Value} {l : List Int} (h : w.ownsRow B e 1 v l.length (l.map (Value.int .i64))) :
    ∃ a c, v = .slice a l.length c ∧ Own w (fun y => B ≤ y ∧ y < w.heap.size) (.sl 1 l.length (rowsI l)) (.slice a l.length c) := by
  have h0 := h
  rcases h.2 with ⟨rfl, hn⟩ | ⟨g, cap, cur, rfl, hB, hg, _⟩
  · rw [hn]; exact ⟨none, 0, rfl, .nil _ _ _ _ _⟩
  · have hblk := ownsRow_block h0
    refine ⟨_, cap, rfl, ints_own ⟨hB, hblk.1⟩ hblk.1 (fun k hk => ⟨.int .i64 (l.getD k default), rfl, ?_⟩) hblk.2.2.2⟩
    rw [Nat.zero_add, hblk.2.2.1 k (by omega), List.getD_eq_getElem?_getD, List.getElem?_map, List.getD_eq_getElem?_getD, List.getElem?_eq_getElem hk]
    rfl
theorem cells_of_sl {lo hi : Nat} {w : World} {l : List Int} {b off : Nat} (h : Sl lo hi w 1 l.length (rowsI l) (some ⟨b, off, none⟩)) : ∀ j, j < l.length → w.cell? ⟨b, off + j, none⟩ = some (.int .i64 (l.getD j 0)) := by
  intro j hj
  obtain ⟨b', off', hbo, _, _, hc⟩ := h.at j hj
  simp only [Option.some.injEq, Addr.mk.injEq, and_true] at hbo
  obtain ⟨rfl, rfl⟩ := hbo
  rw [Nat.mul_one] at hc
  exact open_Int hc
theorem clone_ints {lo hi c : Nat} {a : Option Addr} (l : List Int) (hl : l.length ≤ 1048576) (w : World) (hs : Sl lo hi w 1 l.length (rowsI l) a) :
    Calls Tryz.prog 101 #[.slice a l.length c] w (IntsOut l w) := by
  cases a with
  | none =>
    have h0 : l = [] := by
      rcases Nat.eq_zero_or_pos l.length with h | h
      · exact List.length_eq_zero_iff.1 h
      · obtain ⟨b, off, hb, _⟩ := hs.at 0 h
        cases hb
    subst h0
    exact (Tryz.slices_Clone_int_nil 0 c w).mono fun e w' ⟨he, hw⟩ => ⟨none, 0, he, .nil _ _ _ _ _, by subst hw; exact Below.refl _ _⟩
  | some p =>
    rcases Nat.eq_zero_or_pos l.length with h | h
    · have h0 : l = [] := List.length_eq_zero_iff.1 h
      subst h0
      refine (Tryz.slices_Clone_int_zero p c w).mono fun e w' ⟨v', he, hown, _, hb⟩ => ?_
      obtain ⟨a', c', rfl, ho⟩ := own_of_row (l := []) hown
      exact ⟨a', c', he, ho, hb⟩
    · obtain ⟨b, off, hb, _⟩ := hs.at 0 h
      obtain rfl : p = ⟨b, off, none⟩ := Option.some.inj hb
      refine (Tryz.slices_Clone_int b off l.length c l w (Nat.le_refl _) (by omega) (cells_of_sl hs)).mono fun e w' ⟨v', he, hown, _, hb⟩ => ?_
      rw [List.take_length] at hown
      obtain ⟨a', c', rfl, ho⟩ := own_of_row hown
      exact ⟨a', c', he, ho, hb⟩

set_option maxHeartbeats 1600000 in
set_option maxRecDepth 100000 in
theorem impl_copyRelation {lo hi c0 : Nat} {a0 : Option Addr} (r : DRelation) (hl : r.fRows.length ≤ 1048576) (w : World) (hhi : hi ≤ w.heap.size) (hs : Sl lo hi w 1 r.fRows.length (rowsI r.fRows) a0) :
    Calls Tryz.prog 72 #[.agg #[.int .i64 r.fN, .slice a0 r.fRows.length c0]] w (RelOut r w) := by
  have HB := Lib.hid (((Below.refl w.heap.size w).alloc (Nat.le_refl _) (.cells #[.int .i64 r.fN, .slice a0 r.fRows.length c0] 35)).alloc (by simp) (.cells #[.int .i64 0, .slice none 0 0] 35))
  have HG := Lib.hid (show ((w.alloc (.cells #[.int .i64 r.fN, .slice a0 r.fRows.length c0] 35)).alloc (.cells #[.int .i64 0, .slice none 0 0] 35)).heap[w.heap.size + 1]? = some (.cells #[.int .i64 0, .slice none 0 0] 35) from blk_new (by simp))
  have HSZ := Lib.hid (show w.heap.size + 1 < ((w.alloc (.cells #[.int .i64 r.fN, .slice a0 r.fRows.length c0] 35)).alloc (.cells #[.int .i64 0, .slice none 0 0] 35)).heap.size by simp)
  have HZ2 := Lib.hid (show ((w.alloc (.cells #[.int .i64 r.fN, .slice a0 r.fRows.length c0] 35)).alloc (.cells #[.int .i64 0, .slice none 0 0] 35)).heap.size = w.heap.size + 2 by simp)
  have hS := hs.later HB.out hhi
  clear hs
  have HCL := Lib.hid (fun (w' : World) (hb : Below ((w.alloc (.cells #[.int .i64 r.fN, .slice a0 r.fRows.length c0] 35)).alloc (.cells #[.int .i64 0, .slice none 0 0] 35)).heap.size ((w.alloc (.cells #[.int .i64 r.fN, .slice a0 r.fRows.length c0] 35)).alloc (.cells #[.int .i64 0, .slice none 0 0] 35)) w') => clone_ints (c := c0) r.fRows hl w' (hS.later hb (Nat.le_trans hhi HB.out.size)))
  clear hS
  have HC0 := Lib.hid (show ((w.alloc (.cells #[.int .i64 r.fN, .slice a0 r.fRows.length c0] 35)).alloc (.cells #[.int .i64 0, .slice none 0 0] 35)).cell? ⟨w.heap.size, 0, none⟩ = some (.int .i64 r.fN) by go_simp)
  have HC1 := Lib.hid (show ((w.alloc (.cells #[.int .i64 r.fN, .slice a0 r.fRows.length c0] 35)).alloc (.cells #[.int .i64 0, .slice none 0 0] 35)).cell? ⟨w.heap.size + 1, 0, none⟩ = some (.int .i64 0) by go_simp)
  have HC2 := Lib.hid (show ((w.alloc (.cells #[.int .i64 r.fN, .slice a0 r.fRows.length c0] 35)).alloc (.cells #[.int .i64 0, .slice none 0 0] 35)).cell? ⟨w.heap.size + 1, 1, none⟩ = some (.slice none 0 0) by go_simp)
  have HF1 := Lib.hid (show ((w.alloc (.cells #[.int .i64 r.fN, .slice a0 r.fRows.length c0] 35)).alloc (.cells #[.int .i64 0, .slice none 0 0] 35)).frozen? ⟨w.heap.size + 1, 0, none⟩ = false by go_simp)
  have HF2 := Lib.hid (show ((w.alloc (.cells #[.int .i64 r.fN, .slice a0 r.fRows.length c0] 35)).alloc (.cells #[.int .i64 0, .slice none 0 0] 35)).frozen? ⟨w.heap.size + 1, 1, none⟩ = false by go_simp)
  go_enter Tryz.func72, Tryz.ntmps72
  go_wp2_with fail
  go_region_with ((go_at_call 101; refine (HCL.out _ (by first | exact Below.refl _ _ | exact (Below.refl _ _).drew | exact below_drewN (Below.refl _ _) _)).mono ?_; rintro e w1 ⟨a1, c1, rfl, ho1, hb1⟩; have hst : Below ((w.alloc (.cells #[.int .i64 r.fN, .slice a0 r.fRows.length c0] 35)).alloc (.cells #[.int .i64 0, .slice none 0 0] 35)).heap.size ((w.alloc (.cells #[.int .i64 r.fN, .slice a0 r.fRows.length c0] 35)).alloc (.cells #[.int .i64 0, .slice none 0 0] 35)) w1 := ⟨hb1.os, hb1.tape, hb1.output, hb1.size, hb1.block⟩; have x0 := (hst.cell (p := ⟨w.heap.size, 0, none⟩) (by show w.heap.size < _; have := HSZ.out; omega)).trans HC0.out; have x1 := (hst.cell (p := ⟨w.heap.size + 1, 0, none⟩) HSZ.out).trans HC1.out; have x2 := (hst.cell (p := ⟨w.heap.size + 1, 1, none⟩) HSZ.out).trans HC2.out; have z1 := (hst.frozen (p := ⟨w.heap.size + 1, 0, none⟩) HSZ.out).trans HF1.out; have z2 := (hst.frozen (p := ⟨w.heap.size + 1, 1, none⟩) HSZ.out).trans HF2.out; have HG1 := Lib.hid ((hst.block _ HSZ.out).trans HG.out); have HO := Lib.hid (ho1.sub (F' := fun y => w.heap.size + 2 ≤ y ∧ y < w1.heap.size) (fun y hy => ⟨Nat.le_trans (Nat.le_of_eq HZ2.out.symm) hy.1, hy.2⟩)); have HB1 := Lib.hid (HB.out.trans (hst.mono HB.out.size)); clear hb1 ho1 hst))
  all_goals
    go_wp2
    refine bodyPost_ret (v := .agg #[.int .i64 r.fN, .slice a1 r.fRows.length c1]) (results_cell_row Tryz.results72 _ _ (w.heap.size + 1) 35 #[.int .i64 r.fN, .slice a1 r.fRows.length c1] (0, 0) _ rfl (by refine Eq.trans (blk_set (cs := #[.int .i64 r.fN, .slice none 0 0]) (t := 35) (fr := (0, 0)) ?_) rfl; refine Eq.trans (blk_set (cs := #[.int .i64 0, .slice none 0 0]) (t := 35) (fr := (0, 0)) ?_) rfl; exact HG1.out) Tryz.underlying35 rfl rfl) rfl ⟨a1, c1, rfl, ?_, ?_⟩
    · refine Own.sub (F := fun y => w.heap.size + 2 ≤ y ∧ y < w1.heap.size) (HO.out.kept ?_) (fun y hy => ⟨Nat.le_trans (by omega) hy.1, Nat.lt_of_lt_of_le hy.2 (by simp)⟩)
      repeat (first | (with_reducible exact Kept.refl) | (refine Kept.put ?_ (by intro h; have h1 := h.1; dsimp only at h1; omega)))
    · repeat (first | (with_reducible exact HB1.out) | (with_reducible apply Below.drew) | (with_reducible refine below_drewN ?_ _) | (refine Below.setCell ?_ (by simp <;> omega) _))
end Go.Proofs.YtnmepemmpeboeaaGreat
