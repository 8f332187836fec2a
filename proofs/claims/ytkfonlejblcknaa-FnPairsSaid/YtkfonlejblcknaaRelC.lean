/-
  Contracts of the relations' functions, told with the row's capacity.
-/
import Derived.Test.YtkfonlejblcknaaClose
namespace Go.Proofs.Ytkfonlejblcknaa
open Go.ChangeShapes Go.WideShapes Go.ChangeAt Go.RowKit Go.Deep

/-- A slice of numbers that lies in a block of its own from base on, whole: nil, or from the block's first cell on, with capacity to the block's end. -/
def RowCap (B : Nat) (w : World) (a : Option Addr) (len c : Nat) : Prop :=
  (a = none ∧ len = 0 ∧ c = 0) ∨ ∃ g cur, a = some ⟨g, 0, none⟩ ∧ B ≤ g ∧ w.heap[g]? = some (.cells cur 3 (0, 0)) ∧ len ≤ c ∧ c ≤ maxLen ∧ cur.size = c
theorem RowCap.le {B : Nat} {w : World} {a : Option Addr} {len c : Nat} (h : RowCap B w a len c) : len ≤ c := by
  rcases h with ⟨_, h1, h2⟩ | ⟨g, cur, _, _, _, h, _⟩
  · omega
  · exact h
theorem RowCap.cast {B : Nat} {w : World} {a : Option Addr} {m n c : Nat} (e : m = n) (h : RowCap B w a n c) : RowCap B w a m c := e ▸ h
theorem RowCap.mono {B D : Nat} {w : World} {a : Option Addr} {n c : Nat} (h : RowCap B w a n c) (hB : D ≤ B) : RowCap D w a n c := by
  rcases h with h | ⟨g, cur, h1, h2, h3⟩
  · exact .inl h
  · exact .inr ⟨g, cur, h1, Nat.le_trans hB h2, h3⟩
theorem blk_in {w : World} {g : Nat} {o : Obj} (h : w.heap[g]? = some o) : g < w.heap.size := (Array.getElem?_eq_some_iff.1 h).1
theorem RowCap.block {B : Nat} {w w' : World} {a : Option Addr} {len c : Nat} (h : RowCap B w a len c) (hk : ∀ g, B ≤ g → g < w.heap.size → w'.heap[g]? = w.heap[g]?) : RowCap B w' a len c := by
  rcases h with h | ⟨g, cur, h1, hB, h2, h3⟩
  · exact .inl h
  · exact .inr ⟨g, cur, h1, hB, (hk g hB (blk_in h2)).trans h2, h3⟩
theorem RowCap.below {C B : Nat} {w w' : World} {a : Option Addr} {len c : Nat} (h : RowCap C w a len c) (hb : Below B w w') (hB : w.heap.size ≤ B := by exact Nat.le_refl _) : RowCap C w' a len c := h.block fun g _ hg => hb.block g (Nat.lt_of_lt_of_le hg hB)
theorem RowCap.alloc {B : Nat} {w : World} {a : Option Addr} {len c : Nat} (h : RowCap B w a len c) (o : Obj) : RowCap B (w.alloc o) a len c := h.below ((Below.refl _ w).alloc (Nat.le_refl _) o)
theorem RowCap.drew {B : Nat} {w : World} {a : Option Addr} {len c : Nat} (h : RowCap B w a len c) : RowCap B w.drew a len c := h
theorem RowCap.drewN {B : Nat} {w : World} {a : Option Addr} {len c : Nat} (h : RowCap B w a len c) (n : Nat) : RowCap B (w.drewN n) a len c := h
theorem RowCap.setCell {B : Nat} {w : World} {a : Option Addr} {len c : Nat} (h : RowCap B w a len c) (b j : Nat) (v : Value) : RowCap B (w.setCell ⟨b, j, none⟩ v) a len c := by
  rcases h with h | ⟨g, cur, h1, hB, h2, h3, h4, h5⟩
  · exact .inl h
  · by_cases hb : g = b
    · subst hb
      exact .inr ⟨g, _, h1, hB, blk_set h2, h3, h4, by simp [h5]⟩
    · exact .inr ⟨g, cur, h1, hB, blk_other hb h2, h3, h4, h5⟩
theorem RowCap.of_row {w : World} {B : Nat} {v : Value} {n : Nat} {xs : List Value} {a : Option Addr} {c : Nat} (h : w.ownsRow B 3 1 v n xs) (hv : v = .slice a n c) : RowCap B w a n c := by
  rcases h.2 with ⟨h1, hn⟩ | ⟨g, cap, cur, h1, hB, hg, h2, h3, h4, _⟩
  · rw [hv] at h1
    cases h1
    exact .inl ⟨rfl, rfl, rfl⟩
  · rw [hv] at h1
    cases h1
    exact .inr ⟨g, cur, rfl, hB, hg, h2, h3, by omega⟩
/-- A row that a call owns, as the library tells it. -/
theorem RowCap.row {w : World} {F : Nat → Prop} {B : Nat} {l : List Int} {a : Option Addr} {c : Nat} (h : RowCap B w a l.length c) (ho : Own w F (.sl 1 l.length (rowsI l)) (.slice a l.length c)) : w.ownsRow B 3 1 (.slice a l.length c) l.length (l.map (Value.int .i64)) := by
  refine ⟨by simp, ?_⟩
  rcases h with ⟨rfl, h1, rfl⟩ | ⟨g, cur, rfl, hB, h2, h3, h4, h5⟩
  · exact .inl ⟨by rw [h1], h1⟩
  · refine .inr ⟨g, c, cur, rfl, hB, h2, h3, h4, by omega, ?_⟩
    rw [Nat.mul_one]
    apply List.ext_getElem?
    intro j
    rcases Nat.lt_or_ge j l.length with hj | hj
    · obtain ⟨b, off, ha, _, _, hc, _⟩ := own_at ho j hj
      simp only [Option.some.injEq, Addr.mk.injEq, and_true] at ha
      obtain ⟨rfl, rfl⟩ := ha
      have h6 := hc j hj
      rw [Nat.zero_add] at h6
      simp only [World.cell?, h2] at h6
      rw [List.getElem?_take_of_lt hj, Array.getElem?_toList, List.getElem?_map, List.getElem?_eq_getElem hj]
      refine h6.trans ?_
      rw [List.getD_eq_getElem?_getD, List.getElem?_eq_getElem hj]; rfl
    · rw [List.getElem?_eq_none (by simp; omega), List.getElem?_eq_none (by simp; omega)]

/-- A slice of numbers that a call has made, with its capacity. -/
def IntsOutC (l : List Int) (w : World) (e : Ending) (w' : World) : Prop :=
  ∃ (a : Option Addr) (c : Nat), e = .returned (.slice a l.length c) ∧ Own w' (fun y => w.heap.size ≤ y ∧ y < w'.heap.size) (.sl 1 l.length (rowsI l)) (.slice a l.length c) ∧ Below w.heap.size w w' ∧ RowCap w.heap.size w' a l.length c
/-- A relation that a call has made, with its row's capacity. -/
def RelOutC (r : DRelation) (w : World) (e : Ending) (w' : World) : Prop :=
  ∃ (a : Option Addr) (c : Nat), e = .returned (.agg #[.int .i64 r.fN, .slice a r.fRows.length c]) ∧ Own w' (fun y => w.heap.size ≤ y ∧ y < w'.heap.size) (.sl 1 r.fRows.length (rowsI r.fRows)) (.slice a r.fRows.length c) ∧ Below w.heap.size w w' ∧ RowCap w.heap.size w' a r.fRows.length c
theorem RelOutC.out {r : DRelation} {w w' : World} {e : Ending} (h : RelOutC r w e w') : RelOut r w e w' := by
  obtain ⟨a, c, h1, h2, h3, _⟩ := h
  exact ⟨a, c, h1, h2, h3⟩

set_option maxHeartbeats 1600000 in
set_option maxRecDepth 100000 in
theorem spec_EmptyRelationC (n : Int) (hn : okI n) (w : World) : Calls Try.prog 46 #[.int .i64 n] w (RelOutC (emptyRel n) w) := by
  have hn1 : -9223372036854775808 ≤ n ∧ n ≤ 9223372036854775807 := hn
  clear hn
  have HZ := Lib.hid (fun w => spec_l1In n 0 16 w)
  by_cases h : 0 ≤ n ∧ n ≤ 16
  · obtain ⟨n, rfl⟩ : ∃ m : Nat, n = m := ⟨n.toNat, by omega⟩
    have hn16 : n ≤ 16 := by omega
    rw [inR_yes (by omega) (by omega)] at HZ
    rw [emptyRel_nat hn16]
    clear h hn1
    obtain ⟨i0, hi', hz0, hz1, hz2⟩ := info_parts info_Int
    have HB := Lib.hid ((Below.refl w.heap.size w).alloc (Nat.le_refl _) (.cells #[.int .i64 0, .slice none 0 0] 27))
    have HG := Lib.hid (show (w.alloc (.cells #[.int .i64 0, .slice none 0 0] 27)).heap[w.heap.size]? = some (.cells #[.int .i64 0, .slice none 0 0] 27) from blk_new rfl)
    have HSZ := Lib.hid (show w.heap.size < (w.alloc (.cells #[.int .i64 0, .slice none 0 0] 27)).heap.size by simp)
    have HC0 := Lib.hid (show (w.alloc (.cells #[.int .i64 0, .slice none 0 0] 27)).cell? ⟨w.heap.size, 0, none⟩ = some (.int .i64 0) by rw [World.cell?_alloc_new]; rfl)
    have HC1 := Lib.hid (show (w.alloc (.cells #[.int .i64 0, .slice none 0 0] 27)).cell? ⟨w.heap.size, 1, none⟩ = some (.slice none 0 0) by rw [World.cell?_alloc_new]; rfl)
    have HF0 := Lib.hid (show (w.alloc (.cells #[.int .i64 0, .slice none 0 0] 27)).frozen? ⟨w.heap.size, 0, none⟩ = false by go_simp)
    have HF1 := Lib.hid (show (w.alloc (.cells #[.int .i64 0, .slice none 0 0] 27)).frozen? ⟨w.heap.size, 1, none⟩ = false by go_simp)
    go_enter Try.func46, Try.ntmps46
    go_wp2_with fail
    refine (HZ.out _).mono ?_
    rintro e w' ⟨rfl, rfl⟩
    go_wp2_with (at_make; refine wpList_make_full _ rfl (.tmp 8) (.tmp 8) 22 rfl (w.alloc (.cells #[.int .i64 0, .slice none 0 0] 27)).heap.size 3 i0 (.int .i64 0) 1 Try.underlying22 hi' hz0 hz1 .i64 .i64 (n : Int) (n : Int) n rfl rfl rfl rfl (by rw [hz2]; omega) (by unfold maxLen; omega) (Nat.le_refl _) ?_; intro w1 hown hgrow; have hb1 : Below (w.alloc (.cells #[.int .i64 0, .slice none 0 0] 27)).heap.size (w.alloc (.cells #[.int .i64 0, .slice none 0 0] 27)) w1 := (Below.refl _ _).grown hgrow (Nat.le_refl _) (fun k hk => by cases hk); have hmo := made_own hown; rw [show (w.alloc (.cells #[.int .i64 0, .slice none 0 0] 27)).heap.size = w.heap.size + 1 by simp] at hmo; have HO := Lib.hid hmo; have hrc := RowCap.of_row hown rfl; rw [show (w.alloc (.cells #[.int .i64 0, .slice none 0 0] 27)).heap.size = w.heap.size + 1 by simp] at hrc; have HRC := Lib.hid (hrc.mono (D := w.heap.size) (by omega)); clear hown hgrow hmo hrc; have x0 := (hb1.cell (p := ⟨w.heap.size, 0, none⟩) HSZ.out).trans HC0.out; have x1 := (hb1.cell (p := ⟨w.heap.size, 1, none⟩) HSZ.out).trans HC1.out; have z0 := (hb1.frozen (p := ⟨w.heap.size, 0, none⟩) HSZ.out).trans HF0.out; have z1 := (hb1.frozen (p := ⟨w.heap.size, 1, none⟩) HSZ.out).trans HF1.out; have HG1 := Lib.hid ((hb1.block _ HSZ.out).trans HG.out); have HB1 := Lib.hid (HB.out.trans (hb1.mono HB.out.size)); have hsz := Nat.lt_of_lt_of_le HSZ.out hb1.size; clear hb1)
    refine bodyPost_ret (v := .agg #[.int .i64 (n : Int), .slice (some ⟨w.heap.size + 1, 0, none⟩) n n]) (results_cell_row Try.results46 _ _ w.heap.size 27 #[.int .i64 (n : Int), .slice (some ⟨w.heap.size + 1, 0, none⟩) n n] (0, 0) _ rfl (by refine Eq.trans (blk_set (cs := #[.int .i64 (n : Int), .slice none 0 0]) (t := 27) (fr := (0, 0)) ?_) rfl; refine Eq.trans (blk_set (cs := #[.int .i64 0, .slice none 0 0]) (t := 27) (fr := (0, 0)) ?_) rfl; exact HG1.out) Try.underlying27 rfl rfl) rfl ?_
    refine ⟨some ⟨w.heap.size + 1, 0, none⟩, n, by simp, ?_, ?_, ?_⟩
    · rw [List.length_replicate]
      refine Own.sub (F := fun y => w.heap.size + 1 ≤ y ∧ y < w1.heap.size) (HO.out.kept (Kept.put (Kept.put Kept.refl ?_) ?_)) (fun y hy => ⟨Nat.le_trans (Nat.le_succ _) hy.1, Nat.lt_of_lt_of_le hy.2 (by simp)⟩)
      · intro h; exact absurd h.1 (Nat.not_succ_le_self _)
      · intro h; exact absurd h.1 (Nat.not_succ_le_self _)
    · exact (HB1.out.setCell (p := ⟨w.heap.size, 0, none⟩) (Nat.le_refl _) _).setCell (p := ⟨w.heap.size, 1, none⟩) (Nat.le_refl _) _
    · exact RowCap.cast (n := n) (by first | rfl | simp) (by repeat (first | (with_reducible exact HRC.out) | (with_reducible apply RowCap.drew) | (with_reducible refine RowCap.drewN ?_ _) | (with_reducible refine RowCap.setCell ?_ _ _ _) | (with_reducible refine RowCap.alloc ?_ _)))
  · rw [inR_no (by omega)] at HZ
    rw [emptyRel_no h]
    clear h
    go_enter Try.func46, Try.ntmps46
    go_wp2_with fail
    refine (HZ.out _).mono ?_
    rintro e w' ⟨rfl, rfl⟩
    go_wp2
    refine bodyPost_ret (v := .agg #[.int .i64 0, .slice none 0 0]) (by simp [results, Try.results46, go_sem]) rfl ⟨none, 0, rfl, .nil _ _ _ _ _, by
      repeat (first | (with_reducible exact Below.refl _ _) | (refine Below.setCell ?_ (by simp <;> omega) _) | (refine Below.alloc ?_ (by simp <;> omega) _)), .inl ⟨rfl, rfl, rfl⟩⟩

set_option maxHeartbeats 1600000 in
set_option maxRecDepth 100000 in
theorem spec_l22CopyC {lo hi c0 : Nat} {p : Addr} (r : DRelation) (hl : r.fRows.length ≤ 1048576) (w : World) (hhi : hi ≤ w.heap.size) (hs : Sl lo hi w 1 r.fRows.length (rowsI r.fRows) (some p)) :
    Calls Try.prog 38 #[.agg #[.int .i64 r.fN, .slice (some p) r.fRows.length c0]] w (RelOutC r w) := by
  obtain ⟨i0, hi', hz0, hz1, hz2⟩ := info_parts info_Int
  have HB := Lib.hid (((Below.refl w.heap.size w).alloc (Nat.le_refl _) (.cells #[.int .i64 r.fN, .slice (some p) r.fRows.length c0] 27)).alloc (by simp) (.cells #[.int .i64 0, .slice none 0 0] 27))
  have HG := Lib.hid (show ((w.alloc (.cells #[.int .i64 r.fN, .slice (some p) r.fRows.length c0] 27)).alloc (.cells #[.int .i64 0, .slice none 0 0] 27)).heap[w.heap.size + 1]? = some (.cells #[.int .i64 0, .slice none 0 0] 27) from blk_new (by simp))
  have HC0 := Lib.hid (show ((w.alloc (.cells #[.int .i64 r.fN, .slice (some p) r.fRows.length c0] 27)).alloc (.cells #[.int .i64 0, .slice none 0 0] 27)).cell? ⟨w.heap.size, 0, none⟩ = some (.int .i64 r.fN) by go_simp)
  have HC1 := Lib.hid (show ((w.alloc (.cells #[.int .i64 r.fN, .slice (some p) r.fRows.length c0] 27)).alloc (.cells #[.int .i64 0, .slice none 0 0] 27)).cell? ⟨w.heap.size + 1, 0, none⟩ = some (.int .i64 0) by go_simp)
  have HC2 := Lib.hid (show ((w.alloc (.cells #[.int .i64 r.fN, .slice (some p) r.fRows.length c0] 27)).alloc (.cells #[.int .i64 0, .slice none 0 0] 27)).cell? ⟨w.heap.size + 1, 1, none⟩ = some (.slice none 0 0) by go_simp)
  have HF1 := Lib.hid (show ((w.alloc (.cells #[.int .i64 r.fN, .slice (some p) r.fRows.length c0] 27)).alloc (.cells #[.int .i64 0, .slice none 0 0] 27)).frozen? ⟨w.heap.size + 1, 0, none⟩ = false by go_simp)
  have HF2 := Lib.hid (show ((w.alloc (.cells #[.int .i64 r.fN, .slice (some p) r.fRows.length c0] 27)).alloc (.cells #[.int .i64 0, .slice none 0 0] 27)).frozen? ⟨w.heap.size + 1, 1, none⟩ = false by go_simp)
  have hnews := Lib.hid (fun (W : World) (hW : Below w.heap.size w W) (j : Nat) (u : Value) (hu : (r.fRows.map (Value.int .i64))[j]? = some u) => some_cells hs hhi hW hu)
  have HLN := Lib.hid (show (r.fRows.map (Value.int .i64)).length = r.fRows.length * 1 by simp)
  have HON := Lib.hid (show ∀ u ∈ r.fRows.map (Value.int .i64), u.oneCell' = true from fun u hu => by obtain ⟨z, _, rfl⟩ := List.mem_map.1 hu; rfl)
  clear hs
  go_enter Try.func38, Try.ntmps38
  go_wp2_with fail
  go_region_law ((refine step_append_own _ rfl (.tmp 5) (.tmp 7) 22 rfl (w.heap.size + 2) 3 i0 (.int .i64 0) 1 8 Try.underlying22 hi' hz0 hz1 hz2 rfl (by decide) _ 0 [] (by simp [Act.eval]) (World.ownsRow_made _ #[] 0 (by simp) (Nat.zero_le _) rfl) p r.fRows.length c0 (r.fRows.map (Value.int .i64)) (by simp [Act.eval]) HLN.out (hnews.out _ (by repeat (first | (with_reducible exact HB.out) | (with_reducible apply Below.drew) | (with_reducible refine below_drewN ?_ _) | (refine Below.alloc ?_ (by simp <;> omega) _)))) HON.out (by unfold maxLen; omega) (by omega) (by simp) ?_; intro v1 w1 hown1 hgrow1 hnil1; rw [Nat.zero_add, List.nil_append] at hown1; have hst : Below (w.heap.size + 2) ((w.alloc (.cells #[.int .i64 r.fN, .slice (some p) r.fRows.length c0] 27)).alloc (.cells #[.int .i64 0, .slice none 0 0] 27)) w1 := Below.trans (by repeat (first | (with_reducible exact Below.refl _ _) | (with_reducible apply Below.drew) | (with_reducible refine below_drewN ?_ _) | (refine Below.alloc ?_ (by simp <;> omega) _))) (grown_below hgrow1 (by simp) (fun k hk => by simp [Value.ownBlock] at hk; omega)); skip; have x0 := (hst.cell (p := ⟨w.heap.size, 0, none⟩) (by show w.heap.size < w.heap.size + 2; omega)).trans HC0.out; have x1 := (hst.cell (p := ⟨w.heap.size + 1, 0, none⟩) (by show w.heap.size + 1 < w.heap.size + 2; omega)).trans HC1.out; have x2 := (hst.cell (p := ⟨w.heap.size + 1, 1, none⟩) (by show w.heap.size + 1 < w.heap.size + 2; omega)).trans HC2.out; have z1 := (hst.frozen (p := ⟨w.heap.size + 1, 0, none⟩) (by show w.heap.size + 1 < w.heap.size + 2; omega)).trans HF1.out; have z2 := (hst.frozen (p := ⟨w.heap.size + 1, 1, none⟩) (by show w.heap.size + 1 < w.heap.size + 2; omega)).trans HF2.out; have HG1 := Lib.hid ((hst.block (w.heap.size + 1) (by omega)).trans HG.out); have HB1 := Lib.hid (HB.out.trans (hst.mono (by omega))); have hor := own_of_row hown1; obtain ⟨a1, c1, rfl, ho1⟩ := hor; have HO := Lib.hid ho1; have HRC := Lib.hid ((RowCap.of_row hown1 rfl).mono (D := w.heap.size) (by omega)); clear hown1 hgrow1 hnil1 hst ho1))
  all_goals
    go_wp2
    refine bodyPost_ret (v := .agg #[.int .i64 r.fN, .slice a1 r.fRows.length c1]) (results_cell_row Try.results38 _ _ (w.heap.size + 1) 27 #[.int .i64 r.fN, .slice a1 r.fRows.length c1] (0, 0) _ rfl (by refine Eq.trans (blk_set (cs := #[.int .i64 r.fN, .slice none 0 0]) (t := 27) (fr := (0, 0)) ?_) rfl; refine Eq.trans (blk_set (cs := #[.int .i64 0, .slice none 0 0]) (t := 27) (fr := (0, 0)) ?_) rfl; exact HG1.out) Try.underlying27 rfl rfl) rfl ⟨a1, c1, rfl, ?_, ?_, ?_⟩
    · refine Own.sub (F := fun y => w.heap.size + 2 ≤ y ∧ y < w1.heap.size) (HO.out.kept ?_) (fun y hy => ⟨Nat.le_trans (by omega) hy.1, Nat.lt_of_lt_of_le hy.2 (by simp)⟩)
      repeat (first | (with_reducible exact Kept.refl) | (refine Kept.put ?_ (by intro h; have h1 := h.1; dsimp only at h1; omega)))
    · repeat (first | (with_reducible exact HB1.out) | (with_reducible apply Below.drew) | (with_reducible refine below_drewN ?_ _) | (refine Below.setCell ?_ (by simp <;> omega) _))
    · exact RowCap.cast (n := r.fRows.length) (by first | rfl | simp) (by repeat (first | (with_reducible exact HRC.out) | (with_reducible apply RowCap.drew) | (with_reducible refine RowCap.drewN ?_ _) | (with_reducible refine RowCap.setCell ?_ _ _ _) | (with_reducible refine RowCap.alloc ?_ _)))

set_option maxHeartbeats 1600000 in
set_option maxRecDepth 100000 in
theorem spec_l22Copy_noneC {c0 : Nat} (N : Int) (w : World) :
    Calls Try.prog 38 #[.agg #[.int .i64 N, .slice none 0 c0]] w (RelOutC ⟨N, []⟩ w) := by
  obtain ⟨i0, hi', hz0, hz1, hz2⟩ := info_parts info_Int
  have HB := Lib.hid (((Below.refl w.heap.size w).alloc (Nat.le_refl _) (.cells #[.int .i64 N, .slice none 0 c0] 27)).alloc (by simp) (.cells #[.int .i64 0, .slice none 0 0] 27))
  have HG := Lib.hid (show ((w.alloc (.cells #[.int .i64 N, .slice none 0 c0] 27)).alloc (.cells #[.int .i64 0, .slice none 0 0] 27)).heap[w.heap.size + 1]? = some (.cells #[.int .i64 0, .slice none 0 0] 27) from blk_new (by simp))
  have HC0 := Lib.hid (show ((w.alloc (.cells #[.int .i64 N, .slice none 0 c0] 27)).alloc (.cells #[.int .i64 0, .slice none 0 0] 27)).cell? ⟨w.heap.size, 0, none⟩ = some (.int .i64 N) by go_simp)
  have HC1 := Lib.hid (show ((w.alloc (.cells #[.int .i64 N, .slice none 0 c0] 27)).alloc (.cells #[.int .i64 0, .slice none 0 0] 27)).cell? ⟨w.heap.size + 1, 0, none⟩ = some (.int .i64 0) by go_simp)
  have HC2 := Lib.hid (show ((w.alloc (.cells #[.int .i64 N, .slice none 0 c0] 27)).alloc (.cells #[.int .i64 0, .slice none 0 0] 27)).cell? ⟨w.heap.size + 1, 1, none⟩ = some (.slice none 0 0) by go_simp)
  have HF1 := Lib.hid (show ((w.alloc (.cells #[.int .i64 N, .slice none 0 c0] 27)).alloc (.cells #[.int .i64 0, .slice none 0 0] 27)).frozen? ⟨w.heap.size + 1, 0, none⟩ = false by go_simp)
  have HF2 := Lib.hid (show ((w.alloc (.cells #[.int .i64 N, .slice none 0 c0] 27)).alloc (.cells #[.int .i64 0, .slice none 0 0] 27)).frozen? ⟨w.heap.size + 1, 1, none⟩ = false by go_simp)
  go_enter Try.func38, Try.ntmps38
  go_wp2_with fail
  go_region_law ((refine step_append_none _ rfl (.tmp 5) (.tmp 7) 22 rfl (w.heap.size + 2) 3 i0 1 Try.underlying22 hi' _ 0 [] (by simp [Act.eval]) (World.ownsRow_made _ #[] 0 (by simp) (Nat.zero_le _) rfl) c0 (by simp [Act.eval]) ?_))
  all_goals
    go_wp2
    refine bodyPost_ret (v := .agg #[.int .i64 N, .slice (some ⟨w.heap.size + 2, 0, none⟩) 0 0]) (by simp [results, Try.results38, go_sem]) rfl ⟨some ⟨w.heap.size + 2, 0, none⟩, 0, rfl, .nil _ _ _ _ _, ?_, ?_⟩
    · repeat (first | (with_reducible exact HB.out) | (with_reducible apply Below.drew) | (with_reducible refine below_drewN ?_ _) | (refine Below.setCell ?_ (by simp <;> omega) _) | (refine Below.alloc ?_ (by simp <;> omega) _) | (with_reducible exact Below.refl _ _))
    · refine .inr ⟨w.heap.size + 2, #[], rfl, by omega, ?_, Nat.le_refl _, Nat.zero_le _, rfl⟩
      repeat (first | (refine blk_other (by dsimp only; omega) ?_) | exact blk_new (by simp) | (refine blk_alloc (by simp) ?_))

theorem spec_copyC {lo hi c0 : Nat} {a0 : Option Addr} (r : DRelation) (hl : r.fRows.length ≤ 1048576) (w : World) (hhi : hi ≤ w.heap.size) (hs : Sl lo hi w 1 r.fRows.length (rowsI r.fRows) a0) :
    Calls Try.prog 38 #[.agg #[.int .i64 r.fN, .slice a0 r.fRows.length c0]] w (RelOutC r w) := by
  cases a0 with
  | some p => exact spec_l22CopyC r hl w hhi hs
  | none =>
    obtain ⟨N, l⟩ := r
    have h0 : l = [] := by
      rcases Nat.eq_zero_or_pos l.length with h | h
      · exact List.length_eq_zero_iff.1 h
      · obtain ⟨b, off, hb, _⟩ := hs.at 0 h
        cases hb
    subst h0
    exact spec_l22Copy_noneC N w

set_option maxHeartbeats 1600000 in
set_option maxRecDepth 100000 in
theorem spec_AddPairC {lo hi c0_0 : Nat} {a0 : Option Addr} (r : DRelation) (_ : r.ok) (hsz : r.sz ≤ 1048576) (i : Int) (_ : okI i) (k : Int) (_ : okI k) (w : World) (hhi : hi ≤ w.heap.size) (hs : Sl lo hi w 1 r.fRows.length (rowsI r.fRows) a0) :
    Calls Try.prog 22 #[.agg #[.int .i64 r.fN, .slice a0 r.fRows.length c0_0], .int .i64 i, .int .i64 k] w (RelOutC (addPair r i k) w) := by
  have HL := Lib.hid (rel_len hsz)
  have HB0 := Lib.hid (((Below.refl w.heap.size w).alloc (Nat.le_refl _) (.cells #[.int .i64 r.fN, .slice a0 r.fRows.length c0_0] 27)).alloc (by simp) (.cells #[.int .i64 0, .slice none 0 0] 27))
  have HS := Lib.hid hs
  have HH := Lib.hid hhi
  have HG0 := Lib.hid (show ((w.alloc (.cells #[.int .i64 r.fN, .slice a0 r.fRows.length c0_0] 27)).alloc (.cells #[.int .i64 0, .slice none 0 0] 27)).heap[w.heap.size + 1]? = some (.cells #[.int .i64 0, .slice none 0 0] 27) from blk_new (by simp))
  clear hs hhi hsz
  cases hv : relB r with
  | false =>
    have HV := Lib.hid hv
    have fin := Lib.hid (addPair_no1 (i := i) (k := k) hv)
    clear hv
    go_enter Try.func22, Try.ntmps22
    go_wp2_with fail
    refine (spec_copyC (c0 := c0_0) r HL.out _ (Nat.le_trans HH.out HB0.out.size) (HS.out.later (HB0.out) HH.out)).mono ?_
    rintro e w1 ⟨a1, c1, rfl, ho1, hb1, hcp1⟩
    have hst1 : Below (w.heap.size + 2) ((w.alloc (.cells #[.int .i64 r.fN, .slice a0 r.fRows.length c0_0] 27)).alloc (.cells #[.int .i64 0, .slice none 0 0] 27)) w1 := hb1.mono (by simp)
    have sz1_r : w.heap.size < w1.heap.size := Nat.lt_of_lt_of_le (by show w.heap.size < w.heap.size + 2; omega) (Nat.le_trans (by simp) hst1.size)
    have bx1_r_0 : w1.cell? ⟨w.heap.size, 0, none⟩ = some (.int .i64 r.fN) := (hst1.cell (p := ⟨w.heap.size, 0, none⟩) (by show w.heap.size < w.heap.size + 2; omega)).trans (by go_simp)
    have bx1_r_1 : w1.cell? ⟨w.heap.size, 1, none⟩ = some (.slice a0 r.fRows.length c0_0) := (hst1.cell (p := ⟨w.heap.size, 1, none⟩) (by show w.heap.size < w.heap.size + 2; omega)).trans (by go_simp)
    have sz1_z : w.heap.size + 1 < w1.heap.size := Nat.lt_of_lt_of_le (by show w.heap.size + 1 < w.heap.size + 2; omega) (Nat.le_trans (by simp) hst1.size)
    have bx1_z_0 : w1.cell? ⟨w.heap.size + 1, 0, none⟩ = some (.int .i64 0) := (hst1.cell (p := ⟨w.heap.size + 1, 0, none⟩) (by show w.heap.size + 1 < w.heap.size + 2; omega)).trans (by go_simp)
    have fz1_z_0 : w1.frozen? ⟨w.heap.size + 1, 0, none⟩ = false := (hst1.frozen (p := ⟨w.heap.size + 1, 0, none⟩) (by show w.heap.size + 1 < w.heap.size + 2; omega)).trans (by go_simp)
    have bx1_z_1 : w1.cell? ⟨w.heap.size + 1, 1, none⟩ = some (.slice none 0 0) := (hst1.cell (p := ⟨w.heap.size + 1, 1, none⟩) (by show w.heap.size + 1 < w.heap.size + 2; omega)).trans (by go_simp)
    have fz1_z_1 : w1.frozen? ⟨w.heap.size + 1, 1, none⟩ = false := (hst1.frozen (p := ⟨w.heap.size + 1, 1, none⟩) (by show w.heap.size + 1 < w.heap.size + 2; omega)).trans (by go_simp)
    have HG1 := Lib.hid ((hst1.block (w.heap.size + 1) (by omega)).trans HG0.out)
    have HO1 := Lib.hid (ho1.sub (F' := fun y => w.heap.size + 2 ≤ y ∧ y < w1.heap.size) (fun y hy => ⟨Nat.le_trans (by simp) hy.1, hy.2⟩))
    have HCP1 := Lib.hid (hcp1.mono (D := w.heap.size) (by first | exact HB0.out.size | omega | (simp; done) | (simp; omega)))
    clear ho1 hcp1
    have HB1 := Lib.hid (HB0.out.trans (hb1.mono HB0.out.size))
    clear hb1 hst1
    go_wp2_with fail
    refine (spec_relValid (c0 := c0_0) r HL.out false HV.out _ (Nat.le_trans HH.out (Nat.le_trans HB1.out.size (Below.size (by repeat (first | (with_reducible exact Below.refl _ _) | (with_reducible apply Below.drew) | (with_reducible refine below_drewN ?_ _) | (refine Below.setCell ?_ (by simp <;> omega) _) | (refine Below.alloc ?_ (by simp <;> omega) _)) : Below w1.heap.size w1 _)))) (HS.out.later (HB1.out.trans ((by repeat (first | (with_reducible exact Below.refl _ _) | (with_reducible apply Below.drew) | (with_reducible refine below_drewN ?_ _) | (refine Below.setCell ?_ (by simp <;> omega) _) | (refine Below.alloc ?_ (by simp <;> omega) _)) : Below w1.heap.size w1 _).mono HB1.out.size)) HH.out)).mono ?_
    rintro e w2 ⟨rfl, hb2⟩
    have hst2 : Below w1.heap.size w1 w2 := Below.trans (by repeat (first | (with_reducible exact Below.refl _ _) | (with_reducible apply Below.drew) | (with_reducible refine below_drewN ?_ _) | (refine Below.setCell ?_ (by simp <;> omega) _) | (refine Below.alloc ?_ (by simp <;> omega) _)) : Below w1.heap.size w1 _) (hb2.mono (Below.size (by repeat (first | (with_reducible exact Below.refl _ _) | (with_reducible apply Below.drew) | (with_reducible refine below_drewN ?_ _) | (refine Below.setCell ?_ (by simp <;> omega) _) | (refine Below.alloc ?_ (by simp <;> omega) _)) : Below w1.heap.size w1 _)))
    have sz2_r : w.heap.size < w2.heap.size := Nat.lt_of_lt_of_le sz1_r hst2.size
    have bx2_r_0 : w2.cell? ⟨w.heap.size, 0, none⟩ = some (.int .i64 r.fN) := (hst2.cell (p := ⟨w.heap.size, 0, none⟩) sz1_r).trans bx1_r_0
    have bx2_r_1 : w2.cell? ⟨w.heap.size, 1, none⟩ = some (.slice a0 r.fRows.length c0_0) := (hst2.cell (p := ⟨w.heap.size, 1, none⟩) sz1_r).trans bx1_r_1
    have sz2_z : w.heap.size + 1 < w2.heap.size := Nat.lt_of_lt_of_le sz1_z hst2.size
    have bx2_z_0 : w2.cell? ⟨w.heap.size + 1, 0, none⟩ = some (.int .i64 0) := (hst2.cell (p := ⟨w.heap.size + 1, 0, none⟩) sz1_z).trans bx1_z_0
    have fz2_z_0 : w2.frozen? ⟨w.heap.size + 1, 0, none⟩ = false := (hst2.frozen (p := ⟨w.heap.size + 1, 0, none⟩) sz1_z).trans fz1_z_0
    have bx2_z_1 : w2.cell? ⟨w.heap.size + 1, 1, none⟩ = some (.slice none 0 0) := (hst2.cell (p := ⟨w.heap.size + 1, 1, none⟩) sz1_z).trans bx1_z_1
    have fz2_z_1 : w2.frozen? ⟨w.heap.size + 1, 1, none⟩ = false := (hst2.frozen (p := ⟨w.heap.size + 1, 1, none⟩) sz1_z).trans fz1_z_1
    have sz2_x : w1.heap.size < w2.heap.size := Nat.lt_of_lt_of_le (by first | omega | (simp; done) | (simp; omega) | (simp [World.setCell]; omega)) hb2.size
    have bx2_x_0 : w2.cell? ⟨w1.heap.size, 0, none⟩ = some (.int .i64 r.fN) := (hb2.cell (p := ⟨w1.heap.size, 0, none⟩) (by first | omega | (simp; done) | (simp; omega) | (simp [World.setCell]; omega))).trans (by go_simp)
    have bx2_x_1 : w2.cell? ⟨w1.heap.size, 1, none⟩ = some (.slice a1 r.fRows.length c1) := (hb2.cell (p := ⟨w1.heap.size, 1, none⟩) (by first | omega | (simp; done) | (simp; omega) | (simp [World.setCell]; omega))).trans (by go_simp)
    have HG2 := Lib.hid ((hst2.block (w.heap.size + 1) sz1_z).trans HG1.out)
    have HO2 := Lib.hid (HO1.out.kept (Kept.of_below_all hst2))
    have HCP2 := Lib.hid (HCP1.out.below hst2)
    have HB2 := Lib.hid (HB1.out.trans (hst2.mono HB1.out.size))
    have hr2 : w1.heap.size ≤ w2.heap.size := hst2.size
    clear hb2 hst2 bx1_r_0 bx1_r_1 sz1_r bx1_z_0 bx1_z_1 sz1_z fz1_z_0 fz1_z_1
    go_wp2
    refine bodyPost_ret (v := .agg #[.int .i64 r.fN, .slice a1 r.fRows.length c1]) (results_cell_row Try.results22 _ _ (w.heap.size + 1) 27 #[.int .i64 r.fN, .slice a1 r.fRows.length c1] (0, 0) _ rfl (by refine Eq.trans (blk_set (cs := #[.int .i64 r.fN, .slice none 0 0]) (t := 27) (fr := (0, 0)) ?_) rfl; refine Eq.trans (blk_set (cs := #[.int .i64 0, .slice none 0 0]) (t := 27) (fr := (0, 0)) ?_) rfl; repeat (first | (with_reducible exact HG2.out) | (refine blk_other (by dsimp only; omega) ?_))) Try.underlying27 rfl rfl) rfl ?_
    rw [fin.out]
    refine ⟨a1, c1, rfl, ?_, ?_, ?_⟩
    · refine Own.sub (F := fun y => w.heap.size + 2 ≤ y ∧ y < w1.heap.size) (HO2.out.kept ?_) (fun y hy => ⟨Nat.le_trans (by omega) hy.1, Nat.lt_of_lt_of_le hy.2 (by first | (simp; done) | (simp; omega))⟩)
      repeat (first | (with_reducible exact Kept.refl) | (refine Kept.put ?_ (by intro h; have h1 := h.1; dsimp only at h1; omega)))
    · repeat (first | (with_reducible exact HB2.out) | (with_reducible apply Below.drew) | (with_reducible refine below_drewN ?_ _) | (refine Below.setCell ?_ (by simp <;> omega) _) | (refine Below.alloc ?_ (by simp <;> omega) _))
    · exact RowCap.cast (n := r.fRows.length) (by first | rfl | simp) (by repeat (first | (with_reducible exact HCP2.out) | (with_reducible apply RowCap.drew) | (with_reducible refine RowCap.drewN ?_ _) | (with_reducible refine RowCap.setCell ?_ _ _ _) | (with_reducible refine RowCap.alloc ?_ _)))
  | true =>
    have HV := Lib.hid hv
    have HP := Lib.hid (relB_parts hv)
    clear hv
    have hN1 : 0 ≤ r.fN ∧ r.fN ≤ 16 := by
      obtain ⟨n, h1, h2, _⟩ := HP.out
      rw [h2]; omega
    cases hi1 : inR i 0 (r.fN - 1) with
    | false =>
      have fin := Lib.hid (addPair_no2 (k := k) hi1)
      have HI := Lib.hid (fun w => spec_l1In_b i 0 (r.fN - 1) false hi1 w)
      clear hi1
      go_enter Try.func22, Try.ntmps22
      go_wp2_with fail
      refine (spec_copyC (c0 := c0_0) r HL.out _ (Nat.le_trans HH.out HB0.out.size) (HS.out.later (HB0.out) HH.out)).mono ?_
      rintro e w1 ⟨a1, c1, rfl, ho1, hb1, hcp1⟩
      have hst1 : Below (w.heap.size + 2) ((w.alloc (.cells #[.int .i64 r.fN, .slice a0 r.fRows.length c0_0] 27)).alloc (.cells #[.int .i64 0, .slice none 0 0] 27)) w1 := hb1.mono (by simp)
      have sz1_r : w.heap.size < w1.heap.size := Nat.lt_of_lt_of_le (by show w.heap.size < w.heap.size + 2; omega) (Nat.le_trans (by simp) hst1.size)
      have bx1_r_0 : w1.cell? ⟨w.heap.size, 0, none⟩ = some (.int .i64 r.fN) := (hst1.cell (p := ⟨w.heap.size, 0, none⟩) (by show w.heap.size < w.heap.size + 2; omega)).trans (by go_simp)
      have bx1_r_1 : w1.cell? ⟨w.heap.size, 1, none⟩ = some (.slice a0 r.fRows.length c0_0) := (hst1.cell (p := ⟨w.heap.size, 1, none⟩) (by show w.heap.size < w.heap.size + 2; omega)).trans (by go_simp)
      have sz1_z : w.heap.size + 1 < w1.heap.size := Nat.lt_of_lt_of_le (by show w.heap.size + 1 < w.heap.size + 2; omega) (Nat.le_trans (by simp) hst1.size)
      have bx1_z_0 : w1.cell? ⟨w.heap.size + 1, 0, none⟩ = some (.int .i64 0) := (hst1.cell (p := ⟨w.heap.size + 1, 0, none⟩) (by show w.heap.size + 1 < w.heap.size + 2; omega)).trans (by go_simp)
      have fz1_z_0 : w1.frozen? ⟨w.heap.size + 1, 0, none⟩ = false := (hst1.frozen (p := ⟨w.heap.size + 1, 0, none⟩) (by show w.heap.size + 1 < w.heap.size + 2; omega)).trans (by go_simp)
      have bx1_z_1 : w1.cell? ⟨w.heap.size + 1, 1, none⟩ = some (.slice none 0 0) := (hst1.cell (p := ⟨w.heap.size + 1, 1, none⟩) (by show w.heap.size + 1 < w.heap.size + 2; omega)).trans (by go_simp)
      have fz1_z_1 : w1.frozen? ⟨w.heap.size + 1, 1, none⟩ = false := (hst1.frozen (p := ⟨w.heap.size + 1, 1, none⟩) (by show w.heap.size + 1 < w.heap.size + 2; omega)).trans (by go_simp)
      have HG1 := Lib.hid ((hst1.block (w.heap.size + 1) (by omega)).trans HG0.out)
      have HO1 := Lib.hid (ho1.sub (F' := fun y => w.heap.size + 2 ≤ y ∧ y < w1.heap.size) (fun y hy => ⟨Nat.le_trans (by simp) hy.1, hy.2⟩))
      have HCP1 := Lib.hid (hcp1.mono (D := w.heap.size) (by first | exact HB0.out.size | omega | (simp; done) | (simp; omega)))
      clear ho1 hcp1
      have HB1 := Lib.hid (HB0.out.trans (hb1.mono HB0.out.size))
      clear hb1 hst1
      go_wp2_with fail
      refine (spec_relValid (c0 := c0_0) r HL.out true HV.out _ (Nat.le_trans HH.out (Nat.le_trans HB1.out.size (Below.size (by repeat (first | (with_reducible exact Below.refl _ _) | (with_reducible apply Below.drew) | (with_reducible refine below_drewN ?_ _) | (refine Below.setCell ?_ (by simp <;> omega) _) | (refine Below.alloc ?_ (by simp <;> omega) _)) : Below w1.heap.size w1 _)))) (HS.out.later (HB1.out.trans ((by repeat (first | (with_reducible exact Below.refl _ _) | (with_reducible apply Below.drew) | (with_reducible refine below_drewN ?_ _) | (refine Below.setCell ?_ (by simp <;> omega) _) | (refine Below.alloc ?_ (by simp <;> omega) _)) : Below w1.heap.size w1 _).mono HB1.out.size)) HH.out)).mono ?_
      rintro e w2 ⟨rfl, hb2⟩
      have hst2 : Below w1.heap.size w1 w2 := Below.trans (by repeat (first | (with_reducible exact Below.refl _ _) | (with_reducible apply Below.drew) | (with_reducible refine below_drewN ?_ _) | (refine Below.setCell ?_ (by simp <;> omega) _) | (refine Below.alloc ?_ (by simp <;> omega) _)) : Below w1.heap.size w1 _) (hb2.mono (Below.size (by repeat (first | (with_reducible exact Below.refl _ _) | (with_reducible apply Below.drew) | (with_reducible refine below_drewN ?_ _) | (refine Below.setCell ?_ (by simp <;> omega) _) | (refine Below.alloc ?_ (by simp <;> omega) _)) : Below w1.heap.size w1 _)))
      have sz2_r : w.heap.size < w2.heap.size := Nat.lt_of_lt_of_le sz1_r hst2.size
      have bx2_r_0 : w2.cell? ⟨w.heap.size, 0, none⟩ = some (.int .i64 r.fN) := (hst2.cell (p := ⟨w.heap.size, 0, none⟩) sz1_r).trans bx1_r_0
      have bx2_r_1 : w2.cell? ⟨w.heap.size, 1, none⟩ = some (.slice a0 r.fRows.length c0_0) := (hst2.cell (p := ⟨w.heap.size, 1, none⟩) sz1_r).trans bx1_r_1
      have sz2_z : w.heap.size + 1 < w2.heap.size := Nat.lt_of_lt_of_le sz1_z hst2.size
      have bx2_z_0 : w2.cell? ⟨w.heap.size + 1, 0, none⟩ = some (.int .i64 0) := (hst2.cell (p := ⟨w.heap.size + 1, 0, none⟩) sz1_z).trans bx1_z_0
      have fz2_z_0 : w2.frozen? ⟨w.heap.size + 1, 0, none⟩ = false := (hst2.frozen (p := ⟨w.heap.size + 1, 0, none⟩) sz1_z).trans fz1_z_0
      have bx2_z_1 : w2.cell? ⟨w.heap.size + 1, 1, none⟩ = some (.slice none 0 0) := (hst2.cell (p := ⟨w.heap.size + 1, 1, none⟩) sz1_z).trans bx1_z_1
      have fz2_z_1 : w2.frozen? ⟨w.heap.size + 1, 1, none⟩ = false := (hst2.frozen (p := ⟨w.heap.size + 1, 1, none⟩) sz1_z).trans fz1_z_1
      have sz2_x : w1.heap.size < w2.heap.size := Nat.lt_of_lt_of_le (by first | omega | (simp; done) | (simp; omega) | (simp [World.setCell]; omega)) hb2.size
      have bx2_x_0 : w2.cell? ⟨w1.heap.size, 0, none⟩ = some (.int .i64 r.fN) := (hb2.cell (p := ⟨w1.heap.size, 0, none⟩) (by first | omega | (simp; done) | (simp; omega) | (simp [World.setCell]; omega))).trans (by go_simp)
      have bx2_x_1 : w2.cell? ⟨w1.heap.size, 1, none⟩ = some (.slice a1 r.fRows.length c1) := (hb2.cell (p := ⟨w1.heap.size, 1, none⟩) (by first | omega | (simp; done) | (simp; omega) | (simp [World.setCell]; omega))).trans (by go_simp)
      have HG2 := Lib.hid ((hst2.block (w.heap.size + 1) sz1_z).trans HG1.out)
      have HO2 := Lib.hid (HO1.out.kept (Kept.of_below_all hst2))
      have HCP2 := Lib.hid (HCP1.out.below hst2)
      have HB2 := Lib.hid (HB1.out.trans (hst2.mono HB1.out.size))
      have hr2 : w1.heap.size ≤ w2.heap.size := hst2.size
      clear hb2 hst2 bx1_r_0 bx1_r_1 sz1_r bx1_z_0 bx1_z_1 sz1_z fz1_z_0 fz1_z_1
      go_wp2_with fail
      refine (HI.out _).mono ?_
      rintro e w3 ⟨rfl, hb3⟩
      have hst3 : Below w2.heap.size w2 w3 := Below.trans (by repeat (first | (with_reducible exact Below.refl _ _) | (with_reducible apply Below.drew) | (with_reducible refine below_drewN ?_ _) | (refine Below.setCell ?_ (by simp <;> omega) _) | (refine Below.alloc ?_ (by simp <;> omega) _)) : Below w2.heap.size w2 _) (hb3.mono (Below.size (by repeat (first | (with_reducible exact Below.refl _ _) | (with_reducible apply Below.drew) | (with_reducible refine below_drewN ?_ _) | (refine Below.setCell ?_ (by simp <;> omega) _) | (refine Below.alloc ?_ (by simp <;> omega) _)) : Below w2.heap.size w2 _)))
      have sz3_r : w.heap.size < w3.heap.size := Nat.lt_of_lt_of_le sz2_r hst3.size
      have bx3_r_0 : w3.cell? ⟨w.heap.size, 0, none⟩ = some (.int .i64 r.fN) := (hst3.cell (p := ⟨w.heap.size, 0, none⟩) sz2_r).trans bx2_r_0
      have bx3_r_1 : w3.cell? ⟨w.heap.size, 1, none⟩ = some (.slice a0 r.fRows.length c0_0) := (hst3.cell (p := ⟨w.heap.size, 1, none⟩) sz2_r).trans bx2_r_1
      have sz3_z : w.heap.size + 1 < w3.heap.size := Nat.lt_of_lt_of_le sz2_z hst3.size
      have bx3_z_0 : w3.cell? ⟨w.heap.size + 1, 0, none⟩ = some (.int .i64 0) := (hst3.cell (p := ⟨w.heap.size + 1, 0, none⟩) sz2_z).trans bx2_z_0
      have fz3_z_0 : w3.frozen? ⟨w.heap.size + 1, 0, none⟩ = false := (hst3.frozen (p := ⟨w.heap.size + 1, 0, none⟩) sz2_z).trans fz2_z_0
      have bx3_z_1 : w3.cell? ⟨w.heap.size + 1, 1, none⟩ = some (.slice none 0 0) := (hst3.cell (p := ⟨w.heap.size + 1, 1, none⟩) sz2_z).trans bx2_z_1
      have fz3_z_1 : w3.frozen? ⟨w.heap.size + 1, 1, none⟩ = false := (hst3.frozen (p := ⟨w.heap.size + 1, 1, none⟩) sz2_z).trans fz2_z_1
      have sz3_x : w1.heap.size < w3.heap.size := Nat.lt_of_lt_of_le sz2_x hst3.size
      have bx3_x_0 : w3.cell? ⟨w1.heap.size, 0, none⟩ = some (.int .i64 r.fN) := (hst3.cell (p := ⟨w1.heap.size, 0, none⟩) sz2_x).trans bx2_x_0
      have bx3_x_1 : w3.cell? ⟨w1.heap.size, 1, none⟩ = some (.slice a1 r.fRows.length c1) := (hst3.cell (p := ⟨w1.heap.size, 1, none⟩) sz2_x).trans bx2_x_1
      have HG3 := Lib.hid ((hst3.block (w.heap.size + 1) sz2_z).trans HG2.out)
      have HO3 := Lib.hid (HO2.out.kept (Kept.of_below_all hst3))
      have HCP3 := Lib.hid (HCP2.out.below hst3)
      have HB3 := Lib.hid (HB2.out.trans (hst3.mono HB2.out.size))
      have hr3 : w2.heap.size ≤ w3.heap.size := hst3.size
      clear hb3 hst3 bx2_r_0 bx2_r_1 sz2_r bx2_z_0 bx2_z_1 sz2_z fz2_z_0 fz2_z_1 bx2_x_0 bx2_x_1 sz2_x
      go_wp2
      refine bodyPost_ret (v := .agg #[.int .i64 r.fN, .slice a1 r.fRows.length c1]) (results_cell_row Try.results22 _ _ (w.heap.size + 1) 27 #[.int .i64 r.fN, .slice a1 r.fRows.length c1] (0, 0) _ rfl (by refine Eq.trans (blk_set (cs := #[.int .i64 r.fN, .slice none 0 0]) (t := 27) (fr := (0, 0)) ?_) rfl; refine Eq.trans (blk_set (cs := #[.int .i64 0, .slice none 0 0]) (t := 27) (fr := (0, 0)) ?_) rfl; repeat (first | (with_reducible exact HG3.out) | (refine blk_other (by dsimp only; omega) ?_))) Try.underlying27 rfl rfl) rfl ?_
      rw [fin.out]
      refine ⟨a1, c1, rfl, ?_, ?_, ?_⟩
      · refine Own.sub (F := fun y => w.heap.size + 2 ≤ y ∧ y < w1.heap.size) (HO3.out.kept ?_) (fun y hy => ⟨Nat.le_trans (by omega) hy.1, Nat.lt_of_lt_of_le hy.2 (by first | (simp; done) | (simp; omega))⟩)
        repeat (first | (with_reducible exact Kept.refl) | (refine Kept.put ?_ (by intro h; have h1 := h.1; dsimp only at h1; omega)))
      · repeat (first | (with_reducible exact HB3.out) | (with_reducible apply Below.drew) | (with_reducible refine below_drewN ?_ _) | (refine Below.setCell ?_ (by simp <;> omega) _) | (refine Below.alloc ?_ (by simp <;> omega) _))
      · exact RowCap.cast (n := r.fRows.length) (by first | rfl | simp) (by repeat (first | (with_reducible exact HCP3.out) | (with_reducible apply RowCap.drew) | (with_reducible refine RowCap.drewN ?_ _) | (with_reducible refine RowCap.setCell ?_ _ _ _) | (with_reducible refine RowCap.alloc ?_ _)))
    | true =>
      have HI := Lib.hid (fun w => spec_l1In_b i 0 (r.fN - 1) true hi1 w)
      cases hk1 : inR k 0 (r.fN - 1) with
      | false =>
        have fin := Lib.hid (addPair_no3 (i := i) hk1)
        have HK := Lib.hid (fun w => spec_l1In_b k 0 (r.fN - 1) false hk1 w)
        clear hi1 hk1
        go_enter Try.func22, Try.ntmps22
        go_wp2_with fail
        refine (spec_copyC (c0 := c0_0) r HL.out _ (Nat.le_trans HH.out HB0.out.size) (HS.out.later (HB0.out) HH.out)).mono ?_
        rintro e w1 ⟨a1, c1, rfl, ho1, hb1, hcp1⟩
        have hst1 : Below (w.heap.size + 2) ((w.alloc (.cells #[.int .i64 r.fN, .slice a0 r.fRows.length c0_0] 27)).alloc (.cells #[.int .i64 0, .slice none 0 0] 27)) w1 := hb1.mono (by simp)
        have sz1_r : w.heap.size < w1.heap.size := Nat.lt_of_lt_of_le (by show w.heap.size < w.heap.size + 2; omega) (Nat.le_trans (by simp) hst1.size)
        have bx1_r_0 : w1.cell? ⟨w.heap.size, 0, none⟩ = some (.int .i64 r.fN) := (hst1.cell (p := ⟨w.heap.size, 0, none⟩) (by show w.heap.size < w.heap.size + 2; omega)).trans (by go_simp)
        have bx1_r_1 : w1.cell? ⟨w.heap.size, 1, none⟩ = some (.slice a0 r.fRows.length c0_0) := (hst1.cell (p := ⟨w.heap.size, 1, none⟩) (by show w.heap.size < w.heap.size + 2; omega)).trans (by go_simp)
        have sz1_z : w.heap.size + 1 < w1.heap.size := Nat.lt_of_lt_of_le (by show w.heap.size + 1 < w.heap.size + 2; omega) (Nat.le_trans (by simp) hst1.size)
        have bx1_z_0 : w1.cell? ⟨w.heap.size + 1, 0, none⟩ = some (.int .i64 0) := (hst1.cell (p := ⟨w.heap.size + 1, 0, none⟩) (by show w.heap.size + 1 < w.heap.size + 2; omega)).trans (by go_simp)
        have fz1_z_0 : w1.frozen? ⟨w.heap.size + 1, 0, none⟩ = false := (hst1.frozen (p := ⟨w.heap.size + 1, 0, none⟩) (by show w.heap.size + 1 < w.heap.size + 2; omega)).trans (by go_simp)
        have bx1_z_1 : w1.cell? ⟨w.heap.size + 1, 1, none⟩ = some (.slice none 0 0) := (hst1.cell (p := ⟨w.heap.size + 1, 1, none⟩) (by show w.heap.size + 1 < w.heap.size + 2; omega)).trans (by go_simp)
        have fz1_z_1 : w1.frozen? ⟨w.heap.size + 1, 1, none⟩ = false := (hst1.frozen (p := ⟨w.heap.size + 1, 1, none⟩) (by show w.heap.size + 1 < w.heap.size + 2; omega)).trans (by go_simp)
        have HG1 := Lib.hid ((hst1.block (w.heap.size + 1) (by omega)).trans HG0.out)
        have HO1 := Lib.hid (ho1.sub (F' := fun y => w.heap.size + 2 ≤ y ∧ y < w1.heap.size) (fun y hy => ⟨Nat.le_trans (by simp) hy.1, hy.2⟩))
        have HCP1 := Lib.hid (hcp1.mono (D := w.heap.size) (by first | exact HB0.out.size | omega | (simp; done) | (simp; omega)))
        clear ho1 hcp1
        have HB1 := Lib.hid (HB0.out.trans (hb1.mono HB0.out.size))
        clear hb1 hst1
        go_wp2_with fail
        refine (spec_relValid (c0 := c0_0) r HL.out true HV.out _ (Nat.le_trans HH.out (Nat.le_trans HB1.out.size (Below.size (by repeat (first | (with_reducible exact Below.refl _ _) | (with_reducible apply Below.drew) | (with_reducible refine below_drewN ?_ _) | (refine Below.setCell ?_ (by simp <;> omega) _) | (refine Below.alloc ?_ (by simp <;> omega) _)) : Below w1.heap.size w1 _)))) (HS.out.later (HB1.out.trans ((by repeat (first | (with_reducible exact Below.refl _ _) | (with_reducible apply Below.drew) | (with_reducible refine below_drewN ?_ _) | (refine Below.setCell ?_ (by simp <;> omega) _) | (refine Below.alloc ?_ (by simp <;> omega) _)) : Below w1.heap.size w1 _).mono HB1.out.size)) HH.out)).mono ?_
        rintro e w2 ⟨rfl, hb2⟩
        have hst2 : Below w1.heap.size w1 w2 := Below.trans (by repeat (first | (with_reducible exact Below.refl _ _) | (with_reducible apply Below.drew) | (with_reducible refine below_drewN ?_ _) | (refine Below.setCell ?_ (by simp <;> omega) _) | (refine Below.alloc ?_ (by simp <;> omega) _)) : Below w1.heap.size w1 _) (hb2.mono (Below.size (by repeat (first | (with_reducible exact Below.refl _ _) | (with_reducible apply Below.drew) | (with_reducible refine below_drewN ?_ _) | (refine Below.setCell ?_ (by simp <;> omega) _) | (refine Below.alloc ?_ (by simp <;> omega) _)) : Below w1.heap.size w1 _)))
        have sz2_r : w.heap.size < w2.heap.size := Nat.lt_of_lt_of_le sz1_r hst2.size
        have bx2_r_0 : w2.cell? ⟨w.heap.size, 0, none⟩ = some (.int .i64 r.fN) := (hst2.cell (p := ⟨w.heap.size, 0, none⟩) sz1_r).trans bx1_r_0
        have bx2_r_1 : w2.cell? ⟨w.heap.size, 1, none⟩ = some (.slice a0 r.fRows.length c0_0) := (hst2.cell (p := ⟨w.heap.size, 1, none⟩) sz1_r).trans bx1_r_1
        have sz2_z : w.heap.size + 1 < w2.heap.size := Nat.lt_of_lt_of_le sz1_z hst2.size
        have bx2_z_0 : w2.cell? ⟨w.heap.size + 1, 0, none⟩ = some (.int .i64 0) := (hst2.cell (p := ⟨w.heap.size + 1, 0, none⟩) sz1_z).trans bx1_z_0
        have fz2_z_0 : w2.frozen? ⟨w.heap.size + 1, 0, none⟩ = false := (hst2.frozen (p := ⟨w.heap.size + 1, 0, none⟩) sz1_z).trans fz1_z_0
        have bx2_z_1 : w2.cell? ⟨w.heap.size + 1, 1, none⟩ = some (.slice none 0 0) := (hst2.cell (p := ⟨w.heap.size + 1, 1, none⟩) sz1_z).trans bx1_z_1
        have fz2_z_1 : w2.frozen? ⟨w.heap.size + 1, 1, none⟩ = false := (hst2.frozen (p := ⟨w.heap.size + 1, 1, none⟩) sz1_z).trans fz1_z_1
        have sz2_x : w1.heap.size < w2.heap.size := Nat.lt_of_lt_of_le (by first | omega | (simp; done) | (simp; omega) | (simp [World.setCell]; omega)) hb2.size
        have bx2_x_0 : w2.cell? ⟨w1.heap.size, 0, none⟩ = some (.int .i64 r.fN) := (hb2.cell (p := ⟨w1.heap.size, 0, none⟩) (by first | omega | (simp; done) | (simp; omega) | (simp [World.setCell]; omega))).trans (by go_simp)
        have bx2_x_1 : w2.cell? ⟨w1.heap.size, 1, none⟩ = some (.slice a1 r.fRows.length c1) := (hb2.cell (p := ⟨w1.heap.size, 1, none⟩) (by first | omega | (simp; done) | (simp; omega) | (simp [World.setCell]; omega))).trans (by go_simp)
        have HG2 := Lib.hid ((hst2.block (w.heap.size + 1) sz1_z).trans HG1.out)
        have HO2 := Lib.hid (HO1.out.kept (Kept.of_below_all hst2))
        have HCP2 := Lib.hid (HCP1.out.below hst2)
        have HB2 := Lib.hid (HB1.out.trans (hst2.mono HB1.out.size))
        have hr2 : w1.heap.size ≤ w2.heap.size := hst2.size
        clear hb2 hst2 bx1_r_0 bx1_r_1 sz1_r bx1_z_0 bx1_z_1 sz1_z fz1_z_0 fz1_z_1
        go_wp2_with fail
        refine (HI.out _).mono ?_
        rintro e w3 ⟨rfl, hb3⟩
        have hst3 : Below w2.heap.size w2 w3 := Below.trans (by repeat (first | (with_reducible exact Below.refl _ _) | (with_reducible apply Below.drew) | (with_reducible refine below_drewN ?_ _) | (refine Below.setCell ?_ (by simp <;> omega) _) | (refine Below.alloc ?_ (by simp <;> omega) _)) : Below w2.heap.size w2 _) (hb3.mono (Below.size (by repeat (first | (with_reducible exact Below.refl _ _) | (with_reducible apply Below.drew) | (with_reducible refine below_drewN ?_ _) | (refine Below.setCell ?_ (by simp <;> omega) _) | (refine Below.alloc ?_ (by simp <;> omega) _)) : Below w2.heap.size w2 _)))
        have sz3_r : w.heap.size < w3.heap.size := Nat.lt_of_lt_of_le sz2_r hst3.size
        have bx3_r_0 : w3.cell? ⟨w.heap.size, 0, none⟩ = some (.int .i64 r.fN) := (hst3.cell (p := ⟨w.heap.size, 0, none⟩) sz2_r).trans bx2_r_0
        have bx3_r_1 : w3.cell? ⟨w.heap.size, 1, none⟩ = some (.slice a0 r.fRows.length c0_0) := (hst3.cell (p := ⟨w.heap.size, 1, none⟩) sz2_r).trans bx2_r_1
        have sz3_z : w.heap.size + 1 < w3.heap.size := Nat.lt_of_lt_of_le sz2_z hst3.size
        have bx3_z_0 : w3.cell? ⟨w.heap.size + 1, 0, none⟩ = some (.int .i64 0) := (hst3.cell (p := ⟨w.heap.size + 1, 0, none⟩) sz2_z).trans bx2_z_0
        have fz3_z_0 : w3.frozen? ⟨w.heap.size + 1, 0, none⟩ = false := (hst3.frozen (p := ⟨w.heap.size + 1, 0, none⟩) sz2_z).trans fz2_z_0
        have bx3_z_1 : w3.cell? ⟨w.heap.size + 1, 1, none⟩ = some (.slice none 0 0) := (hst3.cell (p := ⟨w.heap.size + 1, 1, none⟩) sz2_z).trans bx2_z_1
        have fz3_z_1 : w3.frozen? ⟨w.heap.size + 1, 1, none⟩ = false := (hst3.frozen (p := ⟨w.heap.size + 1, 1, none⟩) sz2_z).trans fz2_z_1
        have sz3_x : w1.heap.size < w3.heap.size := Nat.lt_of_lt_of_le sz2_x hst3.size
        have bx3_x_0 : w3.cell? ⟨w1.heap.size, 0, none⟩ = some (.int .i64 r.fN) := (hst3.cell (p := ⟨w1.heap.size, 0, none⟩) sz2_x).trans bx2_x_0
        have bx3_x_1 : w3.cell? ⟨w1.heap.size, 1, none⟩ = some (.slice a1 r.fRows.length c1) := (hst3.cell (p := ⟨w1.heap.size, 1, none⟩) sz2_x).trans bx2_x_1
        have HG3 := Lib.hid ((hst3.block (w.heap.size + 1) sz2_z).trans HG2.out)
        have HO3 := Lib.hid (HO2.out.kept (Kept.of_below_all hst3))
        have HCP3 := Lib.hid (HCP2.out.below hst3)
        have HB3 := Lib.hid (HB2.out.trans (hst3.mono HB2.out.size))
        have hr3 : w2.heap.size ≤ w3.heap.size := hst3.size
        clear hb3 hst3 bx2_r_0 bx2_r_1 sz2_r bx2_z_0 bx2_z_1 sz2_z fz2_z_0 fz2_z_1 bx2_x_0 bx2_x_1 sz2_x
        go_wp2_with fail
        refine (HK.out _).mono ?_
        rintro e w4 ⟨rfl, hb4⟩
        have hst4 : Below w3.heap.size w3 w4 := Below.trans (by repeat (first | (with_reducible exact Below.refl _ _) | (with_reducible apply Below.drew) | (with_reducible refine below_drewN ?_ _) | (refine Below.setCell ?_ (by simp <;> omega) _) | (refine Below.alloc ?_ (by simp <;> omega) _)) : Below w3.heap.size w3 _) (hb4.mono (Below.size (by repeat (first | (with_reducible exact Below.refl _ _) | (with_reducible apply Below.drew) | (with_reducible refine below_drewN ?_ _) | (refine Below.setCell ?_ (by simp <;> omega) _) | (refine Below.alloc ?_ (by simp <;> omega) _)) : Below w3.heap.size w3 _)))
        have sz4_r : w.heap.size < w4.heap.size := Nat.lt_of_lt_of_le sz3_r hst4.size
        have bx4_r_0 : w4.cell? ⟨w.heap.size, 0, none⟩ = some (.int .i64 r.fN) := (hst4.cell (p := ⟨w.heap.size, 0, none⟩) sz3_r).trans bx3_r_0
        have bx4_r_1 : w4.cell? ⟨w.heap.size, 1, none⟩ = some (.slice a0 r.fRows.length c0_0) := (hst4.cell (p := ⟨w.heap.size, 1, none⟩) sz3_r).trans bx3_r_1
        have sz4_z : w.heap.size + 1 < w4.heap.size := Nat.lt_of_lt_of_le sz3_z hst4.size
        have bx4_z_0 : w4.cell? ⟨w.heap.size + 1, 0, none⟩ = some (.int .i64 0) := (hst4.cell (p := ⟨w.heap.size + 1, 0, none⟩) sz3_z).trans bx3_z_0
        have fz4_z_0 : w4.frozen? ⟨w.heap.size + 1, 0, none⟩ = false := (hst4.frozen (p := ⟨w.heap.size + 1, 0, none⟩) sz3_z).trans fz3_z_0
        have bx4_z_1 : w4.cell? ⟨w.heap.size + 1, 1, none⟩ = some (.slice none 0 0) := (hst4.cell (p := ⟨w.heap.size + 1, 1, none⟩) sz3_z).trans bx3_z_1
        have fz4_z_1 : w4.frozen? ⟨w.heap.size + 1, 1, none⟩ = false := (hst4.frozen (p := ⟨w.heap.size + 1, 1, none⟩) sz3_z).trans fz3_z_1
        have sz4_x : w1.heap.size < w4.heap.size := Nat.lt_of_lt_of_le sz3_x hst4.size
        have bx4_x_0 : w4.cell? ⟨w1.heap.size, 0, none⟩ = some (.int .i64 r.fN) := (hst4.cell (p := ⟨w1.heap.size, 0, none⟩) sz3_x).trans bx3_x_0
        have bx4_x_1 : w4.cell? ⟨w1.heap.size, 1, none⟩ = some (.slice a1 r.fRows.length c1) := (hst4.cell (p := ⟨w1.heap.size, 1, none⟩) sz3_x).trans bx3_x_1
        have HG4 := Lib.hid ((hst4.block (w.heap.size + 1) sz3_z).trans HG3.out)
        have HO4 := Lib.hid (HO3.out.kept (Kept.of_below_all hst4))
        have HCP4 := Lib.hid (HCP3.out.below hst4)
        have HB4 := Lib.hid (HB3.out.trans (hst4.mono HB3.out.size))
        have hr4 : w3.heap.size ≤ w4.heap.size := hst4.size
        clear hb4 hst4 bx3_r_0 bx3_r_1 sz3_r bx3_z_0 bx3_z_1 sz3_z fz3_z_0 fz3_z_1 bx3_x_0 bx3_x_1 sz3_x
        go_wp2
        refine bodyPost_ret (v := .agg #[.int .i64 r.fN, .slice a1 r.fRows.length c1]) (results_cell_row Try.results22 _ _ (w.heap.size + 1) 27 #[.int .i64 r.fN, .slice a1 r.fRows.length c1] (0, 0) _ rfl (by refine Eq.trans (blk_set (cs := #[.int .i64 r.fN, .slice none 0 0]) (t := 27) (fr := (0, 0)) ?_) rfl; refine Eq.trans (blk_set (cs := #[.int .i64 0, .slice none 0 0]) (t := 27) (fr := (0, 0)) ?_) rfl; repeat (first | (with_reducible exact HG4.out) | (refine blk_other (by dsimp only; omega) ?_))) Try.underlying27 rfl rfl) rfl ?_
        rw [fin.out]
        refine ⟨a1, c1, rfl, ?_, ?_, ?_⟩
        · refine Own.sub (F := fun y => w.heap.size + 2 ≤ y ∧ y < w1.heap.size) (HO4.out.kept ?_) (fun y hy => ⟨Nat.le_trans (by omega) hy.1, Nat.lt_of_lt_of_le hy.2 (by first | (simp; done) | (simp; omega))⟩)
          repeat (first | (with_reducible exact Kept.refl) | (refine Kept.put ?_ (by intro h; have h1 := h.1; dsimp only at h1; omega)))
        · repeat (first | (with_reducible exact HB4.out) | (with_reducible apply Below.drew) | (with_reducible refine below_drewN ?_ _) | (refine Below.setCell ?_ (by simp <;> omega) _) | (refine Below.alloc ?_ (by simp <;> omega) _))
        · exact RowCap.cast (n := r.fRows.length) (by first | rfl | simp) (by repeat (first | (with_reducible exact HCP4.out) | (with_reducible apply RowCap.drew) | (with_reducible refine RowCap.drewN ?_ _) | (with_reducible refine RowCap.setCell ?_ _ _ _) | (with_reducible refine RowCap.alloc ?_ _)))
      | true =>
        have HK := Lib.hid (fun w => spec_l1In_b k 0 (r.fN - 1) true hk1 w)
        obtain ⟨i, rfl, hi2⟩ := inR_nat hi1
        obtain ⟨k, rfl, hk2⟩ := inR_nat hk1
        have fin := Lib.hid (addPair_yes HV.out hi1 hk1)
        clear hi1 hk1
        have hil : i < r.fRows.length := by
          obtain ⟨n, h1, h2, h3, _⟩ := HP.out
          omega
        have hk16 : k ≤ 16 := by omega
        obtain ⟨q, hq⟩ : ∃ q : Int, (2 : Int) ^ k = q := ⟨_, rfl⟩
        have hq1 := pow_in hk16
        rw [hq] at hq1
        have hlow : 1 ≤ q := hq1.1
        have hhigh : q ≤ 65536 := hq1.2
        have hw1 : wrap64 q = q := IntWalk.wrap64_in _ ⟨by omega, by omega⟩
        have HQ := Lib.hid hq
        clear hq1
        go_enter Try.func22, Try.ntmps22
        go_wp2_with fail
        refine (spec_copyC (c0 := c0_0) r HL.out _ (Nat.le_trans HH.out HB0.out.size) (HS.out.later (HB0.out) HH.out)).mono ?_
        rintro e w1 ⟨a1, c1, rfl, ho1, hb1, hcp1⟩
        have hst1 : Below (w.heap.size + 2) ((w.alloc (.cells #[.int .i64 r.fN, .slice a0 r.fRows.length c0_0] 27)).alloc (.cells #[.int .i64 0, .slice none 0 0] 27)) w1 := hb1.mono (by simp)
        have sz1_r : w.heap.size < w1.heap.size := Nat.lt_of_lt_of_le (by show w.heap.size < w.heap.size + 2; omega) (Nat.le_trans (by simp) hst1.size)
        have bx1_r_0 : w1.cell? ⟨w.heap.size, 0, none⟩ = some (.int .i64 r.fN) := (hst1.cell (p := ⟨w.heap.size, 0, none⟩) (by show w.heap.size < w.heap.size + 2; omega)).trans (by go_simp)
        have bx1_r_1 : w1.cell? ⟨w.heap.size, 1, none⟩ = some (.slice a0 r.fRows.length c0_0) := (hst1.cell (p := ⟨w.heap.size, 1, none⟩) (by show w.heap.size < w.heap.size + 2; omega)).trans (by go_simp)
        have sz1_z : w.heap.size + 1 < w1.heap.size := Nat.lt_of_lt_of_le (by show w.heap.size + 1 < w.heap.size + 2; omega) (Nat.le_trans (by simp) hst1.size)
        have bx1_z_0 : w1.cell? ⟨w.heap.size + 1, 0, none⟩ = some (.int .i64 0) := (hst1.cell (p := ⟨w.heap.size + 1, 0, none⟩) (by show w.heap.size + 1 < w.heap.size + 2; omega)).trans (by go_simp)
        have fz1_z_0 : w1.frozen? ⟨w.heap.size + 1, 0, none⟩ = false := (hst1.frozen (p := ⟨w.heap.size + 1, 0, none⟩) (by show w.heap.size + 1 < w.heap.size + 2; omega)).trans (by go_simp)
        have bx1_z_1 : w1.cell? ⟨w.heap.size + 1, 1, none⟩ = some (.slice none 0 0) := (hst1.cell (p := ⟨w.heap.size + 1, 1, none⟩) (by show w.heap.size + 1 < w.heap.size + 2; omega)).trans (by go_simp)
        have fz1_z_1 : w1.frozen? ⟨w.heap.size + 1, 1, none⟩ = false := (hst1.frozen (p := ⟨w.heap.size + 1, 1, none⟩) (by show w.heap.size + 1 < w.heap.size + 2; omega)).trans (by go_simp)
        have HG1 := Lib.hid ((hst1.block (w.heap.size + 1) (by omega)).trans HG0.out)
        have HO1 := Lib.hid (ho1.sub (F' := fun y => w.heap.size + 2 ≤ y ∧ y < w1.heap.size) (fun y hy => ⟨Nat.le_trans (by simp) hy.1, hy.2⟩))
        have HCP1 := Lib.hid (hcp1.mono (D := w.heap.size) (by first | exact HB0.out.size | omega | (simp; done) | (simp; omega)))
        clear ho1 hcp1
        have HB1 := Lib.hid (HB0.out.trans (hb1.mono HB0.out.size))
        clear hb1 hst1
        go_wp2_with fail
        refine (spec_relValid (c0 := c0_0) r HL.out true HV.out _ (Nat.le_trans HH.out (Nat.le_trans HB1.out.size (Below.size (by repeat (first | (with_reducible exact Below.refl _ _) | (with_reducible apply Below.drew) | (with_reducible refine below_drewN ?_ _) | (refine Below.setCell ?_ (by simp <;> omega) _) | (refine Below.alloc ?_ (by simp <;> omega) _)) : Below w1.heap.size w1 _)))) (HS.out.later (HB1.out.trans ((by repeat (first | (with_reducible exact Below.refl _ _) | (with_reducible apply Below.drew) | (with_reducible refine below_drewN ?_ _) | (refine Below.setCell ?_ (by simp <;> omega) _) | (refine Below.alloc ?_ (by simp <;> omega) _)) : Below w1.heap.size w1 _).mono HB1.out.size)) HH.out)).mono ?_
        rintro e w2 ⟨rfl, hb2⟩
        have hst2 : Below w1.heap.size w1 w2 := Below.trans (by repeat (first | (with_reducible exact Below.refl _ _) | (with_reducible apply Below.drew) | (with_reducible refine below_drewN ?_ _) | (refine Below.setCell ?_ (by simp <;> omega) _) | (refine Below.alloc ?_ (by simp <;> omega) _)) : Below w1.heap.size w1 _) (hb2.mono (Below.size (by repeat (first | (with_reducible exact Below.refl _ _) | (with_reducible apply Below.drew) | (with_reducible refine below_drewN ?_ _) | (refine Below.setCell ?_ (by simp <;> omega) _) | (refine Below.alloc ?_ (by simp <;> omega) _)) : Below w1.heap.size w1 _)))
        have sz2_r : w.heap.size < w2.heap.size := Nat.lt_of_lt_of_le sz1_r hst2.size
        have bx2_r_0 : w2.cell? ⟨w.heap.size, 0, none⟩ = some (.int .i64 r.fN) := (hst2.cell (p := ⟨w.heap.size, 0, none⟩) sz1_r).trans bx1_r_0
        have bx2_r_1 : w2.cell? ⟨w.heap.size, 1, none⟩ = some (.slice a0 r.fRows.length c0_0) := (hst2.cell (p := ⟨w.heap.size, 1, none⟩) sz1_r).trans bx1_r_1
        have sz2_z : w.heap.size + 1 < w2.heap.size := Nat.lt_of_lt_of_le sz1_z hst2.size
        have bx2_z_0 : w2.cell? ⟨w.heap.size + 1, 0, none⟩ = some (.int .i64 0) := (hst2.cell (p := ⟨w.heap.size + 1, 0, none⟩) sz1_z).trans bx1_z_0
        have fz2_z_0 : w2.frozen? ⟨w.heap.size + 1, 0, none⟩ = false := (hst2.frozen (p := ⟨w.heap.size + 1, 0, none⟩) sz1_z).trans fz1_z_0
        have bx2_z_1 : w2.cell? ⟨w.heap.size + 1, 1, none⟩ = some (.slice none 0 0) := (hst2.cell (p := ⟨w.heap.size + 1, 1, none⟩) sz1_z).trans bx1_z_1
        have fz2_z_1 : w2.frozen? ⟨w.heap.size + 1, 1, none⟩ = false := (hst2.frozen (p := ⟨w.heap.size + 1, 1, none⟩) sz1_z).trans fz1_z_1
        have sz2_x : w1.heap.size < w2.heap.size := Nat.lt_of_lt_of_le (by first | omega | (simp; done) | (simp; omega) | (simp [World.setCell]; omega)) hb2.size
        have bx2_x_0 : w2.cell? ⟨w1.heap.size, 0, none⟩ = some (.int .i64 r.fN) := (hb2.cell (p := ⟨w1.heap.size, 0, none⟩) (by first | omega | (simp; done) | (simp; omega) | (simp [World.setCell]; omega))).trans (by go_simp)
        have bx2_x_1 : w2.cell? ⟨w1.heap.size, 1, none⟩ = some (.slice a1 r.fRows.length c1) := (hb2.cell (p := ⟨w1.heap.size, 1, none⟩) (by first | omega | (simp; done) | (simp; omega) | (simp [World.setCell]; omega))).trans (by go_simp)
        have HG2 := Lib.hid ((hst2.block (w.heap.size + 1) sz1_z).trans HG1.out)
        have HO2 := Lib.hid (HO1.out.kept (Kept.of_below_all hst2))
        have HCP2 := Lib.hid (HCP1.out.below hst2)
        have HB2 := Lib.hid (HB1.out.trans (hst2.mono HB1.out.size))
        have hr2 : w1.heap.size ≤ w2.heap.size := hst2.size
        clear hb2 hst2 bx1_r_0 bx1_r_1 sz1_r bx1_z_0 bx1_z_1 sz1_z fz1_z_0 fz1_z_1
        go_wp2_with fail
        refine (HI.out _).mono ?_
        rintro e w3 ⟨rfl, hb3⟩
        have hst3 : Below w2.heap.size w2 w3 := Below.trans (by repeat (first | (with_reducible exact Below.refl _ _) | (with_reducible apply Below.drew) | (with_reducible refine below_drewN ?_ _) | (refine Below.setCell ?_ (by simp <;> omega) _) | (refine Below.alloc ?_ (by simp <;> omega) _)) : Below w2.heap.size w2 _) (hb3.mono (Below.size (by repeat (first | (with_reducible exact Below.refl _ _) | (with_reducible apply Below.drew) | (with_reducible refine below_drewN ?_ _) | (refine Below.setCell ?_ (by simp <;> omega) _) | (refine Below.alloc ?_ (by simp <;> omega) _)) : Below w2.heap.size w2 _)))
        have sz3_r : w.heap.size < w3.heap.size := Nat.lt_of_lt_of_le sz2_r hst3.size
        have bx3_r_0 : w3.cell? ⟨w.heap.size, 0, none⟩ = some (.int .i64 r.fN) := (hst3.cell (p := ⟨w.heap.size, 0, none⟩) sz2_r).trans bx2_r_0
        have bx3_r_1 : w3.cell? ⟨w.heap.size, 1, none⟩ = some (.slice a0 r.fRows.length c0_0) := (hst3.cell (p := ⟨w.heap.size, 1, none⟩) sz2_r).trans bx2_r_1
        have sz3_z : w.heap.size + 1 < w3.heap.size := Nat.lt_of_lt_of_le sz2_z hst3.size
        have bx3_z_0 : w3.cell? ⟨w.heap.size + 1, 0, none⟩ = some (.int .i64 0) := (hst3.cell (p := ⟨w.heap.size + 1, 0, none⟩) sz2_z).trans bx2_z_0
        have fz3_z_0 : w3.frozen? ⟨w.heap.size + 1, 0, none⟩ = false := (hst3.frozen (p := ⟨w.heap.size + 1, 0, none⟩) sz2_z).trans fz2_z_0
        have bx3_z_1 : w3.cell? ⟨w.heap.size + 1, 1, none⟩ = some (.slice none 0 0) := (hst3.cell (p := ⟨w.heap.size + 1, 1, none⟩) sz2_z).trans bx2_z_1
        have fz3_z_1 : w3.frozen? ⟨w.heap.size + 1, 1, none⟩ = false := (hst3.frozen (p := ⟨w.heap.size + 1, 1, none⟩) sz2_z).trans fz2_z_1
        have sz3_x : w1.heap.size < w3.heap.size := Nat.lt_of_lt_of_le sz2_x hst3.size
        have bx3_x_0 : w3.cell? ⟨w1.heap.size, 0, none⟩ = some (.int .i64 r.fN) := (hst3.cell (p := ⟨w1.heap.size, 0, none⟩) sz2_x).trans bx2_x_0
        have bx3_x_1 : w3.cell? ⟨w1.heap.size, 1, none⟩ = some (.slice a1 r.fRows.length c1) := (hst3.cell (p := ⟨w1.heap.size, 1, none⟩) sz2_x).trans bx2_x_1
        have HG3 := Lib.hid ((hst3.block (w.heap.size + 1) sz2_z).trans HG2.out)
        have HO3 := Lib.hid (HO2.out.kept (Kept.of_below_all hst3))
        have HCP3 := Lib.hid (HCP2.out.below hst3)
        have HB3 := Lib.hid (HB2.out.trans (hst3.mono HB2.out.size))
        have hr3 : w2.heap.size ≤ w3.heap.size := hst3.size
        clear hb3 hst3 bx2_r_0 bx2_r_1 sz2_r bx2_z_0 bx2_z_1 sz2_z fz2_z_0 fz2_z_1 bx2_x_0 bx2_x_1 sz2_x
        go_wp2_with fail
        refine (HK.out _).mono ?_
        rintro e w4 ⟨rfl, hb4⟩
        have hst4 : Below w3.heap.size w3 w4 := Below.trans (by repeat (first | (with_reducible exact Below.refl _ _) | (with_reducible apply Below.drew) | (with_reducible refine below_drewN ?_ _) | (refine Below.setCell ?_ (by simp <;> omega) _) | (refine Below.alloc ?_ (by simp <;> omega) _)) : Below w3.heap.size w3 _) (hb4.mono (Below.size (by repeat (first | (with_reducible exact Below.refl _ _) | (with_reducible apply Below.drew) | (with_reducible refine below_drewN ?_ _) | (refine Below.setCell ?_ (by simp <;> omega) _) | (refine Below.alloc ?_ (by simp <;> omega) _)) : Below w3.heap.size w3 _)))
        have sz4_r : w.heap.size < w4.heap.size := Nat.lt_of_lt_of_le sz3_r hst4.size
        have bx4_r_0 : w4.cell? ⟨w.heap.size, 0, none⟩ = some (.int .i64 r.fN) := (hst4.cell (p := ⟨w.heap.size, 0, none⟩) sz3_r).trans bx3_r_0
        have bx4_r_1 : w4.cell? ⟨w.heap.size, 1, none⟩ = some (.slice a0 r.fRows.length c0_0) := (hst4.cell (p := ⟨w.heap.size, 1, none⟩) sz3_r).trans bx3_r_1
        have sz4_z : w.heap.size + 1 < w4.heap.size := Nat.lt_of_lt_of_le sz3_z hst4.size
        have bx4_z_0 : w4.cell? ⟨w.heap.size + 1, 0, none⟩ = some (.int .i64 0) := (hst4.cell (p := ⟨w.heap.size + 1, 0, none⟩) sz3_z).trans bx3_z_0
        have fz4_z_0 : w4.frozen? ⟨w.heap.size + 1, 0, none⟩ = false := (hst4.frozen (p := ⟨w.heap.size + 1, 0, none⟩) sz3_z).trans fz3_z_0
        have bx4_z_1 : w4.cell? ⟨w.heap.size + 1, 1, none⟩ = some (.slice none 0 0) := (hst4.cell (p := ⟨w.heap.size + 1, 1, none⟩) sz3_z).trans bx3_z_1
        have fz4_z_1 : w4.frozen? ⟨w.heap.size + 1, 1, none⟩ = false := (hst4.frozen (p := ⟨w.heap.size + 1, 1, none⟩) sz3_z).trans fz3_z_1
        have sz4_x : w1.heap.size < w4.heap.size := Nat.lt_of_lt_of_le sz3_x hst4.size
        have bx4_x_0 : w4.cell? ⟨w1.heap.size, 0, none⟩ = some (.int .i64 r.fN) := (hst4.cell (p := ⟨w1.heap.size, 0, none⟩) sz3_x).trans bx3_x_0
        have bx4_x_1 : w4.cell? ⟨w1.heap.size, 1, none⟩ = some (.slice a1 r.fRows.length c1) := (hst4.cell (p := ⟨w1.heap.size, 1, none⟩) sz3_x).trans bx3_x_1
        have HG4 := Lib.hid ((hst4.block (w.heap.size + 1) sz3_z).trans HG3.out)
        have HO4 := Lib.hid (HO3.out.kept (Kept.of_below_all hst4))
        have HCP4 := Lib.hid (HCP3.out.below hst4)
        have HB4 := Lib.hid (HB3.out.trans (hst4.mono HB3.out.size))
        have hr4 : w3.heap.size ≤ w4.heap.size := hst4.size
        clear hb4 hst4 bx3_r_0 bx3_r_1 sz3_r bx3_z_0 bx3_z_1 sz3_z fz3_z_0 fz3_z_1 bx3_x_0 bx3_x_1 sz3_x
        obtain ⟨b, off, rfl, hFb, hbl, hcs, hzs⟩ := own_at HO4.out i hil
        have HOB := HO4
        have hFb1 : w.heap.size + 2 ≤ b := hFb.1
        have hFb2 : b < w1.heap.size := hFb.2
        have hrow := hcs i hil
        have hrz := hzs (off + i)
        clear hFb hcs hzs
        generalize hrw : r.fRows.getD i default = row at hrow fin
        have HRW := Lib.hid hrw
        have HFIN := Lib.hid (show addPair r i k = ⟨r.fN, r.fRows.set i (bits BinOp.or IntKind.i64 row q)⟩ from fin.out.trans (by unfold orB; rw [HQ.out]))
        clear hrw
        go_wp2_with fail
        go_region
        all_goals
          go_wp2
          refine bodyPost_ret (v := .agg #[.int .i64 r.fN, .slice (some ⟨b, off, none⟩) r.fRows.length c1]) (results_cell_row Try.results22 _ _ (w.heap.size + 1) 27 #[.int .i64 r.fN, .slice (some ⟨b, off, none⟩) r.fRows.length c1] (0, 0) _ rfl (by refine Eq.trans (blk_set (cs := #[.int .i64 r.fN, .slice none 0 0]) (t := 27) (fr := (0, 0)) ?_) rfl; refine Eq.trans (blk_set (cs := #[.int .i64 0, .slice none 0 0]) (t := 27) (fr := (0, 0)) ?_) rfl; repeat (first | (with_reducible exact HG4.out) | (refine blk_other (by dsimp only; omega) ?_))) Try.underlying27 rfl rfl) rfl ?_
          rw [HFIN.out]
          refine ⟨some ⟨b, off, none⟩, c1, by simp, ?_, ?_, ?_⟩
          · refine Own.sub (F := fun y => w.heap.size + 2 ≤ y ∧ y < w1.heap.size) (Own.kept (own_set HOB.out i hil (bits BinOp.or IntKind.i64 row q)) ?_) (fun y hy => ⟨Nat.le_trans (by omega) hy.1, Nat.lt_of_lt_of_le hy.2 (by first | (simp; done) | (simp; omega))⟩)
            repeat (first | (with_reducible exact Kept.refl) | (with_reducible apply Kept.drew) | (with_reducible apply Kept.drewN) | (refine Kept.put ?_ (by intro h; have h1 := h.1; dsimp only at h1; omega)))
          · repeat (first | (with_reducible exact HB4.out) | (with_reducible apply Below.drew) | (with_reducible refine below_drewN ?_ _) | (refine Below.setCell ?_ (by simp <;> omega) _) | (refine Below.alloc ?_ (by simp <;> omega) _))
          · exact RowCap.cast (n := r.fRows.length) (by first | rfl | simp) (by repeat (first | (with_reducible exact HCP4.out) | (with_reducible apply RowCap.drew) | (with_reducible refine RowCap.drewN ?_ _) | (with_reducible refine RowCap.setCell ?_ _ _ _) | (with_reducible refine RowCap.alloc ?_ _)))

theorem clone_intsC {lo hi c : Nat} {a : Option Addr} (l : List Int) (hl : l.length ≤ 1048576) (w : World) (hs : Sl lo hi w 1 l.length (rowsI l) a) :
    Calls Try.prog 49 #[.slice a l.length c] w (IntsOutC l w) := by
  cases a with
  | none =>
    have h0 : l = [] := by
      rcases Nat.eq_zero_or_pos l.length with h | h
      · exact List.length_eq_zero_iff.1 h
      · obtain ⟨b, off, hb, _⟩ := hs.at 0 h
        cases hb
    subst h0
    exact (Try.slices_Clone_int_nil 0 c w).mono fun e w' ⟨he, hw⟩ => ⟨none, 0, he, .nil _ _ _ _ _, by subst hw; exact Below.refl _ _, .inl ⟨rfl, rfl, rfl⟩⟩
  | some p =>
    rcases Nat.eq_zero_or_pos l.length with h | h
    · have h0 : l = [] := List.length_eq_zero_iff.1 h
      subst h0
      refine (Try.slices_Clone_int_zero p c w).mono fun e w' ⟨v', he, hown, _, hb⟩ => ?_
      obtain ⟨a', c', rfl, ho⟩ := own_of_row (l := []) hown
      exact ⟨a', c', he, ho, hb, RowCap.of_row hown rfl⟩
    · obtain ⟨b, off, hb, _⟩ := hs.at 0 h
      obtain rfl : p = ⟨b, off, none⟩ := Option.some.inj hb
      refine (Try.slices_Clone_int b off l.length c l w (Nat.le_refl _) (by omega) (cells_of_sl hs)).mono fun e w' ⟨v', he, hown, _, hb⟩ => ?_
      rw [List.take_length] at hown
      obtain ⟨a', c', rfl, ho⟩ := own_of_row hown
      exact ⟨a', c', he, ho, hb, RowCap.of_row hown rfl⟩

set_option maxHeartbeats 1600000 in
set_option maxRecDepth 100000 in
theorem impl_copyRelationC {lo hi c0 : Nat} {a0 : Option Addr} (r : DRelation) (hl : r.fRows.length ≤ 1048576) (w : World) (hhi : hi ≤ w.heap.size) (hs : Sl lo hi w 1 r.fRows.length (rowsI r.fRows) a0) :
    Calls Try.prog 37 #[.agg #[.int .i64 r.fN, .slice a0 r.fRows.length c0]] w (RelOutC r w) := by
  have HB := Lib.hid (((Below.refl w.heap.size w).alloc (Nat.le_refl _) (.cells #[.int .i64 r.fN, .slice a0 r.fRows.length c0] 27)).alloc (by simp) (.cells #[.int .i64 0, .slice none 0 0] 27))
  have HG := Lib.hid (show ((w.alloc (.cells #[.int .i64 r.fN, .slice a0 r.fRows.length c0] 27)).alloc (.cells #[.int .i64 0, .slice none 0 0] 27)).heap[w.heap.size + 1]? = some (.cells #[.int .i64 0, .slice none 0 0] 27) from blk_new (by simp))
  have HSZ := Lib.hid (show w.heap.size + 1 < ((w.alloc (.cells #[.int .i64 r.fN, .slice a0 r.fRows.length c0] 27)).alloc (.cells #[.int .i64 0, .slice none 0 0] 27)).heap.size by simp)
  have HZ2 := Lib.hid (show ((w.alloc (.cells #[.int .i64 r.fN, .slice a0 r.fRows.length c0] 27)).alloc (.cells #[.int .i64 0, .slice none 0 0] 27)).heap.size = w.heap.size + 2 by simp)
  have hS := hs.later HB.out hhi
  clear hs
  have HCL := Lib.hid (fun (w' : World) (hb : Below ((w.alloc (.cells #[.int .i64 r.fN, .slice a0 r.fRows.length c0] 27)).alloc (.cells #[.int .i64 0, .slice none 0 0] 27)).heap.size ((w.alloc (.cells #[.int .i64 r.fN, .slice a0 r.fRows.length c0] 27)).alloc (.cells #[.int .i64 0, .slice none 0 0] 27)) w') => clone_intsC (c := c0) r.fRows hl w' (hS.later hb (Nat.le_trans hhi HB.out.size)))
  clear hS
  have HC0 := Lib.hid (show ((w.alloc (.cells #[.int .i64 r.fN, .slice a0 r.fRows.length c0] 27)).alloc (.cells #[.int .i64 0, .slice none 0 0] 27)).cell? ⟨w.heap.size, 0, none⟩ = some (.int .i64 r.fN) by go_simp)
  have HC1 := Lib.hid (show ((w.alloc (.cells #[.int .i64 r.fN, .slice a0 r.fRows.length c0] 27)).alloc (.cells #[.int .i64 0, .slice none 0 0] 27)).cell? ⟨w.heap.size + 1, 0, none⟩ = some (.int .i64 0) by go_simp)
  have HC2 := Lib.hid (show ((w.alloc (.cells #[.int .i64 r.fN, .slice a0 r.fRows.length c0] 27)).alloc (.cells #[.int .i64 0, .slice none 0 0] 27)).cell? ⟨w.heap.size + 1, 1, none⟩ = some (.slice none 0 0) by go_simp)
  have HF1 := Lib.hid (show ((w.alloc (.cells #[.int .i64 r.fN, .slice a0 r.fRows.length c0] 27)).alloc (.cells #[.int .i64 0, .slice none 0 0] 27)).frozen? ⟨w.heap.size + 1, 0, none⟩ = false by go_simp)
  have HF2 := Lib.hid (show ((w.alloc (.cells #[.int .i64 r.fN, .slice a0 r.fRows.length c0] 27)).alloc (.cells #[.int .i64 0, .slice none 0 0] 27)).frozen? ⟨w.heap.size + 1, 1, none⟩ = false by go_simp)
  go_enter Try.func37, Try.ntmps37
  go_wp2_with fail
  go_region_with ((go_at_call 49; refine (HCL.out _ (by first | exact Below.refl _ _ | exact (Below.refl _ _).drew | exact below_drewN (Below.refl _ _) _)).mono ?_; rintro e w1 ⟨a1, c1, rfl, ho1, hb1, hcp1⟩; have hst : Below ((w.alloc (.cells #[.int .i64 r.fN, .slice a0 r.fRows.length c0] 27)).alloc (.cells #[.int .i64 0, .slice none 0 0] 27)).heap.size ((w.alloc (.cells #[.int .i64 r.fN, .slice a0 r.fRows.length c0] 27)).alloc (.cells #[.int .i64 0, .slice none 0 0] 27)) w1 := ⟨hb1.os, hb1.tape, hb1.output, hb1.size, hb1.block⟩; have x0 := (hst.cell (p := ⟨w.heap.size, 0, none⟩) (by show w.heap.size < _; have := HSZ.out; omega)).trans HC0.out; have x1 := (hst.cell (p := ⟨w.heap.size + 1, 0, none⟩) HSZ.out).trans HC1.out; have x2 := (hst.cell (p := ⟨w.heap.size + 1, 1, none⟩) HSZ.out).trans HC2.out; have z1 := (hst.frozen (p := ⟨w.heap.size + 1, 0, none⟩) HSZ.out).trans HF1.out; have z2 := (hst.frozen (p := ⟨w.heap.size + 1, 1, none⟩) HSZ.out).trans HF2.out; have HG1 := Lib.hid ((hst.block _ HSZ.out).trans HG.out); have HO := Lib.hid (ho1.sub (F' := fun y => w.heap.size + 2 ≤ y ∧ y < w1.heap.size) (fun y hy => ⟨Nat.le_trans (Nat.le_of_eq HZ2.out.symm) hy.1, hy.2⟩)); have HB1 := Lib.hid (HB.out.trans (hst.mono HB.out.size)); have HRC := Lib.hid (hcp1.mono (D := w.heap.size) (by first | omega | (simp; done) | (simp; omega))); clear hb1 ho1 hcp1 hst))
  all_goals
    go_wp2
    refine bodyPost_ret (v := .agg #[.int .i64 r.fN, .slice a1 r.fRows.length c1]) (results_cell_row Try.results37 _ _ (w.heap.size + 1) 27 #[.int .i64 r.fN, .slice a1 r.fRows.length c1] (0, 0) _ rfl (by refine Eq.trans (blk_set (cs := #[.int .i64 r.fN, .slice none 0 0]) (t := 27) (fr := (0, 0)) ?_) rfl; refine Eq.trans (blk_set (cs := #[.int .i64 0, .slice none 0 0]) (t := 27) (fr := (0, 0)) ?_) rfl; exact HG1.out) Try.underlying27 rfl rfl) rfl ⟨a1, c1, rfl, ?_, ?_, ?_⟩
    · refine Own.sub (F := fun y => w.heap.size + 2 ≤ y ∧ y < w1.heap.size) (HO.out.kept ?_) (fun y hy => ⟨Nat.le_trans (by omega) hy.1, Nat.lt_of_lt_of_le hy.2 (by simp)⟩)
      repeat (first | (with_reducible exact Kept.refl) | (refine Kept.put ?_ (by intro h; have h1 := h.1; dsimp only at h1; omega)))
    · repeat (first | (with_reducible exact HB1.out) | (with_reducible apply Below.drew) | (with_reducible refine below_drewN ?_ _) | (refine Below.setCell ?_ (by simp <;> omega) _))
    · exact RowCap.cast (n := r.fRows.length) (by first | rfl | simp) (by repeat (first | (with_reducible exact HRC.out) | (with_reducible apply RowCap.drew) | (with_reducible refine RowCap.drewN ?_ _) | (with_reducible refine RowCap.setCell ?_ _ _ _) | (with_reducible refine RowCap.alloc ?_ _)))

set_option maxHeartbeats 1600000 in
set_option maxRecDepth 100000 in
theorem impl_CloseRelationC {lo hi c0_0 : Nat} {a0 : Option Addr} (r : DRelation) (_ : r.ok) (hsz : r.sz ≤ 1048576) (w : World) (hhi : hi ≤ w.heap.size) (hs : Sl lo hi w 1 r.fRows.length (rowsI r.fRows) a0) :
    Calls Try.prog 13 #[.agg #[.int .i64 r.fN, .slice a0 r.fRows.length c0_0]] w (RelOutC (closeRel r) w) := by
  have HL_r := Lib.hid (rel_len hsz)
  have HS_r := Lib.hid hs
  have HH := Lib.hid hhi
  clear hs hhi hsz
  have HB0 := Lib.hid (((Below.refl w.heap.size w).alloc (Nat.le_refl _) (.cells #[.int .i64 r.fN, .slice a0 r.fRows.length c0_0] 27)).alloc (by simp <;> omega) (.cells #[.int .i64 0, .slice none 0 0] 27))
  have HG0 := Lib.hid (show ((w.alloc (.cells #[.int .i64 r.fN, .slice a0 r.fRows.length c0_0] 27)).alloc (.cells #[.int .i64 0, .slice none 0 0] 27)).heap[w.heap.size + 1]? = some (.cells #[.int .i64 0, .slice none 0 0] 27) from blk_new (by simp))
  have HSZ0 := Lib.hid (show ((w.alloc (.cells #[.int .i64 r.fN, .slice a0 r.fRows.length c0_0] 27)).alloc (.cells #[.int .i64 0, .slice none 0 0] 27)).heap.size = w.heap.size + 2 by simp)
  cases hv : relB r with
  | false =>
    have HV := Lib.hid hv
    have fin := Lib.hid (closeRel_no hv)
    clear hv
    go_enter Try.func13, Try.ntmps13
    go_wp2_with fail
    refine (impl_copyRelationC (c0 := c0_0) r HL_r.out _ (Nat.le_trans HH.out HB0.out.size) (HS_r.out.later HB0.out HH.out)).mono ?_
    rintro e w1 ⟨a1, c1, rfl, ho1, hb1, hcp1⟩
    have hst1 : Below (w.heap.size + 2) ((w.alloc (.cells #[.int .i64 r.fN, .slice a0 r.fRows.length c0_0] 27)).alloc (.cells #[.int .i64 0, .slice none 0 0] 27)) w1 := hb1.mono (Nat.le_of_eq HSZ0.out.symm)
    have sz1_r : w.heap.size < w1.heap.size := Nat.lt_of_lt_of_le (by show w.heap.size < w.heap.size + 2; omega) (Nat.le_trans (Nat.le_of_eq HSZ0.out.symm) hst1.size)
    have bx1_r_0 : w1.cell? ⟨w.heap.size, 0, none⟩ = some (.int .i64 r.fN) := (hst1.cell (p := ⟨w.heap.size, 0, none⟩) (by show w.heap.size < w.heap.size + 2; omega)).trans (by go_simp)
    have bx1_r_1 : w1.cell? ⟨w.heap.size, 1, none⟩ = some (.slice a0 r.fRows.length c0_0) := (hst1.cell (p := ⟨w.heap.size, 1, none⟩) (by show w.heap.size < w.heap.size + 2; omega)).trans (by go_simp)
    have sz1_z : w.heap.size + 1 < w1.heap.size := Nat.lt_of_lt_of_le (by show w.heap.size + 1 < w.heap.size + 2; omega) (Nat.le_trans (Nat.le_of_eq HSZ0.out.symm) hst1.size)
    have bx1_z_0 : w1.cell? ⟨w.heap.size + 1, 0, none⟩ = some (.int .i64 0) := (hst1.cell (p := ⟨w.heap.size + 1, 0, none⟩) (by show w.heap.size + 1 < w.heap.size + 2; omega)).trans (by go_simp)
    have fz1_z_0 : w1.frozen? ⟨w.heap.size + 1, 0, none⟩ = false := (hst1.frozen (p := ⟨w.heap.size + 1, 0, none⟩) (by show w.heap.size + 1 < w.heap.size + 2; omega)).trans (by go_simp)
    have bx1_z_1 : w1.cell? ⟨w.heap.size + 1, 1, none⟩ = some (.slice none 0 0) := (hst1.cell (p := ⟨w.heap.size + 1, 1, none⟩) (by show w.heap.size + 1 < w.heap.size + 2; omega)).trans (by go_simp)
    have fz1_z_1 : w1.frozen? ⟨w.heap.size + 1, 1, none⟩ = false := (hst1.frozen (p := ⟨w.heap.size + 1, 1, none⟩) (by show w.heap.size + 1 < w.heap.size + 2; omega)).trans (by go_simp)
    have HG1 := Lib.hid ((hst1.block (w.heap.size + 1) (by omega)).trans HG0.out)
    have HO1 := Lib.hid (ho1.sub (F' := fun y => w.heap.size + 2 ≤ y ∧ y < w1.heap.size) (fun y hy => ⟨Nat.le_trans (Nat.le_of_eq HSZ0.out.symm) hy.1, hy.2⟩))
    have HCP1 := Lib.hid (hcp1.mono (D := w.heap.size) (by first | exact HB0.out.size | omega | (simp; done) | (simp; omega)))
    clear ho1 hcp1
    have HB1 := Lib.hid (HB0.out.trans (hb1.mono HB0.out.size))
    clear hb1 hst1
    go_wp2_with fail
    refine (impl_relValid (c0 := c0_0) r HL_r.out false HV.out _ (Nat.le_trans HH.out (Nat.le_trans HB1.out.size (Below.size (by repeat (first | (with_reducible exact Below.refl _ _) | (with_reducible apply Below.drew) | (with_reducible refine below_drewN ?_ _) | (refine Below.setCell ?_ (by simp <;> omega) _) | (refine Below.alloc ?_ (by simp <;> omega) _)) : Below w1.heap.size w1 _)))) (HS_r.out.later (HB1.out.trans ((by repeat (first | (with_reducible exact Below.refl _ _) | (with_reducible apply Below.drew) | (with_reducible refine below_drewN ?_ _) | (refine Below.setCell ?_ (by simp <;> omega) _) | (refine Below.alloc ?_ (by simp <;> omega) _)) : Below w1.heap.size w1 _).mono HB1.out.size)) HH.out)).mono ?_
    rintro e w2 ⟨rfl, hb2⟩
    have hst2 : Below w1.heap.size w1 w2 := Below.trans (by repeat (first | (with_reducible exact Below.refl _ _) | (with_reducible apply Below.drew) | (with_reducible refine below_drewN ?_ _) | (refine Below.setCell ?_ (by simp <;> omega) _) | (refine Below.alloc ?_ (by simp <;> omega) _)) : Below w1.heap.size w1 _) (hb2.mono (Below.size (by repeat (first | (with_reducible exact Below.refl _ _) | (with_reducible apply Below.drew) | (with_reducible refine below_drewN ?_ _) | (refine Below.setCell ?_ (by simp <;> omega) _) | (refine Below.alloc ?_ (by simp <;> omega) _)) : Below w1.heap.size w1 _)))
    have sz2_r : w.heap.size < w2.heap.size := Nat.lt_of_lt_of_le sz1_r hst2.size
    have bx2_r_0 : w2.cell? ⟨w.heap.size, 0, none⟩ = some (.int .i64 r.fN) := (hst2.cell (p := ⟨w.heap.size, 0, none⟩) sz1_r).trans bx1_r_0
    have bx2_r_1 : w2.cell? ⟨w.heap.size, 1, none⟩ = some (.slice a0 r.fRows.length c0_0) := (hst2.cell (p := ⟨w.heap.size, 1, none⟩) sz1_r).trans bx1_r_1
    have sz2_z : w.heap.size + 1 < w2.heap.size := Nat.lt_of_lt_of_le sz1_z hst2.size
    have bx2_z_0 : w2.cell? ⟨w.heap.size + 1, 0, none⟩ = some (.int .i64 0) := (hst2.cell (p := ⟨w.heap.size + 1, 0, none⟩) sz1_z).trans bx1_z_0
    have fz2_z_0 : w2.frozen? ⟨w.heap.size + 1, 0, none⟩ = false := (hst2.frozen (p := ⟨w.heap.size + 1, 0, none⟩) sz1_z).trans fz1_z_0
    have bx2_z_1 : w2.cell? ⟨w.heap.size + 1, 1, none⟩ = some (.slice none 0 0) := (hst2.cell (p := ⟨w.heap.size + 1, 1, none⟩) sz1_z).trans bx1_z_1
    have fz2_z_1 : w2.frozen? ⟨w.heap.size + 1, 1, none⟩ = false := (hst2.frozen (p := ⟨w.heap.size + 1, 1, none⟩) sz1_z).trans fz1_z_1
    have sz2_x : w1.heap.size < w2.heap.size := Nat.lt_of_lt_of_le (by first | omega | (simp; done) | (simp; omega) | (simp [World.setCell]; omega)) hb2.size
    have bx2_x_0 : w2.cell? ⟨w1.heap.size, 0, none⟩ = some (.int .i64 r.fN) := (hb2.cell (p := ⟨w1.heap.size, 0, none⟩) (by first | omega | (simp; done) | (simp; omega) | (simp [World.setCell]; omega))).trans (by go_simp)
    have bx2_x_1 : w2.cell? ⟨w1.heap.size, 1, none⟩ = some (.slice a1 r.fRows.length c1) := (hb2.cell (p := ⟨w1.heap.size, 1, none⟩) (by first | omega | (simp; done) | (simp; omega) | (simp [World.setCell]; omega))).trans (by go_simp)
    have HG2 := Lib.hid ((hst2.block (w.heap.size + 1) sz1_z).trans HG1.out)
    have HO2 := Lib.hid (HO1.out.kept (Kept.of_below_all hst2))
    have HCP2 := Lib.hid (HCP1.out.below hst2)
    have HB2 := Lib.hid (HB1.out.trans (hst2.mono HB1.out.size))
    have hr2 : w1.heap.size ≤ w2.heap.size := hst2.size
    clear hb2 hst2 bx1_r_0 bx1_r_1 sz1_r bx1_z_0 bx1_z_1 sz1_z fz1_z_0 fz1_z_1
    go_wp2
    refine bodyPost_ret (v := .agg #[.int .i64 r.fN, .slice a1 r.fRows.length c1]) (results_cell_row Try.results13 _ _ (w.heap.size + 1) 27 #[.int .i64 r.fN, .slice a1 r.fRows.length c1] (0, 0) _ rfl (by refine Eq.trans (blk_set (cs := #[.int .i64 r.fN, .slice none 0 0]) (t := 27) (fr := (0, 0)) ?_) rfl; refine Eq.trans (blk_set (cs := #[.int .i64 0, .slice none 0 0]) (t := 27) (fr := (0, 0)) ?_) rfl; repeat (first | (with_reducible exact HG2.out) | (refine blk_other (by dsimp only; omega) ?_))) Try.underlying27 rfl rfl) rfl ?_
    rw [fin.out]
    refine ⟨a1, c1, rfl, ?_, ?_, ?_⟩
    · refine Own.sub (F := fun y => w.heap.size + 2 ≤ y ∧ y < w1.heap.size) (Own.kept (HO2.out) ?_) (fun y hy => ⟨Nat.le_trans (by omega) hy.1, Nat.lt_of_lt_of_le hy.2 (by first | (simp; done) | (simp; omega))⟩)
      repeat (first | (with_reducible exact Kept.refl) | (with_reducible apply Kept.drew) | (with_reducible apply Kept.drewN) | (refine Kept.put ?_ (by intro h; have h1 := h.1; dsimp only at h1; omega)))
    · repeat (first | (with_reducible exact HB2.out) | (with_reducible apply Below.drew) | (with_reducible refine below_drewN ?_ _) | (refine Below.setCell ?_ (by simp <;> omega) _) | (refine Below.alloc ?_ (by simp <;> omega) _))
    · exact RowCap.cast (n := r.fRows.length) (by first | rfl | simp) (by repeat (first | (with_reducible exact HCP2.out) | (with_reducible apply RowCap.drew) | (with_reducible refine RowCap.drewN ?_ _) | (with_reducible refine RowCap.setCell ?_ _ _ _) | (with_reducible refine RowCap.alloc ?_ _)))
  | true =>
    have HV := Lib.hid hv
    have fin := Lib.hid (closeRel_yes hv)
    obtain ⟨n, hn16, hrN, hrl, hrows⟩ := relB_parts hv
    have HRN := Lib.hid hrN
    have HRL := Lib.hid hrl
    have HRW := Lib.hid hrows
    clear hv hrN hrl hrows
    have hN1 : 0 ≤ r.fN ∧ r.fN ≤ 16 := by have h := HRN.out; omega
    go_enter Try.func13, Try.ntmps13
    go_wp2_with fail
    refine (impl_copyRelationC (c0 := c0_0) r HL_r.out _ (Nat.le_trans HH.out HB0.out.size) (HS_r.out.later HB0.out HH.out)).mono ?_
    rintro e w1 ⟨a1, c1, rfl, ho1, hb1, hcp1⟩
    have hst1 : Below (w.heap.size + 2) ((w.alloc (.cells #[.int .i64 r.fN, .slice a0 r.fRows.length c0_0] 27)).alloc (.cells #[.int .i64 0, .slice none 0 0] 27)) w1 := hb1.mono (Nat.le_of_eq HSZ0.out.symm)
    have sz1_r : w.heap.size < w1.heap.size := Nat.lt_of_lt_of_le (by show w.heap.size < w.heap.size + 2; omega) (Nat.le_trans (Nat.le_of_eq HSZ0.out.symm) hst1.size)
    have bx1_r_0 : w1.cell? ⟨w.heap.size, 0, none⟩ = some (.int .i64 r.fN) := (hst1.cell (p := ⟨w.heap.size, 0, none⟩) (by show w.heap.size < w.heap.size + 2; omega)).trans (by go_simp)
    have bx1_r_1 : w1.cell? ⟨w.heap.size, 1, none⟩ = some (.slice a0 r.fRows.length c0_0) := (hst1.cell (p := ⟨w.heap.size, 1, none⟩) (by show w.heap.size < w.heap.size + 2; omega)).trans (by go_simp)
    have sz1_z : w.heap.size + 1 < w1.heap.size := Nat.lt_of_lt_of_le (by show w.heap.size + 1 < w.heap.size + 2; omega) (Nat.le_trans (Nat.le_of_eq HSZ0.out.symm) hst1.size)
    have bx1_z_0 : w1.cell? ⟨w.heap.size + 1, 0, none⟩ = some (.int .i64 0) := (hst1.cell (p := ⟨w.heap.size + 1, 0, none⟩) (by show w.heap.size + 1 < w.heap.size + 2; omega)).trans (by go_simp)
    have fz1_z_0 : w1.frozen? ⟨w.heap.size + 1, 0, none⟩ = false := (hst1.frozen (p := ⟨w.heap.size + 1, 0, none⟩) (by show w.heap.size + 1 < w.heap.size + 2; omega)).trans (by go_simp)
    have bx1_z_1 : w1.cell? ⟨w.heap.size + 1, 1, none⟩ = some (.slice none 0 0) := (hst1.cell (p := ⟨w.heap.size + 1, 1, none⟩) (by show w.heap.size + 1 < w.heap.size + 2; omega)).trans (by go_simp)
    have fz1_z_1 : w1.frozen? ⟨w.heap.size + 1, 1, none⟩ = false := (hst1.frozen (p := ⟨w.heap.size + 1, 1, none⟩) (by show w.heap.size + 1 < w.heap.size + 2; omega)).trans (by go_simp)
    have HG1 := Lib.hid ((hst1.block (w.heap.size + 1) (by omega)).trans HG0.out)
    have HO1 := Lib.hid (ho1.sub (F' := fun y => w.heap.size + 2 ≤ y ∧ y < w1.heap.size) (fun y hy => ⟨Nat.le_trans (Nat.le_of_eq HSZ0.out.symm) hy.1, hy.2⟩))
    have HCP1 := Lib.hid (hcp1.mono (D := w.heap.size) (by first | exact HB0.out.size | omega | (simp; done) | (simp; omega)))
    clear ho1 hcp1
    have HB1 := Lib.hid (HB0.out.trans (hb1.mono HB0.out.size))
    clear hb1 hst1
    go_wp2_with fail
    refine (impl_relValid (c0 := c0_0) r HL_r.out true HV.out _ (Nat.le_trans HH.out (Nat.le_trans HB1.out.size (Below.size (by repeat (first | (with_reducible exact Below.refl _ _) | (with_reducible apply Below.drew) | (with_reducible refine below_drewN ?_ _) | (refine Below.setCell ?_ (by simp <;> omega) _) | (refine Below.alloc ?_ (by simp <;> omega) _)) : Below w1.heap.size w1 _)))) (HS_r.out.later (HB1.out.trans ((by repeat (first | (with_reducible exact Below.refl _ _) | (with_reducible apply Below.drew) | (with_reducible refine below_drewN ?_ _) | (refine Below.setCell ?_ (by simp <;> omega) _) | (refine Below.alloc ?_ (by simp <;> omega) _)) : Below w1.heap.size w1 _).mono HB1.out.size)) HH.out)).mono ?_
    rintro e w2 ⟨rfl, hb2⟩
    have hst2 : Below w1.heap.size w1 w2 := Below.trans (by repeat (first | (with_reducible exact Below.refl _ _) | (with_reducible apply Below.drew) | (with_reducible refine below_drewN ?_ _) | (refine Below.setCell ?_ (by simp <;> omega) _) | (refine Below.alloc ?_ (by simp <;> omega) _)) : Below w1.heap.size w1 _) (hb2.mono (Below.size (by repeat (first | (with_reducible exact Below.refl _ _) | (with_reducible apply Below.drew) | (with_reducible refine below_drewN ?_ _) | (refine Below.setCell ?_ (by simp <;> omega) _) | (refine Below.alloc ?_ (by simp <;> omega) _)) : Below w1.heap.size w1 _)))
    have sz2_r : w.heap.size < w2.heap.size := Nat.lt_of_lt_of_le sz1_r hst2.size
    have bx2_r_0 : w2.cell? ⟨w.heap.size, 0, none⟩ = some (.int .i64 r.fN) := (hst2.cell (p := ⟨w.heap.size, 0, none⟩) sz1_r).trans bx1_r_0
    have bx2_r_1 : w2.cell? ⟨w.heap.size, 1, none⟩ = some (.slice a0 r.fRows.length c0_0) := (hst2.cell (p := ⟨w.heap.size, 1, none⟩) sz1_r).trans bx1_r_1
    have sz2_z : w.heap.size + 1 < w2.heap.size := Nat.lt_of_lt_of_le sz1_z hst2.size
    have bx2_z_0 : w2.cell? ⟨w.heap.size + 1, 0, none⟩ = some (.int .i64 0) := (hst2.cell (p := ⟨w.heap.size + 1, 0, none⟩) sz1_z).trans bx1_z_0
    have fz2_z_0 : w2.frozen? ⟨w.heap.size + 1, 0, none⟩ = false := (hst2.frozen (p := ⟨w.heap.size + 1, 0, none⟩) sz1_z).trans fz1_z_0
    have bx2_z_1 : w2.cell? ⟨w.heap.size + 1, 1, none⟩ = some (.slice none 0 0) := (hst2.cell (p := ⟨w.heap.size + 1, 1, none⟩) sz1_z).trans bx1_z_1
    have fz2_z_1 : w2.frozen? ⟨w.heap.size + 1, 1, none⟩ = false := (hst2.frozen (p := ⟨w.heap.size + 1, 1, none⟩) sz1_z).trans fz1_z_1
    have sz2_x : w1.heap.size < w2.heap.size := Nat.lt_of_lt_of_le (by first | omega | (simp; done) | (simp; omega) | (simp [World.setCell]; omega)) hb2.size
    have bx2_x_0 : w2.cell? ⟨w1.heap.size, 0, none⟩ = some (.int .i64 r.fN) := (hb2.cell (p := ⟨w1.heap.size, 0, none⟩) (by first | omega | (simp; done) | (simp; omega) | (simp [World.setCell]; omega))).trans (by go_simp)
    have bx2_x_1 : w2.cell? ⟨w1.heap.size, 1, none⟩ = some (.slice a1 r.fRows.length c1) := (hb2.cell (p := ⟨w1.heap.size, 1, none⟩) (by first | omega | (simp; done) | (simp; omega) | (simp [World.setCell]; omega))).trans (by go_simp)
    have HG2 := Lib.hid ((hst2.block (w.heap.size + 1) sz1_z).trans HG1.out)
    have HO2 := Lib.hid (HO1.out.kept (Kept.of_below_all hst2))
    have HCP2 := Lib.hid (HCP1.out.below hst2)
    have HB2 := Lib.hid (HB1.out.trans (hst2.mono HB1.out.size))
    have hr2 : w1.heap.size ≤ w2.heap.size := hst2.size
    clear hb2 hst2 bx1_r_0 bx1_r_1 sz1_r bx1_z_0 bx1_z_1 sz1_z fz1_z_0 fz1_z_1
    have HO := Lib.hid (show Own w2 (fun y => w.heap.size + 2 ≤ y ∧ y < w1.heap.size) (.sl 1 r.fRows.length (fun j => ictI (outF (fun j => r.fRows.getD j default) r.fRows.length 0 j))) (.slice a1 r.fRows.length c1) from HO2.out)
    have HG0F := Lib.hid (show ∀ j, j < n → 0 ≤ outF (fun j => r.fRows.getD j default) r.fRows.length 0 j ∧ outF (fun j => r.fRows.getD j default) r.fRows.length 0 j < 2 ^ n from HRW.out)
    go_wp2
    go_loopw [14] (fun i wr => ∃ k : Nat, k ≤ n ∧ i = .int .i64 (k : Int) ∧ Own wr (fun y => w.heap.size + 2 ≤ y ∧ y < w1.heap.size) (.sl 1 r.fRows.length (fun j => ictI (outF (fun j => r.fRows.getD j default) r.fRows.length k j))) (.slice a1 r.fRows.length c1) ∧ (∀ j, j < n → 0 ≤ outF (fun j => r.fRows.getD j default) r.fRows.length k j ∧ outF (fun j => r.fRows.getD j default) r.fRows.length k j < 2 ^ n) ∧ WritesF (fun y => w.heap.size + 2 ≤ y ∧ y < w1.heap.size) w2 wr ∧ RowCap w.heap.size wr a1 r.fRows.length c1) (fun i _ => n - (intOf i).toNat)
    case atStart => exact ⟨0, Nat.zero_le _, rfl, HO.out, HG0F.out, WritesF.refl _ _, HCP2.out⟩
    case round =>
      obtain ⟨k, hk, rfl, hown, hin, hwr, hcp⟩ := hrel
      obtain ⟨wo, rfl⟩ : ∃ wo : World, wo = wr := ⟨_, rfl⟩
      have qwo_r : wo.cell? ⟨w.heap.size, 0, none⟩ = some (.int .i64 r.fN) := (hwr.cell (p := ⟨w.heap.size, 0, none⟩) sz2_r (by intro h; have h1 := h.1; have h2 := h.2; dsimp only at h1 h2; omega)).trans bx2_r_0
      have qwo_x0 : wo.cell? ⟨w1.heap.size, 0, none⟩ = some (.int .i64 r.fN) := (hwr.cell (p := ⟨w1.heap.size, 0, none⟩) sz2_x (by intro h; have h1 := h.1; have h2 := h.2; dsimp only at h1 h2; omega)).trans bx2_x_0
      have qwo_x1 : wo.cell? ⟨w1.heap.size, 1, none⟩ = some (.slice a1 r.fRows.length c1) := (hwr.cell (p := ⟨w1.heap.size, 1, none⟩) sz2_x (by intro h; have h1 := h.1; have h2 := h.2; dsimp only at h1 h2; omega)).trans bx2_x_1
      have qwo_z0 : wo.cell? ⟨w.heap.size + 1, 0, none⟩ = some (.int .i64 0) := (hwr.cell (p := ⟨w.heap.size + 1, 0, none⟩) sz2_z (by intro h; have h1 := h.1; have h2 := h.2; dsimp only at h1 h2; omega)).trans bx2_z_0
      have qwo_z1 : wo.cell? ⟨w.heap.size + 1, 1, none⟩ = some (.slice none 0 0) := (hwr.cell (p := ⟨w.heap.size + 1, 1, none⟩) sz2_z (by intro h; have h1 := h.1; have h2 := h.2; dsimp only at h1 h2; omega)).trans bx2_z_1
      have qwo_f0 : wo.frozen? ⟨w.heap.size + 1, 0, none⟩ = false := (hwr.frozen (p := ⟨w.heap.size + 1, 0, none⟩) sz2_z (by intro h; have h1 := h.1; dsimp only at h1; omega)).trans fz2_z_0
      have qwo_f1 : wo.frozen? ⟨w.heap.size + 1, 1, none⟩ = false := (hwr.frozen (p := ⟨w.heap.size + 1, 1, none⟩) sz2_z (by intro h; have h1 := h.1; dsimp only at h1; omega)).trans fz2_z_1
      have HWO := Lib.hid hwr
      have HCO := Lib.hid hcp
      clear hcp
      have HOO := Lib.hid hown
      have HIN := Lib.hid hin
      have HGO := Lib.hid ((hwr.block (w.heap.size + 1) sz2_z (by intro h; have h1 := h.1; omega)).trans HG2.out)
      have HBO := Lib.hid (HB2.out.trans (hwr.below (fun y hy => by have h1 := hy.1; omega) HB2.out.size))
      have hszo : w2.heap.size ≤ wo.heap.size := hwr.size
      clear hown hwr hin
      by_cases hlt : k < n
      · have hltN : (k : Int) < r.fN := by have h := HRN.out; omega
        go_wp2
        go_loopw [19] (fun i wr => ∃ t : Nat, t ≤ n ∧ i = .int .i64 (t : Int) ∧ Own wr (fun y => w.heap.size + 2 ≤ y ∧ y < w1.heap.size) (.sl 1 r.fRows.length (fun j => ictI (inF (outF (fun j => r.fRows.getD j default) r.fRows.length k) k t j))) (.slice a1 r.fRows.length c1) ∧ (∀ j, j < n → 0 ≤ inF (outF (fun j => r.fRows.getD j default) r.fRows.length k) k t j ∧ inF (outF (fun j => r.fRows.getD j default) r.fRows.length k) k t j < 2 ^ n) ∧ WritesF (fun y => w.heap.size + 2 ≤ y ∧ y < w1.heap.size) w2 wr ∧ RowCap w.heap.size wr a1 r.fRows.length c1) (fun i _ => n - (intOf i).toNat)
        case atStart => exact ⟨0, Nat.zero_le _, rfl, HOO.out, HIN.out, HWO.out, HCO.out⟩
        case round =>
          obtain ⟨t, ht, rfl, hown, hin, hwr, hcp⟩ := hrel
          clear qwo_r qwo_x0 qwo_x1 qwo_z0 qwo_z1 qwo_f0 qwo_f1 hszo
          have qwr_r : wr.cell? ⟨w.heap.size, 0, none⟩ = some (.int .i64 r.fN) := (hwr.cell (p := ⟨w.heap.size, 0, none⟩) sz2_r (by intro h; have h1 := h.1; have h2 := h.2; dsimp only at h1 h2; omega)).trans bx2_r_0
          have qwr_x0 : wr.cell? ⟨w1.heap.size, 0, none⟩ = some (.int .i64 r.fN) := (hwr.cell (p := ⟨w1.heap.size, 0, none⟩) sz2_x (by intro h; have h1 := h.1; have h2 := h.2; dsimp only at h1 h2; omega)).trans bx2_x_0
          have qwr_x1 : wr.cell? ⟨w1.heap.size, 1, none⟩ = some (.slice a1 r.fRows.length c1) := (hwr.cell (p := ⟨w1.heap.size, 1, none⟩) sz2_x (by intro h; have h1 := h.1; have h2 := h.2; dsimp only at h1 h2; omega)).trans bx2_x_1
          have qwr_z0 : wr.cell? ⟨w.heap.size + 1, 0, none⟩ = some (.int .i64 0) := (hwr.cell (p := ⟨w.heap.size + 1, 0, none⟩) sz2_z (by intro h; have h1 := h.1; have h2 := h.2; dsimp only at h1 h2; omega)).trans bx2_z_0
          have qwr_z1 : wr.cell? ⟨w.heap.size + 1, 1, none⟩ = some (.slice none 0 0) := (hwr.cell (p := ⟨w.heap.size + 1, 1, none⟩) sz2_z (by intro h; have h1 := h.1; have h2 := h.2; dsimp only at h1 h2; omega)).trans bx2_z_1
          have qwr_f0 : wr.frozen? ⟨w.heap.size + 1, 0, none⟩ = false := (hwr.frozen (p := ⟨w.heap.size + 1, 0, none⟩) sz2_z (by intro h; have h1 := h.1; dsimp only at h1; omega)).trans fz2_z_0
          have qwr_f1 : wr.frozen? ⟨w.heap.size + 1, 1, none⟩ = false := (hwr.frozen (p := ⟨w.heap.size + 1, 1, none⟩) sz2_z (by intro h; have h1 := h.1; dsimp only at h1; omega)).trans fz2_z_1
          have HWR := Lib.hid hwr
          have HCR := Lib.hid hcp
          clear hcp
          have HOR := Lib.hid hown
          have HINR := Lib.hid hin
          have hszr : w2.heap.size ≤ wr.heap.size := hwr.size
          clear hown hwr hin
          by_cases hltt : t < n
          · have htN : (t : Int) < r.fN := by have h := HRN.out; omega
            have htl : t < r.fRows.length := by have h := HRL.out; omega
            have hkl : k < r.fRows.length := by have h := HRL.out; omega
            obtain ⟨bb, off, rfl, hFb, hbl, hcs, hzs⟩ := ownf_at HOR.out (by omega)
            have hFb1 : w.heap.size + 2 ≤ bb := hFb.1
            have hFb2 : bb < w1.heap.size := hFb.2
            have hrow := hcs t htl
            have hrowk := hcs k hkl
            have hrz := hzs (off + t)
            have hi1 := HINR.out t hltt
            have hi2 := HINR.out k hlt
            have hp := pow_in hn16
            have HNEXT := Lib.hid (stF_in hn16 hlt hltt HINR.out)
            clear hFb hcs hzs
            cases hbit : bitB (inF (outF (fun j => r.fRows.getD j default) r.fRows.length k) k t t) k with
            | true =>
              have HY := Lib.hid (stF_yes hbit)
              generalize hg : inF (outF (fun j => r.fRows.getD j default) r.fRows.length k) k t = g at *
              have HGX := Lib.hid hg
              unfold bitB at hbit
              have hrt : 0 ≤ g t ∧ g t ≤ 65535 := by omega
              clear hg hi1 hi2 hp
              generalize hrt1 : g t = row at *
              generalize hrk1 : g k = rowk at *
              have HRT := Lib.hid hrt1
              have HRK := Lib.hid hrk1
              clear hrt1 hrk1
              go_wp2_with fail
              go_region
              all_goals
                go_wp2
                go_roundw
                case rel =>
                  have e9 : inF (outF (fun j => r.fRows.getD j default) r.fRows.length k) k (t + 1) = stF g k t := by show stF (inF (outF (fun j => r.fRows.getD j default) r.fRows.length k) k t) k t = _; rw [HGX.out]
                  refine ⟨t + 1, by omega, by go_num, ?_, ?_, ?_, ?_⟩
                  · rw [e9]
                    refine Own.kept (ownf_set HOR.out t htl (bits BinOp.or IntKind.i64 row rowk) (g' := stF g k t) (by rw [HY.out]; rfl) (fun j _ hj => (stF_other hj).symm)) ?_
                    repeat (first | (with_reducible exact Kept.refl) | (with_reducible apply Kept.drew) | (with_reducible apply Kept.drewN))
                  · rw [e9]; exact HNEXT.out
                  · repeat (first | (with_reducible exact HWR.out) | (with_reducible apply WritesF.drew) | (with_reducible refine WritesF.drewN ?_ _) | (refine WritesF.setCell ?_ (by exact ⟨hFb1, hFb2⟩)))
                  · repeat (first | (with_reducible exact HCR.out) | (with_reducible apply RowCap.drew) | (with_reducible refine RowCap.drewN ?_ _) | (with_reducible refine RowCap.setCell ?_ _ _ _))
                case measure => simp [intOf]; omega
            | false =>
              have HY := Lib.hid (fun j => stF_no (j := j) hbit)
              generalize hg : inF (outF (fun j => r.fRows.getD j default) r.fRows.length k) k t = g at *
              have HGX := Lib.hid hg
              unfold bitB at hbit
              have hrt : 0 ≤ g t ∧ g t ≤ 65535 := by omega
              clear hg hi1 hi2 hp hrowk
              generalize hrt1 : g t = row at hrow hrt hbit
              clear hrt1
              go_wp2
              go_roundw
              case rel =>
                have e9 : inF (outF (fun j => r.fRows.getD j default) r.fRows.length k) k (t + 1) = stF g k t := by show stF (inF (outF (fun j => r.fRows.getD j default) r.fRows.length k) k t) k t = _; rw [HGX.out]
                refine ⟨t + 1, by omega, by go_num, ?_, ?_, HWR.out, HCR.out⟩
                · rw [e9]; exact HOR.out.congr (fun j _ q _ => by show ictI (g j) q = ictI (stF g k t j) q; rw [HY.out j])
                · rw [e9]; exact HNEXT.out
              case measure => simp [intOf]; omega
          · obtain rfl : t = n := by omega
            have hgeN : ¬ (t : Int) < r.fN := by have h := HRN.out; omega
            have HEQ := Lib.hid (show inF (outF (fun j => r.fRows.getD j default) r.fRows.length k) k t = outF (fun j => r.fRows.getD j default) r.fRows.length (k + 1) from by show _ = inF (outF (fun j => r.fRows.getD j default) r.fRows.length k) k r.fRows.length; rw [HRL.out])
            go_wp2
            go_roundw
            case rel => exact ⟨k + 1, by omega, by go_num, by rw [← HEQ.out]; exact HOR.out, by rw [← HEQ.out]; exact HINR.out, HWR.out, HCR.out⟩
            case measure => simp [intOf]; omega
      · obtain rfl : k = n := by omega
        have hgeN : ¬ (k : Int) < r.fN := by have h := HRN.out; omega
        have HEQ := Lib.hid (show k = r.fRows.length from HRL.out.symm)
        have HOF := Lib.hid (own_range_sl (show Own wo (fun y => w.heap.size + 2 ≤ y ∧ y < w1.heap.size) (.sl 1 r.fRows.length (fun j => ictI (outF (fun j => r.fRows.getD j default) r.fRows.length r.fRows.length j))) (.slice a1 r.fRows.length c1) from by have h := HOO.out; rw [HEQ.out] at h; exact h))
        go_wp2
        refine bodyPost_ret (v := .agg #[.int .i64 r.fN, .slice a1 r.fRows.length c1]) (results_cell_row Try.results13 _ _ (w.heap.size + 1) 27 #[.int .i64 r.fN, .slice a1 r.fRows.length c1] (0, 0) _ rfl (by refine Eq.trans (blk_set (cs := #[.int .i64 r.fN, .slice none 0 0]) (t := 27) (fr := (0, 0)) ?_) rfl; refine Eq.trans (blk_set (cs := #[.int .i64 0, .slice none 0 0]) (t := 27) (fr := (0, 0)) ?_) rfl; repeat (first | (with_reducible exact HGO.out) | (refine blk_other (by dsimp only; omega) ?_))) Try.underlying27 rfl rfl) rfl ?_
        rw [fin.out]
        refine ⟨a1, c1, by simp, ?_, ?_, ?_⟩
        · refine Own.sub (F := fun y => w.heap.size + 2 ≤ y ∧ y < w1.heap.size) (Own.kept (HOF.out) ?_) (fun y hy => ⟨Nat.le_trans (by omega) hy.1, Nat.lt_of_lt_of_le hy.2 (by first | (simp; done) | (simp; omega))⟩)
          repeat (first | (with_reducible exact Kept.refl) | (with_reducible apply Kept.drew) | (with_reducible apply Kept.drewN) | (refine Kept.put ?_ (by intro h; have h1 := h.1; dsimp only at h1; omega)))
        · repeat (first | (with_reducible exact HBO.out) | (with_reducible apply Below.drew) | (with_reducible refine below_drewN ?_ _) | (refine Below.setCell ?_ (by simp <;> omega) _) | (refine Below.alloc ?_ (by simp <;> omega) _))
        · exact RowCap.cast (n := r.fRows.length) (by first | rfl | simp) (by repeat (first | (with_reducible exact HCO.out) | (with_reducible apply RowCap.drew) | (with_reducible refine RowCap.drewN ?_ _) | (with_reducible refine RowCap.setCell ?_ _ _ _) | (with_reducible refine RowCap.alloc ?_ _)))
end Go.Proofs.Ytkfonlejblcknaa
