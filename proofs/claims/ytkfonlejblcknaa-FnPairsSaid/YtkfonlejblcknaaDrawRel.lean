/-
  The draws of relations.
-/
import Derived.Test.YtkfonlejblcknaaPick
import Derived.Test.YtkfonlejblcknaaFreeJ
import Derived.Test.YtkfonlejblcknaaRelC
import Derived.Laws.BitsLemmas
namespace Go.Proofs.Ytkfonlejblcknaa
open Go.ChangeShapes Go.WideShapes Go.ChangeAt Go.RowKit Go.Deep

theorem Cur.keptJ {B C : Nat} {a : Option Addr} {len cap : Nat} {G : Nat → Prop} {w w' : World} (h : Cur B C a len cap w) (hk : Kept G w w') (hG : ∀ y, y ≤ C → G y) : Cur B C a len cap w' := by
  have hc : ∀ p : Addr, p.block ≤ C → w'.cell? p = w.cell? p := fun p hp => hk.cell (hG _ hp) (Nat.lt_of_le_of_lt hp h.lt)
  have hf : ∀ p : Addr, p.block ≤ C → w'.frozen? p = w.frozen? p := fun p hp => hk.frozen (hG _ hp) (Nat.lt_of_le_of_lt hp h.lt)
  refine ⟨Nat.lt_of_lt_of_le h.lt hk.1, h.le, h.small, ?_, (hc ⟨C, 0, none⟩ (Nat.le_refl _)).trans h.cb, h.ci.imp fun _ ⟨h1, h2⟩ => ⟨h1, (hc ⟨C, 1, none⟩ (Nat.le_refl _)).trans h2⟩, h.ch.imp fun _ h2 => (hc ⟨C, 2, none⟩ (Nat.le_refl _)).trans h2, (hf ⟨C, 1, none⟩ (Nat.le_refl _)).trans h.f1, (hf ⟨C, 2, none⟩ (Nat.le_refl _)).trans h.f2⟩
  have hle := h.le
  rcases h.code with h0 | ⟨b, off, ha, hB, hcs⟩
  · exact .inl h0
  · exact .inr ⟨b, off, ha, hB, fun k hk => (hcs k hk).imp fun z ⟨h1, h2, hz⟩ => ⟨h1, h2, (hc ⟨b, off + k, none⟩ (by show b ≤ C; omega)).trans hz⟩⟩
theorem Writes.toF {C : Nat} {w w' : World} (h : Writes C w w') : WritesF (fun y => y = C) w w' := ⟨h.os, h.tape, h.output, h.size, h.block⟩
theorem WritesF.one {C : Nat} {w w' : World} (h : WritesF (fun y => y = C) w w') : Writes C w w' := ⟨h.os, h.tape, h.output, h.size, h.block⟩
theorem RowCap.writes {B C : Nat} {w w' : World} {a : Option Addr} {len c : Nat} (h : RowCap B w a len c) (hw : Writes C w w') (hC : C < B) : RowCap B w' a len c := h.block fun g hB hg => hw.block g hg (by omega)

theorem pick_int_at {B C : Nat} {a : Option Addr} {len cap : Nat} (w : World) (hc : Cur B C a len cap w) (L : Nat) (hL : L = w.heap.size) (xs : List Int) (hn : 0 < xs.length) (hm : xs.length ≤ 1000000) (T : TypeId) :
    Calls Try.prog 48 #[.pointer (some ⟨C, 0, none⟩), .slice (some ⟨L, 0, none⟩) xs.length xs.length] (w.alloc (.cells (xs.map (Value.int .i64)).toArray T)) fun e w' => ∃ j, j < xs.length ∧ e = .returned (Value.int .i64 (xs.getD j 0)) ∧ Cur B C a len cap w' ∧ Writes C w w' := by
  subst hL
  exact pick_int_new w hc xs hn hm T

/-- A row with its capacity, in blocks from L to H. -/
def RowIn (L H : Nat) (w : World) (a : Option Addr) (len c : Nat) : Prop := RowCap L w a len c ∧ ∀ g, a = some ⟨g, 0, none⟩ → g < H
theorem RowCap.in_ {L : Nat} {w : World} {a : Option Addr} {len c : Nat} (h : RowCap L w a len c) : RowIn L w.heap.size w a len c := by
  refine ⟨h, fun g hg => ?_⟩
  rcases h with ⟨h, _⟩ | ⟨g', cur, h1, hB, h2, h3⟩
  · rw [hg] at h; cases h
  · rw [hg] at h1; cases h1; exact blk_in h2
theorem RowIn.kept {L H : Nat} {w w' : World} {F : Nat → Prop} {a : Option Addr} {len c : Nat} (h : RowIn L H w a len c) (hk : Kept F w w') (hF : ∀ y, L ≤ y → y < H → F y) : RowIn L H w' a len c := by
  refine ⟨?_, h.2⟩
  rcases h.1 with h1 | ⟨g, cur, h1, hB, h2, h3⟩
  · exact .inl h1
  · exact .inr ⟨g, cur, h1, hB, (hk.2 g (hF g hB (h.2 g h1)) (blk_in h2)).trans h2, h3⟩
theorem okI_wrap (x : Int) : okI (IntKind.i64.wrap x) := by
  unfold okI
  rw [IntKind.wrap_i64]
  omega
theorem orB_ok (x : Int) (k : Nat) : okI (orB x k) := by
  unfold orB bits
  exact okI_wrap _
theorem addPair_N (r : DRelation) (i k : Int) : (addPair r i k).fN = r.fN := by unfold addPair; split <;> rfl
theorem addPair_rows {r : DRelation} (h : okL okI r.fRows) (i k : Int) : okL okI (addPair r i k).fRows := by
  unfold addPair
  split
  · refine ⟨by rw [List.length_set]; exact h.1, fun x hx => ?_⟩
    rcases List.mem_or_eq_of_mem_set hx with h1 | h1
    · exact h.2 x h1
    · rw [h1]; exact orB_ok _ _
  · exact h

theorem Writes.put {C : Nat} {a w : World} (h : Writes C a w) {p : Addr} {v : Value} (hp : a.heap.size ≤ p.block) : Writes C a (w.setCell p v) :=
  ⟨h.os, h.tape, h.output, by simp [World.setCell]; exact h.size, fun k hk hn => (Below.heap_setCell _ _ _ _ (by omega)).trans (h.block k hk hn)⟩
theorem Writes.byF {C : Nat} {F : Nat → Prop} {a b c : World} (h : Writes C a b) (hF : WritesF F b c) (hs : ∀ y, y < a.heap.size → F y → y = C) : Writes C a c :=
  ⟨hF.os.trans h.os, hF.tape.trans h.tape, hF.output.trans h.output, Nat.le_trans h.size hF.size, fun k hk hn => (hF.block k (Nat.lt_of_lt_of_le hk h.size) (fun hf => hn (hs k hk hf))).trans (h.block k hk hn)⟩
theorem Writes.grown {C : Nat} {a b c : World} (h : Writes C a b) {row : Option Nat} (hg : b.grownBy c row) (hr : ∀ g, row = some g → a.heap.size ≤ g) : Writes C a c :=
  ⟨hg.os.trans h.os, hg.tape.trans h.tape, hg.output.trans h.output, Nat.le_trans h.size hg.size, fun k hk hn => (hg.block k (Nat.lt_of_lt_of_le hk h.size) (fun e => by have := hr k e.symm; omega)).trans (h.block k hk hn)⟩
theorem own_of_row2 {w : World} {B : Nat} {v : Value} {l : List Int} {F : Nat → Prop} (h : w.ownsRow B 3 1 v l.length (l.map (Value.int .i64))) (hF : ∀ g cur, B ≤ g → w.heap[g]? = some (.cells cur 3 (0, 0)) → F g) :
    ∃ a c, v = .slice a l.length c ∧ Own w F (.sl 1 l.length (rowsI l)) (.slice a l.length c) := by
  have h0 := h
  rcases h.2 with ⟨rfl, hn⟩ | ⟨g, cap, cur, rfl, hB, hg, _⟩
  · rw [hn]; exact ⟨none, 0, rfl, .nil _ _ _ _ _⟩
  · have hblk := ownsRow_block h0
    refine ⟨_, cap, rfl, ints_own (hF g cur hB hg) hblk.1 (fun k hk => ⟨.int .i64 (l.getD k default), rfl, ?_⟩) hblk.2.2.2⟩
    rw [Nat.zero_add, hblk.2.2.1 k (by omega), List.getD_eq_getElem?_getD, List.getElem?_map, List.getD_eq_getElem?_getD, List.getElem?_eq_getElem hk]
    rfl
theorem own_of_row3 {w : World} {B : Nat} {v : Value} {l : List Int} {x : Int} {F : Nat → Prop} (h : w.ownsRow B 3 1 v (l.length + 1) (l.map (Value.int .i64) ++ [Value.int .i64 x])) (hF : ∀ g cur, B ≤ g → w.heap[g]? = some (.cells cur 3 (0, 0)) → F g) :
    ∃ a c, v = .slice a (l.length + 1) c ∧ Own w F (.sl 1 (l ++ [x]).length (rowsI (l ++ [x]))) (.slice a (l ++ [x]).length c) := by
  have h2 : w.ownsRow B 3 1 v (l ++ [x]).length ((l ++ [x]).map (Value.int .i64)) := by simpa using h
  obtain ⟨a, c, h3, h4⟩ := own_of_row2 h2 hF
  exact ⟨a, c, by rw [h3]; simp, h4⟩
theorem heap_set_same {w w' : World} {b o : Nat} {v : Value} (h : w'.heap[b]? = w.heap[b]?) : (w'.setCell ⟨b, o, none⟩ v).heap[b]? = (w.setCell ⟨b, o, none⟩ v).heap[b]? := by
  simp only [World.setCell, Array.getElem?_modify, h]
theorem RowCap.ownBlock {B : Nat} {w : World} {a : Option Addr} {len c : Nat} (h : RowCap B w a len c) {k : Nat} (e : some k = (Value.slice a len c).ownBlock) : a = some ⟨k, 0, none⟩ ∧ B ≤ k := by
  rcases h with ⟨h1, _⟩ | ⟨g, cur, h1, hB, _⟩
  · rw [h1] at e; simp [Value.ownBlock] at e
  · rw [h1] at e ⊢
    simp only [Value.ownBlock, Option.some.injEq] at e
    subst e
    exact ⟨rfl, hB⟩
theorem cell_one_int {w : World} {v : Value} {t : TypeId} : ∀ (j : Nat) (u : Value), [v][j]? = some u → (w.alloc (.cells #[v] t)).cell? ((⟨w.heap.size, 0, none⟩ : Addr).add j) = some u := by
  intro j u hu
  match j with
  | 0 =>
    simp at hu
    subst hu
    show (w.alloc _).cell? ⟨w.heap.size, 0, none⟩ = _
    rw [World.cell?_alloc_new]; rfl
  | j + 1 => simp at hu
def bentInts : List Int := [-1, 65536, 1099511627776]
theorem bentInts_in : ∀ x ∈ bentInts, okI x := by unfold okI; decide

/-- A drawn relation: small. -/
structure SmallRel (r : DRelation) : Prop where
  n0 : 0 ≤ r.fN
  n1 : r.fN ≤ 17
  len : r.fRows.length ≤ 17
  rows : okL okI r.fRows
theorem SmallRel.ok {r : DRelation} (h : SmallRel r) : r.ok := ⟨⟨by have := h.n0; omega, by have := h.n1; omega⟩, h.rows⟩
theorem SmallRel.sz {r : DRelation} (h : SmallRel r) : r.sz ≤ 1048576 := by
  unfold DRelation.sz
  rw [lsz_zero]
  have := h.len
  omega
/-- What a draw's relation is while it grows: n numbers, n rows. -/
structure RelN (n : Nat) (r : DRelation) : Prop where
  N : r.fN = n
  len : r.fRows.length = n
  rows : okL okI r.fRows
theorem RelN.add {n : Nat} {r : DRelation} (h : RelN n r) (i k : Int) : RelN n (addPair r i k) := ⟨(addPair_N r i k).trans h.N, (addPair_len r i k).trans h.len, addPair_rows h.rows i k⟩
theorem RelN.empty {n : Nat} (h : n ≤ 16) : RelN n (emptyRel n) := by
  rw [emptyRel_nat h]
  refine ⟨rfl, by simp, by simp; omega, fun x hx => ?_⟩
  rw [List.eq_of_mem_replicate hx]
  exact ⟨by decide, by decide⟩
theorem RelN.small {n : Nat} {r : DRelation} (h : RelN n r) (hn : n ≤ 17) : SmallRel r := ⟨by rw [h.N]; omega, by rw [h.N]; omega, by rw [h.len]; exact hn, h.rows⟩
def relSizes : List Int := [0, 1, 2, 3, 4, 5, 8, 16]
theorem relSizes_in : ∀ x ∈ relSizes, 0 ≤ x ∧ x ≤ 16 := by decide

/-- A relation that a draw has made. -/
def RelDrawn (B C : Nat) (a : Option Addr) (len cap : Nat) (w : World) (e : Ending) (w' : World) : Prop :=
  ∃ (r : DRelation) (ra : Option Addr) (rc : Nat), e = .returned (.agg #[.int .i64 r.fN, .slice ra r.fRows.length rc]) ∧ SmallRel r ∧ Own w' (fun y => w.heap.size ≤ y ∧ y < w'.heap.size) (.sl 1 r.fRows.length (rowsI r.fRows)) (.slice ra r.fRows.length rc) ∧ Cur B C a len cap w' ∧ Writes C w w'

set_option maxHeartbeats 1600000 in
set_option maxRecDepth 100000 in
theorem spec_l22Draw {B C : Nat} {a : Option Addr} {len cap : Nat} (w : World) (hc : Cur B C a len cap w) :
    Calls Try.prog 35 #[.pointer (some ⟨C, 0, none⟩)] w (RelDrawn B C a len cap w) := by
  have hCl := hc.lt
  have HC0 := Lib.hid (hc.later ((Below.refl _ w).alloc (Nat.le_refl _) (.cells #[.int .i64 0, .slice none 0 0] 27)))
  have HW0 := Lib.hid ((Writes.refl C w).alloc (.cells #[.int .i64 0, .slice none 0 0] 27))
  have HG0 := Lib.hid (show (w.alloc (.cells #[.int .i64 0, .slice none 0 0] 27)).heap[w.heap.size]? = some (.cells #[.int .i64 0, .slice none 0 0] 27) from blk_new rfl)
  have HSZ0 := Lib.hid (show (w.alloc (.cells #[.int .i64 0, .slice none 0 0] 27)).heap.size = w.heap.size + 1 by simp)
  clear hc
  go_enter Try.func35, Try.ntmps35
  go_wp2_with fail
  refine (pick_int_at (w.alloc (.cells #[.int .i64 0, .slice none 0 0] 27)) HC0.out (w.heap.size + 1) HSZ0.out.symm relSizes (by decide) (by decide) 3).mono ?_
  rintro e w1 ⟨j, hj, rfl, hc1, hw1⟩
  have hb := relSizes_in _ (getD_mem (d := 0) relSizes j hj)
  generalize relSizes.getD j 0 = n0 at hb
  obtain ⟨n, rfl⟩ : ∃ n : Nat, n0 = n := ⟨n0.toNat, by omega⟩
  have hn16 : n ≤ 16 := by omega
  clear hb hj
  have HC1 := Lib.hid hc1
  have HG1 := Lib.hid ((hw1.block w.heap.size (by rw [HSZ0.out]; omega) (by omega)).trans HG0.out)
  have HW1 := Lib.hid (HW0.out.trans hw1)
  have hz1 : w.heap.size + 1 ≤ w1.heap.size := by have := hw1.size; rw [HSZ0.out] at this; exact this
  clear hc1 hw1 HC0 HW0 HG0 HSZ0
  go_wp2_with fail
  refine (spec_EmptyRelationC (n : Int) (by unfold okI; omega) w1).mono ?_
  rintro e w2 ⟨a2, c2, rfl, ho2, hb2, hp2⟩
  have HRN := Lib.hid (RelN.empty hn16)
  generalize emptyRel (n : Int) = r0 at ho2 hp2 HRN ⊢
  obtain ⟨N0, l0⟩ := r0
  obtain rfl : N0 = (n : Int) := HRN.out.N
  dsimp only at ho2 hp2 ⊢
  have HC2 := Lib.hid (HC1.out.later hb2)
  have HG2 := Lib.hid ((hb2.block w.heap.size (by omega)).trans HG1.out)
  have HW2 := Lib.hid (HW1.out.later hb2)
  have hz2 : w1.heap.size ≤ w2.heap.size := hb2.size
  have HO2 := Lib.hid ho2
  have HP2 := Lib.hid (hp2.mono (D := w.heap.size + 1) hz1)
  have HNB0 := Lib.hid (show ∀ g, a2 = some ⟨g, 0, none⟩ → g ≠ w2.heap.size from fun g hg => by have := hp2.in_.2 g hg; omega)
  clear hb2 ho2 hp2 HC1 HG1 HW1
  go_wp2_with fail
  refine (draw_below _ (HC2.out.later (by repeat (first | (with_reducible exact Below.refl _ _) | (with_reducible apply Below.drew) | (with_reducible refine below_drewN ?_ _) | (refine Below.setCell ?_ (by simp <;> omega) _) | (refine Below.alloc ?_ (by simp <;> omega) _)) : Below w2.heap.size w2 _)) (2 * (n : Int) + 1) (by omega)).mono ?_
  rintro e w3 ⟨m0, rfl, hm0, hm1, hc3, hw3⟩
  obtain ⟨M, rfl⟩ : ∃ M : Nat, m0 = M := ⟨m0.toNat, by omega⟩
  have HG4 := Lib.hid (show w3.heap[w2.heap.size]? = some (.cells #[.int .i64 (n : Int), .slice a2 l0.length c2] 27) from (hw3.block w2.heap.size (by simp) (by omega)).trans (blk_new rfl))
  have HG3 := Lib.hid ((hw3.block w.heap.size (by simp; omega) (by omega)).trans (blk_alloc (by omega) HG2.out))
  have HW3 := Lib.hid ((HW2.out.alloc _).trans hw3)
  have HC3 := Lib.hid hc3
  have HO3 := Lib.hid ((HO2.out.sub (F' := fun y => w.heap.size < y ∧ y ≠ w2.heap.size ∧ y < w3.heap.size) (fun y hy => ⟨by omega, by omega, Nat.lt_of_lt_of_le hy.2 (Nat.le_trans (by simp) hw3.size)⟩)).kept ((Kept.of_below_all ((Below.refl _ _).alloc (Nat.le_refl _) _)).trans (Kept.of_writes hw3 (fun h => by have := h.1; omega))))
  have HP3 := Lib.hid (RowCap.writes (HP2.out.alloc _) hw3 (by omega))
  have hz3 : w2.heap.size + 1 ≤ w3.heap.size := Nat.le_trans (by simp) hw3.size
  clear hc3 hw3 HC2 HG2 HW2 HO2 HP2
  go_wp2
  go_loopw [6] (fun i wr => ∃ (k : Nat) (l : List Int) (ra : Option Addr) (rc : Nat), k ≤ M ∧ i = .int .i64 (k : Int) ∧ RelN n ⟨n, l⟩ ∧ wr.heap[w2.heap.size]? = some (.cells #[.int .i64 (n : Int), .slice ra l.length rc] 27) ∧ Own wr (fun y => w.heap.size < y ∧ y ≠ w2.heap.size ∧ y < wr.heap.size) (.sl 1 l.length (rowsI l)) (.slice ra l.length rc) ∧ RowCap (w.heap.size + 1) wr ra l.length rc ∧ Cur B C a len cap wr ∧ WritesF (fun y => y = C ∨ y = w2.heap.size) w3 wr ∧ (∀ g, ra = some ⟨g, 0, none⟩ → g ≠ w2.heap.size)) (fun i _ => M - (intOf i).toNat)
  case atStart => exact ⟨0, l0, a2, c2, Nat.zero_le _, rfl, HRN.out, HG4.out, HO3.out, HP3.out, HC3.out, WritesF.refl _ _, fun g hg => HNB0.out g hg⟩
  case round =>
    obtain ⟨k, l, ra, rc, hk, rfl, hrn, hg4, ho, hp, hcu, hwr, hnb⟩ := hrel
    have HRN1 := Lib.hid hrn
    have hL := Lib.hid hrn.len
    have hz4 : w3.heap.size ≤ wr.heap.size := hwr.size
    have HG := Lib.hid hg4
    have HO := Lib.hid ho
    have HP := Lib.hid hp
    have HCU := Lib.hid hcu
    have HWR := Lib.hid hwr
    have HNB := Lib.hid hnb
    have HRR := Lib.hid hrn.rows
    clear hrn hg4 ho hp hcu hwr hnb HG4 HO3 HP3 HC3 HRN
    by_cases hlt : k < M
    · have hn0 : 0 < n := by omega
      have HSL := Lib.hid (Sl.of (HO.out.lies (lo := w.heap.size + 1) (hi := wr.heap.size) (fun y hy => ⟨hy.1, hy.2.2⟩)))
      go_wp2_with fail
      refine wp_region_freeJ [([], .none, []), ([], .none, []), ([], .none, []), ([1, 2], .none, []), ([], .none, []), ([], .none, []), ([4, 5], .none, []), ([0, 3, 6], .none, []), ([7], .old, [])] [0, 1, 2, 3, 4, 5, 6, 7, 8] [8] (fun y => y = C) (fun wx => Cur B C a len cap wx) (fun jq9 => match jq9 with | 8 => w2.heap.size | _ => 0) (fun jq9 V L H wx => match jq9 with | 0 => V 0 = .agg #[.int .i64 (n : Int), .slice ra l.length rc] | 1 => V 1 = .pointer (some ⟨C, 0, none⟩) | 2 => V 2 = .int .i64 (n : Int) | 3 => ∃ x3, V 3 = .int .i64 x3 ∧ (0 ≤ x3 ∧ x3 < (n : Int)) | 4 => V 4 = .pointer (some ⟨C, 0, none⟩) | 5 => V 5 = .int .i64 (n : Int) | 6 => ∃ x6, V 6 = .int .i64 x6 ∧ (0 ≤ x6 ∧ x6 < (n : Int)) | 7 => ∃ l9 a9 c9, V 7 = .agg #[.int .i64 (n : Int), .slice a9 (List.length l9) c9] ∧ RelN n ⟨n, l9⟩ ∧ Own wx (fun y => L ≤ y ∧ y < H) (.sl 1 l9.length (rowsI l9)) (.slice a9 l9.length c9) ∧ RowIn L H wx a9 l9.length c9 | 8 => ∀ x0 x1, V 7 = .agg #[x0, x1] → L < H ∧ wx.heap[L]? = some (.cells #[x0, x1] 27) | _ => True) (by kernel_rfl) (by kernel_rfl) ?obs (fun y h => by have h1 : y = C := h; omega) HCU.out (fun wa wb _ hj hk => hj.keptJ hk (fun y hy => ⟨by omega, ⟨by show y ≠ w2.heap.size; omega, trivial⟩⟩)) ?loc ?lasts ?walk
      case obs =>
        exact (And.intro (And.intro (show w2.heap.size < wr.heap.size by omega) (show ¬ (w2.heap.size = C) by omega)) (And.intro (trivial) (trivial)))
      case loc =>
        intro k V V' L H wx h0 h1 hG
        match k with
        | 0 =>
          try dsimp only at hG ⊢
          rw [← h0]
          exact hG
        | 1 =>
          try dsimp only at hG ⊢
          rw [← h0]
          exact hG
        | 2 =>
          try dsimp only at hG ⊢
          rw [← h0]
          exact hG
        | 3 =>
          try dsimp only at hG ⊢
          rw [← h0]
          exact hG
        | 4 =>
          try dsimp only at hG ⊢
          rw [← h0]
          exact hG
        | 5 =>
          try dsimp only at hG ⊢
          rw [← h0]
          exact hG
        | 6 =>
          try dsimp only at hG ⊢
          rw [← h0]
          exact hG
        | 7 =>
          try dsimp only at hG ⊢
          rw [← h0]
          exact hG
        | 8 =>
          have e7 := h1 7 (by decide)
          try dsimp only at hG ⊢
          rw [← e7]
          exact hG
        | n + 9 => trivial
      case lasts =>
        intro i hi V L H wx wy hB hH hk
        match i, hi with
        | 0, _ => exact fun h => h
        | 1, _ => exact fun h => h
        | 2, _ => exact fun h => h
        | 3, _ => exact fun ⟨x3, hv, ho0⟩ => ⟨x3, hv, ho0⟩
        | 4, _ => exact fun h => h
        | 5, _ => exact fun h => h
        | 6, _ => exact fun ⟨x6, hv, ho0⟩ => ⟨x6, hv, ho0⟩
        | 7, _ => exact fun ⟨l9, a9, c9, hv, ho0, ho1, ho2⟩ => ⟨l9, a9, c9, hv, ho0, ho1.kept (hk.sub (fun y hy => .inr hy)), ho2.kept hk (fun y h1 h2 => .inr ⟨h1, h2⟩)⟩
        | 8, _ => exact fun h x0 x1 hv => ⟨(h x0 x1 hv).1, (hk.2 L (.inr ⟨Nat.le_refl _, (h x0 x1 hv).1⟩) (Nat.lt_of_lt_of_le (h x0 x1 hv).1 hH)).trans (h x0 x1 hv).2⟩
        | n + 9, hn => exact absurd hn (by simp)
      case walk =>
        simp only [freeJ, effJ, Nat.reduceAdd, Act.put, List.setIfInBounds_toArray, List.set_cons_succ, List.set_cons_zero]
        refine ⟨?_, ?_, ?_, ?_, ?_, ?_, ?_, ?_, ?_, ?_⟩
        · intro V L H w1 hw hk hj hd
          clear hd
          have hblk0 := (hk.2 w2.heap.size ⟨by omega, by omega, trivial⟩ (by omega)).trans HG.out
          have hc0 := blk_cell (j := 0) (v := .int .i64 (n : Int)) hblk0 rfl
          have hc1 := blk_cell (j := 1) (v := .slice ra l.length rc) hblk0 rfl
          clear hblk0
          go_wp2_with fail
          exact freePost _ rfl ⟨⟨WritesF.refl _ _, hj⟩, upd_self⟩
        · intro V L H w1 hw hk hj hd
          clear hd
          go_wp2_with fail
          exact freePost _ rfl ⟨⟨WritesF.refl _ _, hj⟩, upd_self⟩
        · intro V L H w1 hw hk hj hd
          clear hd
          go_wp2_with fail
          exact freePost _ rfl ⟨⟨WritesF.refl _ _, hj⟩, upd_self⟩
        · intro V L H w1 hw hk hj hd
          obtain ⟨⟨hL1, hM1, hH1, hv1⟩, ⟨hL2, hM2, hH2, hv2⟩, -⟩ := hd
          rw [hv1, hv2]
          have HV1 := Lib.hid hv1
          have HV2 := Lib.hid hv2
          clear hv1 hv2
          go_wp2_with fail
          refine (draw_below _ hj (n : Int) (by omega)).mono ?_
          rintro e w2 ⟨y, rfl, hy0, hy1, hj2, hww⟩
          have hw2 := hww.toF
          clear hww
          go_wp2_with fail
          exact freePost _ rfl ⟨⟨hw2, hj2⟩, Exists.intro y (And.intro (upd_self) ((⟨hy0, hy1⟩ : 0 ≤ y ∧ y < (n : Int))))⟩
        · intro V L H w1 hw hk hj hd
          clear hd
          go_wp2_with fail
          exact freePost _ rfl ⟨⟨WritesF.refl _ _, hj⟩, upd_self⟩
        · intro V L H w1 hw hk hj hd
          clear hd
          go_wp2_with fail
          exact freePost _ rfl ⟨⟨WritesF.refl _ _, hj⟩, upd_self⟩
        · intro V L H w1 hw hk hj hd
          obtain ⟨⟨hL4, hM4, hH4, hv4⟩, ⟨hL5, hM5, hH5, hv5⟩, -⟩ := hd
          rw [hv4, hv5]
          have HV4 := Lib.hid hv4
          have HV5 := Lib.hid hv5
          clear hv4 hv5
          go_wp2_with fail
          refine (draw_below _ hj (n : Int) (by omega)).mono ?_
          rintro e w2 ⟨y, rfl, hy0, hy1, hj2, hww⟩
          have hw2 := hww.toF
          clear hww
          go_wp2_with fail
          exact freePost _ rfl ⟨⟨hw2, hj2⟩, Exists.intro y (And.intro (upd_self) ((⟨hy0, hy1⟩ : 0 ≤ y ∧ y < (n : Int))))⟩
        · intro V L H w1 hw hk hj hd
          obtain ⟨⟨hL0, hM0, hH0, hv0⟩, ⟨hL3, hM3, hH3, x3, hv3, ho3_0⟩, ⟨hL6, hM6, hH6, x6, hv6, ho6_0⟩, -⟩ := hd
          rw [hv0, hv3, hv6]
          have HV0 := Lib.hid hv0
          have HV3 := Lib.hid hv3
          have HV6 := Lib.hid hv6
          clear hv0 hv3 hv6
          go_wp2_with fail
          refine (spec_AddPairC (lo := w.heap.size + 1) (hi := wr.heap.size) (c0_0 := rc) ⟨n, l⟩ (HRN1.out.small (by omega)).ok (HRN1.out.small (by omega)).sz _ (by unfold okI; omega) _ (by unfold okI; omega) _ hw.size (HSL.out.frame (fun b o h1 h2 => hk.cell (p := ⟨b, o, none⟩) ⟨h2, by show ¬ b = C; omega, trivial⟩ h2))).mono ?_
          rintro e w2 ⟨a9, c9, rfl, ho9, hb2, hp9⟩
          have hr9 := HRN1.out.add x3 x6
          generalize addPair (⟨(n : Int), l⟩ : DRelation) x3 x6 = r9 at hr9 ho9 hp9 ⊢
          obtain ⟨N9, l9⟩ := r9
          obtain rfl : N9 = (n : Int) := hr9.N
          dsimp only at ho9 hp9 ⊢
          have HR9 := Lib.hid hr9
          clear hr9
          go_wp2_with fail
          exact freePost _ rfl ⟨⟨(WritesF.refl _ _).later hb2, (hj.later hb2)⟩, Exists.intro l9 (Exists.intro a9 (Exists.intro c9 (And.intro (upd_self) (And.intro (HR9.out) (And.intro (ho9) (hp9.in_))))))⟩
        · intro V L H w1 hw hk hj hd
          obtain ⟨⟨hL7, hM7, hH7, l9, a9, c9, hv7, ho7_0, ho7_1, ho7_2⟩, -⟩ := hd
          rw [hv7]
          have HV7 := Lib.hid hv7
          clear hv7
          have hblk : w1.heap[w2.heap.size]? = some (.cells #[.int .i64 (n : Int), .slice ra l.length rc] 27) := (hk.2 w2.heap.size ⟨by omega, by omega, trivial⟩ (by omega)).trans HG.out
          have hc_0 := blk_cell (j := 0) (v := .int .i64 (n : Int)) hblk rfl
          have hf_0 := blk_frozen (j := 0) hblk
          have hc_1 := blk_cell (j := 1) (v := .slice ra l.length rc) hblk rfl
          have hf_1 := blk_frozen (j := 1) hblk
          have HBLK := Lib.hid hblk
          clear hblk
          go_wp2_with fail
          refine freePost undef rfl ⟨(Touches.put (L := w2.heap.size) (H := w2.heap.size + 1) (Touches.put (L := w2.heap.size) (H := w2.heap.size + 1) Touches.refl (p := ⟨w2.heap.size, 0, none⟩) ⟨Nat.le_refl _, (Nat.lt_succ_self _)⟩ _) (p := ⟨w2.heap.size, 1, none⟩) ⟨Nat.le_refl _, (Nat.lt_succ_self _)⟩ _), fun x0 x1 h => ?_⟩
          cases (HV7.out.symm.trans ((upd_ne (by decide)).symm.trans h))
          exact ⟨(Nat.lt_succ_self _), (blk_putJ (blk_putJ HBLK.out rfl) rfl)⟩
        · intro V L H w1 hw hj hd hap hdead
          obtain ⟨⟨hL0, hM0, hH0, hv0⟩, ⟨hL1, hM1, hH1, hv1⟩, ⟨hL2, hM2, hH2, hv2⟩, ⟨hL3, hM3, hH3, x3, hv3, ho3_0⟩, ⟨hL4, hM4, hH4, hv4⟩, ⟨hL5, hM5, hH5, hv5⟩, ⟨hL6, hM6, hH6, x6, hv6, ho6_0⟩, ⟨hL7, hM7, hH7, l9, a9, c9, hv7, ho7_0, ho7_1, ho7_2⟩, ⟨hL8, hM8, hH8, hst8_⟩, -⟩ := hd
          obtain ⟨pe8, pe8'⟩ : L 8 = w2.heap.size ∧ H 8 = w2.heap.size + 1 := hL8
          obtain ⟨-, pb8⟩ := hst8_ _ _ hv7
          rw [pe8] at pb8
          rw [hv0, hv1, hv2, hv3, hv4, hv5, hv6, hv7]
          clear hv0 hv1 hv2 hv3 hv4 hv5 hv6 hv7
          have hL7' : wr.heap.size ≤ L 7 := hL7
          have HJ := Lib.hid hj
          have HWW := Lib.hid hw
          have hz5 : wr.heap.size ≤ w1.heap.size := hw.size
          clear hw hj hap hdead
          go_wp2
          go_roundw
          case rel =>
            refine ⟨k + 1, l9, a9, c9, by omega, by go_num, ho7_0, pb8, ho7_1.sub (fun y hy => ⟨by omega, by omega, by omega⟩), ho7_2.1.mono (by omega), HJ.out, HWR.out.trans (HWW.out.sub fun y h => h.imp id (fun h => Classical.byContradiction fun hn => h ⟨hn, trivial⟩)), fun g hg => ?_⟩
            rcases ho7_2.1 with ⟨h1, _⟩ | ⟨g', cur, h1, h2, _⟩
            · rw [hg] at h1; cases h1
            · rw [hg] at h1; cases h1; omega
          case measure => simp [intOf]; omega
    · obtain rfl : k = M := by omega
      have HGR := Lib.hid ((HWR.out.block w.heap.size (by omega) (by intro h; rcases h with h | h <;> omega)).trans HG3.out)
      have HW := Lib.hid (HW3.out.byF HWR.out (fun y hy h => h.elim id (fun h => by omega)))
      clear HW3 HWR HG3 HRN1
      go_wp2_with fail
      refine (draw_below _ HCU.out 16 (by decide)).mono ?_
      rintro e w4 ⟨x, rfl, hx0, hx1, hc4, hw4⟩
      have HC4 := Lib.hid hc4
      have HGB := Lib.hid ((hw4.block w2.heap.size (by omega) (by omega)).trans HG.out)
      have HGR4 := Lib.hid ((hw4.block w.heap.size (by omega) (by omega)).trans HGR.out)
      have HO4 := Lib.hid ((HO.out.kept (Kept.of_writes hw4 (fun h => by have := h.1; omega))).sub (F' := fun y => w.heap.size < y ∧ y ≠ w2.heap.size ∧ y < w4.heap.size) (fun y hy => ⟨hy.1, hy.2.1, Nat.lt_of_lt_of_le hy.2.2 hw4.size⟩))
      have HP4 := Lib.hid (HP.out.writes hw4 (by omega))
      have HW4 := Lib.hid (HW.out.trans hw4)
      have hz5 : wr.heap.size ≤ w4.heap.size := hw4.size
      clear hc4 hw4 HG HGR HO HP HCU HW
      have bc0 := blk_cell (j := 0) (v := .int .i64 (n : Int)) HGB.out rfl
      have bc1 := blk_cell (j := 1) (v := .slice ra l.length rc) HGB.out rfl
      have bf0 := blk_frozen (j := 0) HGB.out
      have bf1 := blk_frozen (j := 1) HGB.out
      have rc0 := blk_cell (j := 0) (v := .int .i64 0) HGR4.out rfl
      have rc1 := blk_cell (j := 1) (v := .slice none 0 0) HGR4.out rfl
      have rf0 := blk_frozen (j := 0) HGR4.out
      have rf1 := blk_frozen (j := 1) HGR4.out
      have hlen : l.length = n := hL.out
      by_cases h0 : x = 0
      · subst h0
        clear hlen
        go_wp2
        refine bodyPost_ret (v := .agg #[.int .i64 ((n : Int) + 1), .slice ra (List.length l) rc]) (results_cell_row Try.results35 _ _ w.heap.size 27 #[.int .i64 ((n : Int) + 1), .slice ra (List.length l) rc] (0, 0) _ rfl (by repeat (first | (with_reducible exact HGR4.out) | (with_reducible exact HGR5.out) | (refine blk_putJ (cs := #[.int .i64 0, .slice none 0 0]) ?_ rfl) | (refine blk_putJ (cs := #[.int .i64 ((n : Int) + 1), .slice none 0 0]) ?_ rfl) | (refine blk_other (by first | omega | (dsimp only; omega)) ?_))) Try.underlying27 rfl rfl) rfl ?_
        refine ⟨⟨(n : Int) + 1, l⟩, ra, rc, rfl, ⟨by show (0 : Int) ≤ n + 1; omega, by show (n : Int) + 1 ≤ 17; omega, by show l.length ≤ 17; have := hL.out; omega, HRR.out⟩, ?_, ?_, ?_⟩
        · exact (HO4.out.kept (by repeat (first | (with_reducible exact Kept.refl) | (with_reducible apply Kept.drew) | (with_reducible apply Kept.drewN) | (refine Kept.put ?_ (by intro h; try dsimp only at h; omega))))).sub (fun y hy => ⟨by omega, Nat.lt_of_lt_of_le hy.2.2 (by first | (simp; done) | (simp; omega) | (simp [World.setCell]; omega))⟩)
        · exact HC4.out.keptJ (G := fun y => y ≤ C) (by repeat (first | (with_reducible exact Kept.refl) | (with_reducible apply Kept.drew) | (with_reducible apply Kept.drewN) | (refine Kept.put ?_ (by intro h; try dsimp only at h; omega)))) (fun y hy => hy)
        · repeat (first | (with_reducible exact HW4.out) | (with_reducible refine Writes.drewN ?_ _) | (refine Writes.put ?_ (by first | omega | (dsimp only; omega))))
      · have c0 : (x == 0) = false := beq_eq_false_iff_ne.2 h0
        by_cases h1 : x = 1
        · subst h1
          have hl17 : l.length ≤ 16 := by omega
          clear hlen
          obtain ⟨i0, hi', hq0, hq1, hq2⟩ := info_parts info_Int
          have HROW := Lib.hid (HP4.out.row HO4.out)
          have HRR9 := Lib.hid (show okL okI (l ++ [0]) from ⟨by simp; omega, fun z hz => by
            rcases List.mem_append.1 hz with h | h
            · exact HRR.out.2 z h
            · rw [List.mem_singleton.1 h]; exact ⟨by decide, by decide⟩⟩)
          go_wp2_with (at_builtin; refine wpList_append_own _ rfl (.tmp 41) (.tmp 42) 22 rfl (w.heap.size + 1) 3 i0 (.int .i64 0) 1 8 Try.underlying22 hi' hq0 hq1 hq2 rfl (by decide) _ _ _ rfl (HROW.out.alloc _) ⟨w4.heap.size, 0, none⟩ 1 1 [.int .i64 0] rfl rfl cell_one_int (by intro u hu; simp at hu; subst hu; rfl) (by unfold maxLen; omega) (by omega) (by simp; omega) ?_; intro v' w5 hown' hgrow hnil; have HGB5 := Lib.hid ((hgrow.block w2.heap.size (by simp; omega) (fun e => absurd rfl (HNB.out _ (HP4.out.ownBlock e).1))).trans (blk_alloc (by omega) HGB.out)); have HGR5 := Lib.hid ((hgrow.block w.heap.size (by simp; omega) (fun e => by have := (HP4.out.ownBlock e).2; omega)).trans (blk_alloc (by omega) HGR4.out)); have HW5 := Lib.hid ((HW4.out.alloc _).grown hgrow (fun g hg => by have := (HP4.out.ownBlock hg.symm).2; omega)); have HC5 := Lib.hid ((HC4.out.later ((Below.refl _ w4).alloc (Nat.le_refl _) _)).keptJ (G := fun y => y ≤ C) ⟨hgrow.size, fun y hy hlt => hgrow.block y hlt (fun e => by have := (HP4.out.ownBlock e).2; omega)⟩ (fun y hy => hy)); have hz7 : w4.heap.size ≤ w5.heap.size := Nat.le_trans (by simp) hgrow.size; obtain ⟨a5, c5, rfl, ho5⟩ := own_of_row3 (F := fun y => w.heap.size < y ∧ y ≠ w2.heap.size ∧ y < w5.heap.size) hown' (fun g cur h1 h2 => ⟨by omega, fun e => (by rw [e, HGB5.out] at h2; simp at h2), blk_in h2⟩); have HO5 := Lib.hid ho5; clear hown' hgrow hnil ho5 bc0 bc1 bf0 bf1 rc0 rc1 rf0 rf1; have bc0 := blk_cell (j := 0) (v := .int .i64 (n : Int)) HGB5.out rfl; have bc1 := blk_cell (j := 1) (v := .slice ra l.length rc) HGB5.out rfl; have rc0 := blk_cell (j := 0) (v := .int .i64 0) HGR5.out rfl; have rc1 := blk_cell (j := 1) (v := .slice none 0 0) HGR5.out rfl; have bf0 := blk_frozen (j := 0) HGB5.out; have bf1 := blk_frozen (j := 1) HGB5.out; have rf0 := blk_frozen (j := 0) HGR5.out; have rf1 := blk_frozen (j := 1) HGR5.out)
          refine bodyPost_ret (v := .agg #[.int .i64 (n : Int), .slice a5 (l.length + 1) c5]) (results_cell_row Try.results35 _ _ w.heap.size 27 #[.int .i64 (n : Int), .slice a5 (l.length + 1) c5] (0, 0) _ rfl (by repeat (first | (with_reducible exact HGR4.out) | (with_reducible exact HGR5.out) | (refine blk_putJ (cs := #[.int .i64 0, .slice none 0 0]) ?_ rfl) | (refine blk_putJ (cs := #[.int .i64 (n : Int), .slice none 0 0]) ?_ rfl) | (refine blk_other (by first | omega | (dsimp only; omega)) ?_))) Try.underlying27 rfl rfl) rfl ?_
          refine ⟨⟨(n : Int), l ++ [0]⟩, a5, c5, by simp, ⟨by show (0 : Int) ≤ n; omega, by show (n : Int) ≤ 17; omega, by show (l ++ [0]).length ≤ 17; simp; omega, HRR9.out⟩, ?_, ?_, ?_⟩
          · exact (HO5.out.kept (by repeat (first | (with_reducible exact Kept.refl) | (with_reducible apply Kept.drew) | (with_reducible apply Kept.drewN) | (refine Kept.put ?_ (by intro h; try dsimp only at h; omega))))).sub (fun y hy => ⟨by omega, Nat.lt_of_lt_of_le hy.2.2 (by first | (simp; done) | (simp; omega) | (simp [World.setCell]; omega))⟩)
          · exact HC5.out.keptJ (G := fun y => y ≤ C) (by repeat (first | (with_reducible exact Kept.refl) | (with_reducible apply Kept.drew) | (with_reducible apply Kept.drewN) | (refine Kept.put ?_ (by intro h; try dsimp only at h; omega)))) (fun y hy => hy)
          · repeat (first | (with_reducible exact HW5.out) | (with_reducible refine Writes.drewN ?_ _) | (refine Writes.put ?_ (by first | omega | (dsimp only; omega))))
        · have c1 : (x == 1) = false := beq_eq_false_iff_ne.2 h1
          by_cases h2 : x = 2
          · subst h2
            by_cases hn0 : 0 < n
            · obtain ⟨bb, off, rfl, hFb, hbl, hcs, hzs⟩ := own_at HO4.out 0 (by omega)
              have hFb1 : w.heap.size < bb := hFb.1
              have hFb2 : bb ≠ w2.heap.size := hFb.2.1
              have hrow := hcs 0 (by omega)
              have hrz := hzs (off + 0)
              have hl0 : 0 < l.length := by omega
              clear hFb hcs hzs hlen
              go_wp2_with fail
              refine wp_region_freeJ [([], .none, []), ([0], .none, []), ([], .none, []), ([], .none, []), ([2, 3], .none, []), ([1], .none, []), ([4, 5], .old, [])] [0, 1, 2, 3, 4, 5, 6] [6] (fun y => y = C) (fun wx => Cur B C a len cap wx) (fun jq9 => match jq9 with | 6 => bb | _ => 0) (fun jq9 V L H wx => match jq9 with | 0 => V 0 = .pointer (some ⟨w2.heap.size, 1, none⟩) | 1 => V 1 = .slice (some ⟨bb, off, none⟩) l.length rc | 2 => V 2 = .pointer (some ⟨C, 0, none⟩) | 3 => V 3 = .slice (some ⟨L, 0, none⟩) 3 3 ∧ L < H ∧ wx.heap[L]? = some (.cells #[.int .i64 (-1), .int .i64 65536, .int .i64 1099511627776] 3) | 4 => ∃ x4, V 4 = .int .i64 x4 ∧ okI x4 | 5 => V 5 = .pointer (some ⟨bb, off, none⟩) | 6 => (L < H ∧ wx.heap[L]? = (World.setCell w4 ⟨L, off, none⟩ (V 4)).heap[L]?) | _ => True) (by kernel_rfl) (by kernel_rfl) ?obs (fun y h => by have h1 : y = C := h; omega) HC4.out (fun wa wb _ hj hk => hj.keptJ hk (fun y hy => ⟨by omega, ⟨by show y ≠ bb; omega, trivial⟩⟩)) ?loc ?lasts ?walk
              case obs =>
                exact (And.intro (And.intro (show bb < w4.heap.size by omega) (show ¬ (bb = C) by omega)) (And.intro (trivial) (trivial)))
              case loc =>
                intro k V V' L H wx h0 h1 hG
                match k with
                | 0 =>
                  try dsimp only at hG ⊢
                  rw [← h0]
                  exact hG
                | 1 =>
                  try dsimp only at hG ⊢
                  rw [← h0]
                  exact hG
                | 2 =>
                  try dsimp only at hG ⊢
                  rw [← h0]
                  exact hG
                | 3 =>
                  try dsimp only at hG ⊢
                  rw [← h0]
                  exact hG
                | 4 =>
                  try dsimp only at hG ⊢
                  rw [← h0]
                  exact hG
                | 5 =>
                  try dsimp only at hG ⊢
                  rw [← h0]
                  exact hG
                | 6 =>
                  have e4 := h1 4 (by decide)
                  try dsimp only at hG ⊢
                  rw [← e4]
                  exact hG
                | n + 7 => trivial
              case lasts =>
                intro i hi V L H wx wy hB hH hk
                match i, hi with
                | 0, _ => exact fun h => h
                | 1, _ => exact fun h => h
                | 2, _ => exact fun h => h
                | 3, _ => exact fun ⟨hv, hl, hc⟩ => ⟨hv, hl, (hk.2 L (.inr ⟨Nat.le_refl _, hl⟩) (Nat.lt_of_lt_of_le hl hH)).trans hc⟩
                | 4, _ => exact fun ⟨x4, hv, ho0⟩ => ⟨x4, hv, ho0⟩
                | 5, _ => exact fun h => h
                | 6, _ => exact fun h => ⟨h.1, (hk.2 L (.inr ⟨Nat.le_refl _, h.1⟩) (Nat.lt_of_lt_of_le h.1 hH)).trans h.2⟩
                | n + 7, hn => exact absurd hn (by simp)
              case walk =>
                simp only [freeJ, effJ, Nat.reduceAdd, Act.put, List.setIfInBounds_toArray, List.set_cons_succ, List.set_cons_zero]
                refine ⟨?_, ?_, ?_, ?_, ?_, ?_, ?_, ?_⟩
                · intro V L H w1 hw hk hj hd
                  clear hd
                  go_wp2_with fail
                  exact freePost _ rfl ⟨⟨WritesF.refl _ _, hj⟩, upd_self⟩
                · intro V L H w1 hw hk hj hd
                  obtain ⟨⟨hL0, hM0, hH0, hv0⟩, -⟩ := hd
                  rw [hv0]
                  have HV0 := Lib.hid hv0
                  clear hv0
                  have hblk0 := (hk.2 w2.heap.size ⟨by omega, by omega, trivial⟩ (by omega)).trans HGB.out
                  have hc0 := blk_cell (j := 0) (v := .int .i64 (n : Int)) hblk0 rfl
                  have hc1 := blk_cell (j := 1) (v := .slice (some ⟨bb, off, none⟩) l.length rc) hblk0 rfl
                  clear hblk0
                  go_wp2_with fail
                  exact freePost _ rfl ⟨⟨WritesF.refl _ _, hj⟩, upd_self⟩
                · intro V L H w1 hw hk hj hd
                  clear hd
                  go_wp2_with fail
                  exact freePost _ rfl ⟨⟨WritesF.refl _ _, hj⟩, upd_self⟩
                · intro V L H w1 hw hk hj hd
                  clear hd
                  go_wp2_with fail
                  refine freePost _ rfl ⟨⟨(WritesF.refl _ _).later ((Below.refl _ _).alloc (Nat.le_refl _) _), (hj.later ((Below.refl _ _).alloc (Nat.le_refl _) _))⟩, upd_self, by simp, blk_new rfl⟩
                · intro V L H w1 hw hk hj hd
                  obtain ⟨⟨hL2, hM2, hH2, hv2⟩, ⟨hL3, hM3, hH3, hv3, hlt3, hc3⟩, -⟩ := hd
                  rw [hv2, hv3]
                  have HV2 := Lib.hid hv2
                  have HV3 := Lib.hid hv3
                  clear hv2 hv3
                  go_wp2_with fail
                  have hL3b : w4.heap.size ≤ L 3 := hL3
                  refine (pick_int _ hj (L 3) bentInts (by decide) (by decide) (by omega) (by omega) (fun j hj => ?_)).mono ?_
                  · match j, hj with
                    | 0, _ => exact blk_cell hc3 rfl
                    | 1, _ => exact blk_cell hc3 rfl
                    | 2, _ => exact blk_cell hc3 rfl
                  rintro e w2' ⟨j, hjl, rfl, hj2, hww⟩
                  have hbi := bentInts_in _ (getD_mem (d := 0) bentInts j hjl)
                  generalize bentInts.getD j 0 = y at hbi
                  have hw2 := hww.toF
                  clear hww
                  go_wp2_with fail
                  exact freePost _ rfl ⟨⟨hw2, hj2⟩, Exists.intro y (And.intro (upd_self) (hbi))⟩
                · intro V L H w1 hw hk hj hd
                  obtain ⟨⟨hL1, hM1, hH1, hv1⟩, -⟩ := hd
                  rw [hv1]
                  have HV1 := Lib.hid hv1
                  clear hv1
                  go_wp2_with fail
                  exact freePost _ rfl ⟨⟨WritesF.refl _ _, hj⟩, upd_self⟩
                · intro V L H w1 hw hk hj hd
                  obtain ⟨⟨hL4, hM4, hH4, x4, hv4, ho4_0⟩, ⟨hL5, hM5, hH5, hv5⟩, -⟩ := hd
                  rw [hv4, hv5]
                  have HV4 := Lib.hid hv4
                  have HV5 := Lib.hid hv5
                  clear hv4 hv5
                  have hbe : w1.heap[bb]? = w4.heap[bb]? := (hk.2 bb ⟨by omega, by omega, trivial⟩ (by omega))
                  have hc_0 := (World.cell?_of_block (a := ⟨bb, off, none⟩) hbe).trans hrow
                  have hf_0 := (World.frozen?_of_block (a := ⟨bb, off, none⟩) hbe).trans hrz
                  have HBE := Lib.hid hbe
                  clear hbe
                  go_wp2_with fail
                  exact freePost undef rfl ⟨Touches.put (L := bb) (H := bb + 1) Touches.refl (p := ⟨bb, off, none⟩) ⟨Nat.le_refl _, Nat.lt_succ_self _⟩ _, Nat.lt_succ_self _, by rw [upd_ne (by decide), HV4.out]; exact heap_set_same HBE.out⟩
                · intro V L H w1 hw hj hd hap hdead
                  obtain ⟨⟨hL0, hM0, hH0, hv0⟩, ⟨hL1, hM1, hH1, hv1⟩, ⟨hL2, hM2, hH2, hv2⟩, ⟨hL3, hM3, hH3, hv3, hlt3, hc3⟩, ⟨hL4, hM4, hH4, x4, hv4, ho4_0⟩, ⟨hL5, hM5, hH5, hv5⟩, ⟨hL6, hM6, hH6, hst6_⟩, -⟩ := hd
                  obtain ⟨pe6, pe6'⟩ : L 6 = bb ∧ H 6 = bb + 1 := hL6
                  obtain ⟨-, pb6⟩ := hst6_
                  rw [pe6, hv4] at pb6
                  rw [hv0, hv1, hv2, hv3, hv4, hv5]
                  clear hv0 hv1 hv2 hv3 hv4 hv5
                  have HJ := Lib.hid hj
                  have hz8 : w4.heap.size ≤ w1.heap.size := hw.size
                  have HGB5 := Lib.hid ((hw.block w2.heap.size (by omega) (fun h => h.elim (fun h => by have h1 : w2.heap.size = C := h; omega) (fun h => h ⟨(show w2.heap.size ≠ bb by omega), trivial⟩))).trans HGB.out)
                  have HGR5 := Lib.hid ((hw.block w.heap.size (by omega) (fun h => h.elim (fun h => by have h1 : w.heap.size = C := h; omega) (fun h => h ⟨(show w.heap.size ≠ bb by omega), trivial⟩))).trans HGR4.out)
                  have HW5 := Lib.hid (HW4.out.byF hw (fun y hy h => h.elim id (fun h => absurd ⟨(show y ≠ bb by omega), trivial⟩ h)))
                  have HO5 := Lib.hid ((own_set (off := off) HO4.out 0 hl0 x4).kept (w' := w1) ⟨by simp [World.setCell]; exact hw.size, fun y hy hlt => by
                    by_cases hyb : y = bb
                    · subst hyb; exact pb6
                    · refine (hw.block y (by simpa [World.setCell] using hlt) (fun h => h.elim (fun h => by have h1 : y = C := h; have := hy.1; omega) (fun h => h ⟨(show y ≠ bb by omega), trivial⟩))).trans ?_
                      exact (Below.heap_setCell _ _ _ _ (fun e => hyb e)).symm⟩)
                  have HRR9 := Lib.hid (show okL okI (l.set 0 x4) from ⟨by rw [List.length_set]; exact HRR.out.1, fun z hz => by
                    rcases List.mem_or_eq_of_mem_set hz with h | h
                    · exact HRR.out.2 z h
                    · rw [h]; exact ho4_0⟩)
                  clear hw hj hap hdead pb6 bc0 bc1 bf0 bf1 rc0 rc1 rf0 rf1
                  have bc0 := blk_cell (j := 0) (v := .int .i64 (n : Int)) HGB5.out rfl
                  have bc1 := blk_cell (j := 1) (v := .slice (some ⟨bb, off, none⟩) l.length rc) HGB5.out rfl
                  have rc0 := blk_cell (j := 0) (v := .int .i64 0) HGR5.out rfl
                  have rc1 := blk_cell (j := 1) (v := .slice none 0 0) HGR5.out rfl
                  have rf0 := blk_frozen (j := 0) HGR5.out
                  have rf1 := blk_frozen (j := 1) HGR5.out
                  go_wp2
                  refine bodyPost_ret (v := .agg #[.int .i64 (n : Int), .slice (some ⟨bb, off, none⟩) (List.length l) rc]) (results_cell_row Try.results35 _ _ w.heap.size 27 #[.int .i64 (n : Int), .slice (some ⟨bb, off, none⟩) (List.length l) rc] (0, 0) _ rfl (by repeat (first | (with_reducible exact HGR4.out) | (with_reducible exact HGR5.out) | (refine blk_putJ (cs := #[.int .i64 0, .slice none 0 0]) ?_ rfl) | (refine blk_putJ (cs := #[.int .i64 (n : Int), .slice none 0 0]) ?_ rfl) | (refine blk_other (by first | omega | (dsimp only; omega)) ?_))) Try.underlying27 rfl rfl) rfl ?_
                  refine ⟨⟨(n : Int), l.set 0 x4⟩, some ⟨bb, off, none⟩, rc, by simp, ⟨by show (0 : Int) ≤ n; omega, by show (n : Int) ≤ 17; omega, by show (l.set 0 x4).length ≤ 17; rw [List.length_set]; have := hL.out; omega, HRR9.out⟩, ?_, ?_, ?_⟩
                  · exact (HO5.out.kept (by repeat (first | (with_reducible exact Kept.refl) | (with_reducible apply Kept.drew) | (with_reducible apply Kept.drewN) | (refine Kept.put ?_ (by intro h; try dsimp only at h; omega))))).sub (fun y hy => ⟨by omega, Nat.lt_of_lt_of_le hy.2.2 (Nat.le_trans hz8 (by first | (simp; done) | (simp; omega) | (simp [World.setCell]; omega)))⟩)
                  · exact HJ.out.keptJ (G := fun y => y ≤ C) (by repeat (first | (with_reducible exact Kept.refl) | (with_reducible apply Kept.drew) | (with_reducible apply Kept.drewN) | (refine Kept.put ?_ (by intro h; try dsimp only at h; omega)))) (fun y hy => hy)
                  · repeat (first | (with_reducible exact HW5.out) | (with_reducible refine Writes.drewN ?_ _) | (refine Writes.put ?_ (by first | omega | (dsimp only; omega))))
            · clear hlen
              go_wp2
              refine bodyPost_ret (v := .agg #[.int .i64 (n : Int), .slice ra (List.length l) rc]) (results_cell_row Try.results35 _ _ w.heap.size 27 #[.int .i64 (n : Int), .slice ra (List.length l) rc] (0, 0) _ rfl (by repeat (first | (with_reducible exact HGR4.out) | (with_reducible exact HGR5.out) | (refine blk_putJ (cs := #[.int .i64 0, .slice none 0 0]) ?_ rfl) | (refine blk_putJ (cs := #[.int .i64 (n : Int), .slice none 0 0]) ?_ rfl) | (refine blk_other (by first | omega | (dsimp only; omega)) ?_))) Try.underlying27 rfl rfl) rfl ?_
              refine ⟨⟨(n : Int), l⟩, ra, rc, rfl, ⟨by show (0 : Int) ≤ n; omega, by show (n : Int) ≤ 17; omega, by show l.length ≤ 17; have := hL.out; omega, HRR.out⟩, ?_, ?_, ?_⟩
              · exact (HO4.out.kept (by repeat (first | (with_reducible exact Kept.refl) | (with_reducible apply Kept.drew) | (with_reducible apply Kept.drewN) | (refine Kept.put ?_ (by intro h; try dsimp only at h; omega))))).sub (fun y hy => ⟨by omega, Nat.lt_of_lt_of_le hy.2.2 (by first | (simp; done) | (simp; omega) | (simp [World.setCell]; omega))⟩)
              · exact HC4.out.keptJ (G := fun y => y ≤ C) (by repeat (first | (with_reducible exact Kept.refl) | (with_reducible apply Kept.drew) | (with_reducible apply Kept.drewN) | (refine Kept.put ?_ (by intro h; try dsimp only at h; omega)))) (fun y hy => hy)
              · repeat (first | (with_reducible exact HW4.out) | (with_reducible refine Writes.drewN ?_ _) | (refine Writes.put ?_ (by first | omega | (dsimp only; omega))))
          · have c2 : (x == 2) = false := beq_eq_false_iff_ne.2 h2
            clear hlen
            go_wp2
            refine bodyPost_ret (v := .agg #[.int .i64 (n : Int), .slice ra (List.length l) rc]) (results_cell_row Try.results35 _ _ w.heap.size 27 #[.int .i64 (n : Int), .slice ra (List.length l) rc] (0, 0) _ rfl (by repeat (first | (with_reducible exact HGR4.out) | (with_reducible exact HGR5.out) | (refine blk_putJ (cs := #[.int .i64 0, .slice none 0 0]) ?_ rfl) | (refine blk_putJ (cs := #[.int .i64 (n : Int), .slice none 0 0]) ?_ rfl) | (refine blk_other (by first | omega | (dsimp only; omega)) ?_))) Try.underlying27 rfl rfl) rfl ?_
            refine ⟨⟨(n : Int), l⟩, ra, rc, rfl, ⟨by show (0 : Int) ≤ n; omega, by show (n : Int) ≤ 17; omega, by show l.length ≤ 17; have := hL.out; omega, HRR.out⟩, ?_, ?_, ?_⟩
            · exact (HO4.out.kept (by repeat (first | (with_reducible exact Kept.refl) | (with_reducible apply Kept.drew) | (with_reducible apply Kept.drewN) | (refine Kept.put ?_ (by intro h; try dsimp only at h; omega))))).sub (fun y hy => ⟨by omega, Nat.lt_of_lt_of_le hy.2.2 (by first | (simp; done) | (simp; omega) | (simp [World.setCell]; omega))⟩)
            · exact HC4.out.keptJ (G := fun y => y ≤ C) (by repeat (first | (with_reducible exact Kept.refl) | (with_reducible apply Kept.drew) | (with_reducible apply Kept.drewN) | (refine Kept.put ?_ (by intro h; try dsimp only at h; omega)))) (fun y hy => hy)
            · repeat (first | (with_reducible exact HW4.out) | (with_reducible refine Writes.drewN ?_ _) | (refine Writes.put ?_ (by first | omega | (dsimp only; omega))))
end Go.Proofs.Ytkfonlejblcknaa
