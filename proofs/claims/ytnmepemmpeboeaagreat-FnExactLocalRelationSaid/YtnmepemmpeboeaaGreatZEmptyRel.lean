/-
  EmptyRelation, in the model and in the program.
-/
import Derived.Test.YtnmepemmpeboeaaGreatZz13
import Derived.Test.YtnmepemmpeboeaaGreatZz8
namespace Go.Proofs.YtnmepemmpeboeaaGreat
open Go.ChangeShapes Go.WideShapes Go.ChangeAt Go.RowKit Go.Deep

def emptyRel (n : Int) : DRelation := if 0 ≤ n ∧ n ≤ 16 then ⟨n, List.replicate n.toNat 0⟩ else ⟨0, []⟩
theorem emptyRel_nat {n : Nat} (h : n ≤ 16) : emptyRel n = ⟨n, List.replicate n 0⟩ := by unfold emptyRel; rw [if_pos (by omega), Int.toNat_natCast]
theorem emptyRel_no {n : Int} (h : ¬ (0 ≤ n ∧ n ≤ 16)) : emptyRel n = ⟨0, []⟩ := by unfold emptyRel; rw [if_neg h]
theorem emptyRel_len (n : Int) : (emptyRel n).fRows.length ≤ 16 := by
  unfold emptyRel
  split <;> simp <;> omega
/-- A relation that a call has made. -/
def RelOut (r : DRelation) (w : World) (e : Ending) (w' : World) : Prop :=
  ∃ (a : Option Addr) (c : Nat), e = .returned (.agg #[.int .i64 r.fN, .slice a r.fRows.length c]) ∧ Own w' (fun y => w.heap.size ≤ y ∧ y < w'.heap.size) (.sl 1 r.fRows.length (fun k => ictI (r.fRows.getD k default))) (.slice a r.fRows.length c) ∧ Below w.heap.size w w'
theorem made_ints {n k : Nat} (h : k < n) : (madeCells (Value.cells (.int .i64 0)) (n * 1)).toList.getD k .nilFunc = .int .i64 0 := by
  unfold madeCells
  simp [Value.cells, List.getD, h, Nat.mod_one]
theorem rep_get {n k : Nat} (h : k < n) : (List.replicate n (0 : Int)).getD k default = 0 := by
  rw [List.getD_eq_getElem?_getD, List.getElem?_replicate, if_pos h]; rfl
theorem made_own {w : World} {B n : Nat} {e : TypeId} (h : w.ownsRow B e 1 (.slice (some ⟨B, 0, none⟩) n n) n (madeCells (Value.cells (.int .i64 0)) (n * 1)).toList) :
    Own w (fun y => B ≤ y ∧ y < w.heap.size) (.sl 1 n (fun k => ictI ((List.replicate n (0 : Int)).getD k default))) (.slice (some ⟨B, 0, none⟩) n n) := by
  have hblk := ownsRow_block h
  refine ints_own ⟨Nat.le_refl _, hblk.1⟩ hblk.1 (fun k hk => ⟨.int .i64 0, ?_, ?_⟩) hblk.2.2.2
  · show Ct.lit _ = _
    rw [rep_get hk]
  · rw [Nat.zero_add, hblk.2.2.1 k (by omega), made_ints hk]
set_option maxHeartbeats 1600000 in
set_option maxRecDepth 100000 in
theorem spec_EmptyRelation (n : Int) (hn : okI n) (w : World) : Calls Tryz.prog 23 #[.int .i64 n] w (RelOut (emptyRel n) w) := by
  have hn1 : -9223372036854775808 ≤ n ∧ n ≤ 9223372036854775807 := hn
  clear hn
  have HZ := Lib.hid (fun w => spec_l1In n 0 16 w)
  by_cases h : 0 ≤ n ∧ n ≤ 16
  · obtain ⟨n, rfl⟩ : ∃ m : Nat, n = m := ⟨n.toNat, by omega⟩
    have hn16 : n ≤ 16 := by omega
    rw [inR_yes (by omega) (by omega)] at HZ
    rw [emptyRel_nat hn16]
    clear h hn1
    obtain ⟨i0, hi', hz0, hz1, hz2⟩ := info_parts info_Int
    have HB := Lib.hid ((Below.refl w.heap.size w).alloc (Nat.le_refl _) (.cells #[.int .i64 0, .slice none 0 0] 35))
    have HG := Lib.hid (show (w.alloc (.cells #[.int .i64 0, .slice none 0 0] 35)).heap[w.heap.size]? = some (.cells #[.int .i64 0, .slice none 0 0] 35) from blk_new rfl)
    have HSZ := Lib.hid (show w.heap.size < (w.alloc (.cells #[.int .i64 0, .slice none 0 0] 35)).heap.size by simp)
    have HC0 := Lib.hid (show (w.alloc (.cells #[.int .i64 0, .slice none 0 0] 35)).cell? ⟨w.heap.size, 0, none⟩ = some (.int .i64 0) by rw [World.cell?_alloc_new]; rfl)
    have HC1 := Lib.hid (show (w.alloc (.cells #[.int .i64 0, .slice none 0 0] 35)).cell? ⟨w.heap.size, 1, none⟩ = some (.slice none 0 0) by rw [World.cell?_alloc_new]; rfl)
    have HF0 := Lib.hid (show (w.alloc (.cells #[.int .i64 0, .slice none 0 0] 35)).frozen? ⟨w.heap.size, 0, none⟩ = false by go_simp)
    have HF1 := Lib.hid (show (w.alloc (.cells #[.int .i64 0, .slice none 0 0] 35)).frozen? ⟨w.heap.size, 1, none⟩ = false by go_simp)
    go_enter Tryz.func23, Tryz.ntmps23
    go_wp2_with fail
    refine (HZ.out _).mono ?_
    rintro e w' ⟨rfl, rfl⟩
    go_wp2_with (at_make; refine wpList_make_full _ rfl (.tmp 8) (.tmp 8) 33 rfl (w.alloc (.cells #[.int .i64 0, .slice none 0 0] 35)).heap.size 3 i0 (.int .i64 0) 1 Tryz.underlying33 hi' hz0 hz1 .i64 .i64 (n : Int) (n : Int) n rfl rfl rfl rfl (by rw [hz2]; omega) (by unfold maxLen; omega) (Nat.le_refl _) ?_; intro w1 hown hgrow; have hb1 : Below (w.alloc (.cells #[.int .i64 0, .slice none 0 0] 35)).heap.size (w.alloc (.cells #[.int .i64 0, .slice none 0 0] 35)) w1 := (Below.refl _ _).grown hgrow (Nat.le_refl _) (fun k hk => by cases hk); have hmo := made_own hown; rw [show (w.alloc (.cells #[.int .i64 0, .slice none 0 0] 35)).heap.size = w.heap.size + 1 by simp] at hmo; have HO := Lib.hid hmo; clear hown hgrow hmo; have x0 := (hb1.cell (p := ⟨w.heap.size, 0, none⟩) HSZ.out).trans HC0.out; have x1 := (hb1.cell (p := ⟨w.heap.size, 1, none⟩) HSZ.out).trans HC1.out; have z0 := (hb1.frozen (p := ⟨w.heap.size, 0, none⟩) HSZ.out).trans HF0.out; have z1 := (hb1.frozen (p := ⟨w.heap.size, 1, none⟩) HSZ.out).trans HF1.out; have HG1 := Lib.hid ((hb1.block _ HSZ.out).trans HG.out); have HB1 := Lib.hid (HB.out.trans (hb1.mono HB.out.size)); have hsz := Nat.lt_of_lt_of_le HSZ.out hb1.size; clear hb1)
    refine bodyPost_ret (v := .agg #[.int .i64 (n : Int), .slice (some ⟨w.heap.size + 1, 0, none⟩) n n]) (results_cell_row Tryz.results23 _ _ w.heap.size 35 #[.int .i64 (n : Int), .slice (some ⟨w.heap.size + 1, 0, none⟩) n n] (0, 0) _ rfl (by refine Eq.trans (blk_set (cs := #[.int .i64 (n : Int), .slice none 0 0]) (t := 35) (fr := (0, 0)) ?_) rfl; refine Eq.trans (blk_set (cs := #[.int .i64 0, .slice none 0 0]) (t := 35) (fr := (0, 0)) ?_) rfl; exact HG1.out) Tryz.underlying35 rfl rfl) rfl ?_
    refine ⟨some ⟨w.heap.size + 1, 0, none⟩, n, by simp, ?_, ?_⟩
    · rw [List.length_replicate]
      refine Own.sub (F := fun y => w.heap.size + 1 ≤ y ∧ y < w1.heap.size) (HO.out.kept (Kept.put (Kept.put Kept.refl ?_) ?_)) (fun y hy => ⟨Nat.le_trans (Nat.le_succ _) hy.1, Nat.lt_of_lt_of_le hy.2 (by simp)⟩)
      · intro h; exact absurd h.1 (Nat.not_succ_le_self _)
      · intro h; exact absurd h.1 (Nat.not_succ_le_self _)
    · exact (HB1.out.setCell (p := ⟨w.heap.size, 0, none⟩) (Nat.le_refl _) _).setCell (p := ⟨w.heap.size, 1, none⟩) (Nat.le_refl _) _
  · rw [inR_no (by omega)] at HZ
    rw [emptyRel_no h]
    clear h
    go_enter Tryz.func23, Tryz.ntmps23
    go_wp2_with fail
    refine (HZ.out _).mono ?_
    rintro e w' ⟨rfl, rfl⟩
    go_wp2
    refine bodyPost_ret (v := .agg #[.int .i64 0, .slice none 0 0]) (by simp [results, Tryz.results23, go_sem]) rfl ⟨none, 0, rfl, .nil _ _ _ _ _, by
      repeat (first | (with_reducible exact Below.refl _ _) | (refine Below.setCell ?_ (by simp <;> omega) _) | (refine Below.alloc ?_ (by simp <;> omega) _))⟩

set_option maxHeartbeats 1600000 in
set_option maxRecDepth 100000 in
theorem impl_EmptyRelation (n : Int) (hn : okI n) (w : World) : Calls Tryz.prog 34 #[.int .i64 n] w (RelOut (emptyRel n) w) := by
  have hn1 : -9223372036854775808 ≤ n ∧ n ≤ 9223372036854775807 := hn
  clear hn
  have HZ := Lib.hid (fun w => impl_isRelationSize n w)
  by_cases h : 0 ≤ n ∧ n ≤ 16
  · obtain ⟨n, rfl⟩ : ∃ m : Nat, n = m := ⟨n.toNat, by omega⟩
    have hn16 : n ≤ 16 := by omega
    rw [inR_yes (by omega) (by omega)] at HZ
    rw [emptyRel_nat hn16]
    clear h hn1
    obtain ⟨i0, hi', hz0, hz1, hz2⟩ := info_parts info_Int
    have HB := Lib.hid ((Below.refl w.heap.size w).alloc (Nat.le_refl _) (.cells #[.int .i64 0, .slice none 0 0] 35))
    have HG := Lib.hid (show (w.alloc (.cells #[.int .i64 0, .slice none 0 0] 35)).heap[w.heap.size]? = some (.cells #[.int .i64 0, .slice none 0 0] 35) from blk_new rfl)
    have HSZ := Lib.hid (show w.heap.size < (w.alloc (.cells #[.int .i64 0, .slice none 0 0] 35)).heap.size by simp)
    have HC0 := Lib.hid (show (w.alloc (.cells #[.int .i64 0, .slice none 0 0] 35)).cell? ⟨w.heap.size, 0, none⟩ = some (.int .i64 0) by rw [World.cell?_alloc_new]; rfl)
    have HC1 := Lib.hid (show (w.alloc (.cells #[.int .i64 0, .slice none 0 0] 35)).cell? ⟨w.heap.size, 1, none⟩ = some (.slice none 0 0) by rw [World.cell?_alloc_new]; rfl)
    have HF0 := Lib.hid (show (w.alloc (.cells #[.int .i64 0, .slice none 0 0] 35)).frozen? ⟨w.heap.size, 0, none⟩ = false by go_simp)
    have HF1 := Lib.hid (show (w.alloc (.cells #[.int .i64 0, .slice none 0 0] 35)).frozen? ⟨w.heap.size, 1, none⟩ = false by go_simp)
    go_enter Tryz.func34, Tryz.ntmps34
    go_wp2_with fail
    refine (HZ.out _).mono ?_
    rintro e w' ⟨rfl, rfl⟩
    go_wp2_with (at_make; refine wpList_make_full _ rfl (.tmp 8) (.tmp 8) 33 rfl (w.alloc (.cells #[.int .i64 0, .slice none 0 0] 35)).heap.size 3 i0 (.int .i64 0) 1 Tryz.underlying33 hi' hz0 hz1 .i64 .i64 (n : Int) (n : Int) n rfl rfl rfl rfl (by rw [hz2]; omega) (by unfold maxLen; omega) (Nat.le_refl _) ?_; intro w1 hown hgrow; have hb1 : Below (w.alloc (.cells #[.int .i64 0, .slice none 0 0] 35)).heap.size (w.alloc (.cells #[.int .i64 0, .slice none 0 0] 35)) w1 := (Below.refl _ _).grown hgrow (Nat.le_refl _) (fun k hk => by cases hk); have hmo := made_own hown; rw [show (w.alloc (.cells #[.int .i64 0, .slice none 0 0] 35)).heap.size = w.heap.size + 1 by simp] at hmo; have HO := Lib.hid hmo; clear hown hgrow hmo; have x0 := (hb1.cell (p := ⟨w.heap.size, 0, none⟩) HSZ.out).trans HC0.out; have x1 := (hb1.cell (p := ⟨w.heap.size, 1, none⟩) HSZ.out).trans HC1.out; have z0 := (hb1.frozen (p := ⟨w.heap.size, 0, none⟩) HSZ.out).trans HF0.out; have z1 := (hb1.frozen (p := ⟨w.heap.size, 1, none⟩) HSZ.out).trans HF1.out; have HG1 := Lib.hid ((hb1.block _ HSZ.out).trans HG.out); have HB1 := Lib.hid (HB.out.trans (hb1.mono HB.out.size)); have hsz := Nat.lt_of_lt_of_le HSZ.out hb1.size; clear hb1)
    refine bodyPost_ret (v := .agg #[.int .i64 (n : Int), .slice (some ⟨w.heap.size + 1, 0, none⟩) n n]) (results_cell_row Tryz.results34 _ _ w.heap.size 35 #[.int .i64 (n : Int), .slice (some ⟨w.heap.size + 1, 0, none⟩) n n] (0, 0) _ rfl (by refine Eq.trans (blk_set (cs := #[.int .i64 (n : Int), .slice none 0 0]) (t := 35) (fr := (0, 0)) ?_) rfl; refine Eq.trans (blk_set (cs := #[.int .i64 0, .slice none 0 0]) (t := 35) (fr := (0, 0)) ?_) rfl; exact HG1.out) Tryz.underlying35 rfl rfl) rfl ?_
    refine ⟨some ⟨w.heap.size + 1, 0, none⟩, n, by simp, ?_, ?_⟩
    · rw [List.length_replicate]
      refine Own.sub (F := fun y => w.heap.size + 1 ≤ y ∧ y < w1.heap.size) (HO.out.kept (Kept.put (Kept.put Kept.refl ?_) ?_)) (fun y hy => ⟨Nat.le_trans (Nat.le_succ _) hy.1, Nat.lt_of_lt_of_le hy.2 (by simp)⟩)
      · intro h; exact absurd h.1 (Nat.not_succ_le_self _)
      · intro h; exact absurd h.1 (Nat.not_succ_le_self _)
    · exact (HB1.out.setCell (p := ⟨w.heap.size, 0, none⟩) (Nat.le_refl _) _).setCell (p := ⟨w.heap.size, 1, none⟩) (Nat.le_refl _) _
  · rw [inR_no (by omega)] at HZ
    rw [emptyRel_no h]
    clear h
    go_enter Tryz.func34, Tryz.ntmps34
    go_wp2_with fail
    refine (HZ.out _).mono ?_
    rintro e w' ⟨rfl, rfl⟩
    go_wp2
    refine bodyPost_ret (v := .agg #[.int .i64 0, .slice none 0 0]) (by simp [results, Tryz.results34, go_sem]) rfl ⟨none, 0, rfl, .nil _ _ _ _ _, by
      repeat (first | (with_reducible exact Below.refl _ _) | (refine Below.setCell ?_ (by simp <;> omega) _) | (refine Below.alloc ?_ (by simp <;> omega) _))⟩
end Go.Proofs.YtnmepemmpeboeaaGreat
