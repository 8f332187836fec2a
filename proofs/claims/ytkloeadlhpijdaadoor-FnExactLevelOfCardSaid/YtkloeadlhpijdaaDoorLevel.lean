/-
  LevelOf, in the model and in the program.
-/
import Derived.Test.YtkloeadlhpijdaaDoorGrow
import Derived.Test.YtkloeadlhpijdaaDoorInR
namespace Go.Proofs.YtkloeadlhpijdaaDoor
open Go.ChangeShapes Go.WideShapes Go.ChangeAt Go.RowKit Go.Deep

theorem ret_lv {a b : Int} (h : a = b) : Ending.returned (.int .i64 a) = .returned (.int .i64 b) := by rw [h]
theorem lv_cell {w : World} {g j : Nat} {v : Value} {cs : Array Value} {t : TypeId} {fr : Nat × Nat} (h : w.heap[g]? = some (.cells cs t fr)) (hj : cs[j]? = some v) : w.cell? ⟨g, j, none⟩ = some v := by
  simp only [World.cell?, h]
  exact hj
theorem lv_frozen {w : World} {g j : Nat} {cs : Array Value} {t : TypeId} (h : w.heap[g]? = some (.cells cs t (0, 0))) : w.frozen? ⟨g, j, none⟩ = false := by
  simp only [World.frozen?, h]
  simp
def notCells : Array Value := #[.int .i64 9, .int .i64 1, .string ⟨#[60]⟩, .int .i64 10, .int .i64 1, .string ⟨#[61, 61]⟩, .int .i64 1, .int .i64 2, .string ⟨#[43]⟩, .int .i64 2, .int .i64 2, .string ⟨#[45]⟩, .int .i64 6, .int .i64 2, .string ⟨#[124]⟩, .int .i64 8, .int .i64 2, .string ⟨#[92]⟩, .int .i64 3, .int .i64 3, .string ⟨#[42]⟩, .int .i64 7, .int .i64 3, .string ⟨#[38]⟩, .int .i64 4, .int .i64 4, .string ⟨#[109, 97, 120]⟩, .int .i64 5, .int .i64 4, .string ⟨#[109, 105, 110]⟩, .int .i64 11, .int .i64 4, .string ⟨#[104, 97, 115]⟩, .int .i64 12, .int .i64 4, .string ⟨#[119, 105, 116, 104]⟩]
theorem notCells_eq : notCells = #[.int .i64 9, .int .i64 1, .string ⟨#[60]⟩, .int .i64 10, .int .i64 1, .string ⟨#[61, 61]⟩, .int .i64 1, .int .i64 2, .string ⟨#[43]⟩, .int .i64 2, .int .i64 2, .string ⟨#[45]⟩, .int .i64 6, .int .i64 2, .string ⟨#[124]⟩, .int .i64 8, .int .i64 2, .string ⟨#[92]⟩, .int .i64 3, .int .i64 3, .string ⟨#[42]⟩, .int .i64 7, .int .i64 3, .string ⟨#[38]⟩, .int .i64 4, .int .i64 4, .string ⟨#[109, 97, 120]⟩, .int .i64 5, .int .i64 4, .string ⟨#[109, 105, 110]⟩, .int .i64 11, .int .i64 4, .string ⟨#[104, 97, 115]⟩, .int .i64 12, .int .i64 4, .string ⟨#[119, 105, 116, 104]⟩] := rfl
theorem notCells_size : notCells.size = 36 := rfl
/-- The table of the notations as its initialiser lays it. -/
def Nots (W : World) : Prop := ∃ t fr, W.heap[0]? = some (.cells notCells t fr)
theorem Nots.below {W W' : World} (h : Nots W) (hb : Below W.heap.size W W') : Nots W' := by
  obtain ⟨t, fr, h⟩ := h
  have hlt : 0 < W.heap.size := by
    obtain ⟨h1, _⟩ := Array.getElem?_eq_some_iff.1 h
    exact h1
  exact ⟨t, fr, (hb.block _ hlt).trans h⟩
def opsN : List Int := [9, 10, 1, 2, 6, 8, 3, 7, 4, 5, 11, 12]
def levN : List Int := [1, 1, 2, 2, 2, 2, 3, 3, 4, 4, 4, 4]
/-- The level of an operator. -/
def levelN (n : Int) : Int := if n = 9 ∨ n = 10 then 1 else if n = 1 ∨ n = 2 ∨ n = 6 ∨ n = 8 then 2 else if n = 3 ∨ n = 7 then 3 else 4
def levelE (k n : Int) : Int := if k = 5 then 0 else if k = 4 then levelN n else 4
theorem levelE_5 (n : Int) : levelE 5 n = 0 := by unfold levelE; rw [if_pos rfl]
theorem levelE_4 (n : Int) : levelE 4 n = levelN n := by unfold levelE; rw [if_neg (by decide), if_pos rfl]
theorem levelE_no {k : Int} (h5 : ¬ k = 5) (h4 : ¬ k = 4) (n : Int) : levelE k n = 4 := by unfold levelE; rw [if_neg h5, if_neg h4]
theorem levelN_at : ∀ j, j < 12 → levelN (opsN.getD j 0) = levN.getD j 0 := by decide
theorem levelN_none {n : Int} (h : ∀ j, j < 12 → ¬ opsN.getD j 0 = n) : levelN n = 4 := by
  have g := fun j hj => h j hj
  have g0 := g 0 (by decide); have g1 := g 1 (by decide); have g2 := g 2 (by decide); have g3 := g 3 (by decide); have g4 := g 4 (by decide); have g5 := g 5 (by decide); have g6 := g 6 (by decide); have g7 := g 7 (by decide)
  simp only [opsN, List.getD_cons_zero, List.getD_cons_succ] at g0 g1 g2 g3 g4 g5 g6 g7
  unfold levelN
  rw [if_neg (by omega), if_neg (by omega), if_neg (by omega)]

set_option maxHeartbeats 3200000 in
set_option maxRecDepth 100000 in
theorem spec_LevelOf (k n p t : Int) (s1 s2 : ByteArray) (a6 : Option Addr) (m c6 : Nat) (h0 : -9223372036854775808 ≤ n ∧ n ≤ 9223372036854775807) (w : World) :
    Calls Tryd.prog 11 #[.agg #[.int .i64 k, .int .i64 n, .int .i64 p, .int .i64 t, .string s1, .string s2, .slice a6 m c6]] w fun e w' => e = .returned (.int .i64 (levelE k n)) ∧ Below w.heap.size w w' := by
  have HB := Lib.hid ((Below.refl w.heap.size w).alloc (Nat.le_refl _) (.cells #[.int .i64 k, .int .i64 n, .int .i64 p, .int .i64 t, .string s1, .string s2, .slice a6 m c6] 36))
  rcases (by omega : k = 5 ∨ k = 4 ∨ (¬ k = 5 ∧ ¬ k = 4)) with rfl | rfl | ⟨k5, k4⟩
  · have fin := Lib.hid (levelE_5 n)
    go_enter Tryd.func11, Tryd.ntmps11
    go_wp2
    go_ret
    exact ⟨ret_lv fin.out.symm, HB.out⟩
  · have fin := Lib.hid (levelE_4 n)
    rcases (by omega : n = 9 ∨ n = 10 ∨ n = 1 ∨ n = 2 ∨ n = 6 ∨ n = 8 ∨ n = 3 ∨ n = 7 ∨ (¬ n = 9 ∧ ¬ n = 10 ∧ ¬ n = 1 ∧ ¬ n = 2 ∧ ¬ n = 6 ∧ ¬ n = 8 ∧ ¬ n = 3 ∧ ¬ n = 7)) with rfl | rfl | rfl | rfl | rfl | rfl | rfl | rfl | ⟨n9, n10, n1, n2, n6, n8, n3, n7⟩
    iterate 8
      · rw [show levelE 4 _ = _ from fin.out]
        clear fin
        go_enter Tryd.func11, Tryd.ntmps11
        go_wp2
        go_ret
        exact ⟨rfl, HB.out⟩
    · have fin2 := Lib.hid (show levelE 4 n = 4 by rw [fin.out]; unfold levelN; rw [if_neg (by omega), if_neg (by omega), if_neg (by omega)])
      clear fin
      go_enter Tryd.func11, Tryd.ntmps11
      go_wp2
      go_ret
      exact ⟨ret_lv fin2.out.symm, HB.out⟩
  · have fin := Lib.hid (levelE_no k5 k4 n)
    go_enter Tryd.func11, Tryd.ntmps11
    go_wp2
    go_ret
    exact ⟨ret_lv fin.out.symm, HB.out⟩

set_option maxHeartbeats 3200000 in
set_option maxRecDepth 100000 in
theorem impl_notationOf (n : Int) (w : World) (hT : Nots w) :
    Calls Tryd.prog 24 #[.int .i64 n] w fun e w' => ∃ o lv s b, e = .returned (.tuple #[.agg #[.int .i64 o, .int .i64 lv, .string s], .bool b]) ∧ (b = true → levelN n = lv) ∧ (b = false → levelN n = 4) ∧ Below w.heap.size w w' := by
  have HT := Lib.hid hT
  have HE := Lib.hid (show Below w.heap.size w (w.alloc (.cells #[.int .i64 0, .int .i64 0, .string ⟨#[]⟩] 53)) from (Below.refl _ w).alloc (Nat.le_refl _) _)
  have HG := Lib.hid (show (w.alloc (.cells #[.int .i64 0, .int .i64 0, .string ⟨#[]⟩] 53)).heap[w.heap.size]? = some (.cells #[.int .i64 0, .int .i64 0, .string ⟨#[]⟩] 53) from blk_new rfl)
  obtain ⟨tt, fr, hg1⟩ := HT.out.below HE.out
  clear hT
  go_enter Tryd.func24, Tryd.ntmps24
  go_wp2_with (refine wpList_load_row rfl 58 _ rfl 0 rfl tt notCells fr _ hg1 Tryd.underlying58 rfl (by kernel_rfl) ?_)
  go_loopw [7] (fun i wr => ∃ j : Nat, j ≤ 12 ∧ i = .int .i64 (j : Int) ∧ (∀ q, q < j → ¬ opsN.getD q 0 = n) ∧ Below (w.heap.size + 1) (w.alloc (.cells #[.int .i64 0, .int .i64 0, .string ⟨#[]⟩] 53)) wr) (fun i _ => 12 - (intOf i).toNat)
  case atStart => exact ⟨0, Nat.zero_le _, rfl, fun q hq => absurd hq (Nat.not_lt_zero _), Below.refl _ _⟩
  case round =>
    obtain ⟨j, hj, rfl, hall, hbl⟩ := hrel
    have HALL := Lib.hid hall
    have HBL := Lib.hid (HE.out.trans (hbl.mono (Nat.le_succ _)))
    have hz : w.heap.size < wr.heap.size := Nat.lt_of_lt_of_le (by simp) hbl.size
    have HGR := Lib.hid ((hbl.block _ (Nat.lt_succ_self _)).trans HG.out)
    have g0 := lv_cell (j := 0) (v := .int .i64 0) HGR.out rfl
    have g1 := lv_cell (j := 1) (v := .int .i64 0) HGR.out rfl
    have g2 := lv_cell (j := 2) (v := .string ⟨#[]⟩) HGR.out rfl
    have f0 := lv_frozen (j := 0) HGR.out
    have f1 := lv_frozen (j := 1) HGR.out
    have f2 := lv_frozen (j := 2) HGR.out
    have HBL2 := Lib.hid hbl
    clear hall hbl
    by_cases hlt : j < 12
    · rcases (by omega : j = 0 ∨ j = 1 ∨ j = 2 ∨ j = 3 ∨ j = 4 ∨ j = 5 ∨ j = 6 ∨ j = 7 ∨ j = 8 ∨ j = 9 ∨ j = 10 ∨ j = 11) with rfl | rfl | rfl | rfl | rfl | rfl | rfl | rfl | rfl | rfl | rfl | rfl
      · have i0 : ∀ w, (Instr.index 58 (.agg notCells) (.int .i64 0)).run Tryd.prog w = .ok (.agg #[.int .i64 9, .int .i64 1, .string ⟨#[60]⟩]) w := fun _ => by kernel_rfl
        have i1 : ∀ w, (Instr.index 58 (.agg notCells) (.int .i64 ((0 : Nat) : Int))).run Tryd.prog w = .ok (.agg #[.int .i64 9, .int .i64 1, .string ⟨#[60]⟩]) w := fun _ => by kernel_rfl
        by_cases he : (9 : Int) = n
        · subst he
          go_wp2
          refine bodyPost_ret (v := .tuple #[.agg #[.int .i64 9, .int .i64 1, .string ⟨#[60]⟩], .bool true]) (results_cell_tmp Tryd.results24 _ _ w.heap.size 53 #[.int .i64 9, .int .i64 1, .string ⟨#[60]⟩] (0, 0) _ rfl (by (repeat (with_reducible refine blk_alloc (by simp [World.setCell]; omega) ?_)); refine Eq.trans (blk_set (cs := #[.int .i64 9, .int .i64 1, .string ⟨#[]⟩]) (t := 53) (fr := (0, 0)) ?_) rfl; refine Eq.trans (blk_set (cs := #[.int .i64 9, .int .i64 0, .string ⟨#[]⟩]) (t := 53) (fr := (0, 0)) ?_) rfl; refine Eq.trans (blk_set (cs := #[.int .i64 0, .int .i64 0, .string ⟨#[]⟩]) (t := 53) (fr := (0, 0)) ?_) rfl; (repeat (with_reducible refine blk_alloc (by simp [World.setCell]; omega) ?_)); exact HGR.out) Tryd.underlying53 rfl rfl) rfl ⟨9, 1, ⟨#[60]⟩, true, rfl, fun _ => (by decide), fun h => (by cases h), ?_⟩
          repeat (first | (with_reducible exact HBL.out) | (refine Below.setCell ?_ (by simp <;> omega) _) | (refine Below.alloc ?_ (by simp <;> omega) _))
        · go_wp2
          go_roundw
          case rel => exact ⟨0 + 1, by decide, rfl, fun q hq => (by rcases (by omega : q < 0 ∨ q = 0) with h | rfl <;> first | exact HALL.out _ h | exact he), HBL2.out.alloc hz _⟩
          case measure => simp [intOf]
      · have i0 : ∀ w, (Instr.index 58 (.agg notCells) (.int .i64 1)).run Tryd.prog w = .ok (.agg #[.int .i64 10, .int .i64 1, .string ⟨#[61, 61]⟩]) w := fun _ => by kernel_rfl
        have i1 : ∀ w, (Instr.index 58 (.agg notCells) (.int .i64 ((1 : Nat) : Int))).run Tryd.prog w = .ok (.agg #[.int .i64 10, .int .i64 1, .string ⟨#[61, 61]⟩]) w := fun _ => by kernel_rfl
        by_cases he : (10 : Int) = n
        · subst he
          go_wp2
          refine bodyPost_ret (v := .tuple #[.agg #[.int .i64 10, .int .i64 1, .string ⟨#[61, 61]⟩], .bool true]) (results_cell_tmp Tryd.results24 _ _ w.heap.size 53 #[.int .i64 10, .int .i64 1, .string ⟨#[61, 61]⟩] (0, 0) _ rfl (by (repeat (with_reducible refine blk_alloc (by simp [World.setCell]; omega) ?_)); refine Eq.trans (blk_set (cs := #[.int .i64 10, .int .i64 1, .string ⟨#[]⟩]) (t := 53) (fr := (0, 0)) ?_) rfl; refine Eq.trans (blk_set (cs := #[.int .i64 10, .int .i64 0, .string ⟨#[]⟩]) (t := 53) (fr := (0, 0)) ?_) rfl; refine Eq.trans (blk_set (cs := #[.int .i64 0, .int .i64 0, .string ⟨#[]⟩]) (t := 53) (fr := (0, 0)) ?_) rfl; (repeat (with_reducible refine blk_alloc (by simp [World.setCell]; omega) ?_)); exact HGR.out) Tryd.underlying53 rfl rfl) rfl ⟨10, 1, ⟨#[61, 61]⟩, true, rfl, fun _ => (by decide), fun h => (by cases h), ?_⟩
          repeat (first | (with_reducible exact HBL.out) | (refine Below.setCell ?_ (by simp <;> omega) _) | (refine Below.alloc ?_ (by simp <;> omega) _))
        · go_wp2
          go_roundw
          case rel => exact ⟨1 + 1, by decide, rfl, fun q hq => (by rcases (by omega : q < 1 ∨ q = 1) with h | rfl <;> first | exact HALL.out _ h | exact he), HBL2.out.alloc hz _⟩
          case measure => simp [intOf]
      · have i0 : ∀ w, (Instr.index 58 (.agg notCells) (.int .i64 2)).run Tryd.prog w = .ok (.agg #[.int .i64 1, .int .i64 2, .string ⟨#[43]⟩]) w := fun _ => by kernel_rfl
        have i1 : ∀ w, (Instr.index 58 (.agg notCells) (.int .i64 ((2 : Nat) : Int))).run Tryd.prog w = .ok (.agg #[.int .i64 1, .int .i64 2, .string ⟨#[43]⟩]) w := fun _ => by kernel_rfl
        by_cases he : (1 : Int) = n
        · subst he
          go_wp2
          refine bodyPost_ret (v := .tuple #[.agg #[.int .i64 1, .int .i64 2, .string ⟨#[43]⟩], .bool true]) (results_cell_tmp Tryd.results24 _ _ w.heap.size 53 #[.int .i64 1, .int .i64 2, .string ⟨#[43]⟩] (0, 0) _ rfl (by (repeat (with_reducible refine blk_alloc (by simp [World.setCell]; omega) ?_)); refine Eq.trans (blk_set (cs := #[.int .i64 1, .int .i64 2, .string ⟨#[]⟩]) (t := 53) (fr := (0, 0)) ?_) rfl; refine Eq.trans (blk_set (cs := #[.int .i64 1, .int .i64 0, .string ⟨#[]⟩]) (t := 53) (fr := (0, 0)) ?_) rfl; refine Eq.trans (blk_set (cs := #[.int .i64 0, .int .i64 0, .string ⟨#[]⟩]) (t := 53) (fr := (0, 0)) ?_) rfl; (repeat (with_reducible refine blk_alloc (by simp [World.setCell]; omega) ?_)); exact HGR.out) Tryd.underlying53 rfl rfl) rfl ⟨1, 2, ⟨#[43]⟩, true, rfl, fun _ => (by decide), fun h => (by cases h), ?_⟩
          repeat (first | (with_reducible exact HBL.out) | (refine Below.setCell ?_ (by simp <;> omega) _) | (refine Below.alloc ?_ (by simp <;> omega) _))
        · go_wp2
          go_roundw
          case rel => exact ⟨2 + 1, by decide, rfl, fun q hq => (by rcases (by omega : q < 2 ∨ q = 2) with h | rfl <;> first | exact HALL.out _ h | exact he), HBL2.out.alloc hz _⟩
          case measure => simp [intOf]
      · have i0 : ∀ w, (Instr.index 58 (.agg notCells) (.int .i64 3)).run Tryd.prog w = .ok (.agg #[.int .i64 2, .int .i64 2, .string ⟨#[45]⟩]) w := fun _ => by kernel_rfl
        have i1 : ∀ w, (Instr.index 58 (.agg notCells) (.int .i64 ((3 : Nat) : Int))).run Tryd.prog w = .ok (.agg #[.int .i64 2, .int .i64 2, .string ⟨#[45]⟩]) w := fun _ => by kernel_rfl
        by_cases he : (2 : Int) = n
        · subst he
          go_wp2
          refine bodyPost_ret (v := .tuple #[.agg #[.int .i64 2, .int .i64 2, .string ⟨#[45]⟩], .bool true]) (results_cell_tmp Tryd.results24 _ _ w.heap.size 53 #[.int .i64 2, .int .i64 2, .string ⟨#[45]⟩] (0, 0) _ rfl (by (repeat (with_reducible refine blk_alloc (by simp [World.setCell]; omega) ?_)); refine Eq.trans (blk_set (cs := #[.int .i64 2, .int .i64 2, .string ⟨#[]⟩]) (t := 53) (fr := (0, 0)) ?_) rfl; refine Eq.trans (blk_set (cs := #[.int .i64 2, .int .i64 0, .string ⟨#[]⟩]) (t := 53) (fr := (0, 0)) ?_) rfl; refine Eq.trans (blk_set (cs := #[.int .i64 0, .int .i64 0, .string ⟨#[]⟩]) (t := 53) (fr := (0, 0)) ?_) rfl; (repeat (with_reducible refine blk_alloc (by simp [World.setCell]; omega) ?_)); exact HGR.out) Tryd.underlying53 rfl rfl) rfl ⟨2, 2, ⟨#[45]⟩, true, rfl, fun _ => (by decide), fun h => (by cases h), ?_⟩
          repeat (first | (with_reducible exact HBL.out) | (refine Below.setCell ?_ (by simp <;> omega) _) | (refine Below.alloc ?_ (by simp <;> omega) _))
        · go_wp2
          go_roundw
          case rel => exact ⟨3 + 1, by decide, rfl, fun q hq => (by rcases (by omega : q < 3 ∨ q = 3) with h | rfl <;> first | exact HALL.out _ h | exact he), HBL2.out.alloc hz _⟩
          case measure => simp [intOf]
      · have i0 : ∀ w, (Instr.index 58 (.agg notCells) (.int .i64 4)).run Tryd.prog w = .ok (.agg #[.int .i64 6, .int .i64 2, .string ⟨#[124]⟩]) w := fun _ => by kernel_rfl
        have i1 : ∀ w, (Instr.index 58 (.agg notCells) (.int .i64 ((4 : Nat) : Int))).run Tryd.prog w = .ok (.agg #[.int .i64 6, .int .i64 2, .string ⟨#[124]⟩]) w := fun _ => by kernel_rfl
        by_cases he : (6 : Int) = n
        · subst he
          go_wp2
          refine bodyPost_ret (v := .tuple #[.agg #[.int .i64 6, .int .i64 2, .string ⟨#[124]⟩], .bool true]) (results_cell_tmp Tryd.results24 _ _ w.heap.size 53 #[.int .i64 6, .int .i64 2, .string ⟨#[124]⟩] (0, 0) _ rfl (by (repeat (with_reducible refine blk_alloc (by simp [World.setCell]; omega) ?_)); refine Eq.trans (blk_set (cs := #[.int .i64 6, .int .i64 2, .string ⟨#[]⟩]) (t := 53) (fr := (0, 0)) ?_) rfl; refine Eq.trans (blk_set (cs := #[.int .i64 6, .int .i64 0, .string ⟨#[]⟩]) (t := 53) (fr := (0, 0)) ?_) rfl; refine Eq.trans (blk_set (cs := #[.int .i64 0, .int .i64 0, .string ⟨#[]⟩]) (t := 53) (fr := (0, 0)) ?_) rfl; (repeat (with_reducible refine blk_alloc (by simp [World.setCell]; omega) ?_)); exact HGR.out) Tryd.underlying53 rfl rfl) rfl ⟨6, 2, ⟨#[124]⟩, true, rfl, fun _ => (by decide), fun h => (by cases h), ?_⟩
          repeat (first | (with_reducible exact HBL.out) | (refine Below.setCell ?_ (by simp <;> omega) _) | (refine Below.alloc ?_ (by simp <;> omega) _))
        · go_wp2
          go_roundw
          case rel => exact ⟨4 + 1, by decide, rfl, fun q hq => (by rcases (by omega : q < 4 ∨ q = 4) with h | rfl <;> first | exact HALL.out _ h | exact he), HBL2.out.alloc hz _⟩
          case measure => simp [intOf]
      · have i0 : ∀ w, (Instr.index 58 (.agg notCells) (.int .i64 5)).run Tryd.prog w = .ok (.agg #[.int .i64 8, .int .i64 2, .string ⟨#[92]⟩]) w := fun _ => by kernel_rfl
        have i1 : ∀ w, (Instr.index 58 (.agg notCells) (.int .i64 ((5 : Nat) : Int))).run Tryd.prog w = .ok (.agg #[.int .i64 8, .int .i64 2, .string ⟨#[92]⟩]) w := fun _ => by kernel_rfl
        by_cases he : (8 : Int) = n
        · subst he
          go_wp2
          refine bodyPost_ret (v := .tuple #[.agg #[.int .i64 8, .int .i64 2, .string ⟨#[92]⟩], .bool true]) (results_cell_tmp Tryd.results24 _ _ w.heap.size 53 #[.int .i64 8, .int .i64 2, .string ⟨#[92]⟩] (0, 0) _ rfl (by (repeat (with_reducible refine blk_alloc (by simp [World.setCell]; omega) ?_)); refine Eq.trans (blk_set (cs := #[.int .i64 8, .int .i64 2, .string ⟨#[]⟩]) (t := 53) (fr := (0, 0)) ?_) rfl; refine Eq.trans (blk_set (cs := #[.int .i64 8, .int .i64 0, .string ⟨#[]⟩]) (t := 53) (fr := (0, 0)) ?_) rfl; refine Eq.trans (blk_set (cs := #[.int .i64 0, .int .i64 0, .string ⟨#[]⟩]) (t := 53) (fr := (0, 0)) ?_) rfl; (repeat (with_reducible refine blk_alloc (by simp [World.setCell]; omega) ?_)); exact HGR.out) Tryd.underlying53 rfl rfl) rfl ⟨8, 2, ⟨#[92]⟩, true, rfl, fun _ => (by decide), fun h => (by cases h), ?_⟩
          repeat (first | (with_reducible exact HBL.out) | (refine Below.setCell ?_ (by simp <;> omega) _) | (refine Below.alloc ?_ (by simp <;> omega) _))
        · go_wp2
          go_roundw
          case rel => exact ⟨5 + 1, by decide, rfl, fun q hq => (by rcases (by omega : q < 5 ∨ q = 5) with h | rfl <;> first | exact HALL.out _ h | exact he), HBL2.out.alloc hz _⟩
          case measure => simp [intOf]
      · have i0 : ∀ w, (Instr.index 58 (.agg notCells) (.int .i64 6)).run Tryd.prog w = .ok (.agg #[.int .i64 3, .int .i64 3, .string ⟨#[42]⟩]) w := fun _ => by kernel_rfl
        have i1 : ∀ w, (Instr.index 58 (.agg notCells) (.int .i64 ((6 : Nat) : Int))).run Tryd.prog w = .ok (.agg #[.int .i64 3, .int .i64 3, .string ⟨#[42]⟩]) w := fun _ => by kernel_rfl
        by_cases he : (3 : Int) = n
        · subst he
          go_wp2
          refine bodyPost_ret (v := .tuple #[.agg #[.int .i64 3, .int .i64 3, .string ⟨#[42]⟩], .bool true]) (results_cell_tmp Tryd.results24 _ _ w.heap.size 53 #[.int .i64 3, .int .i64 3, .string ⟨#[42]⟩] (0, 0) _ rfl (by (repeat (with_reducible refine blk_alloc (by simp [World.setCell]; omega) ?_)); refine Eq.trans (blk_set (cs := #[.int .i64 3, .int .i64 3, .string ⟨#[]⟩]) (t := 53) (fr := (0, 0)) ?_) rfl; refine Eq.trans (blk_set (cs := #[.int .i64 3, .int .i64 0, .string ⟨#[]⟩]) (t := 53) (fr := (0, 0)) ?_) rfl; refine Eq.trans (blk_set (cs := #[.int .i64 0, .int .i64 0, .string ⟨#[]⟩]) (t := 53) (fr := (0, 0)) ?_) rfl; (repeat (with_reducible refine blk_alloc (by simp [World.setCell]; omega) ?_)); exact HGR.out) Tryd.underlying53 rfl rfl) rfl ⟨3, 3, ⟨#[42]⟩, true, rfl, fun _ => (by decide), fun h => (by cases h), ?_⟩
          repeat (first | (with_reducible exact HBL.out) | (refine Below.setCell ?_ (by simp <;> omega) _) | (refine Below.alloc ?_ (by simp <;> omega) _))
        · go_wp2
          go_roundw
          case rel => exact ⟨6 + 1, by decide, rfl, fun q hq => (by rcases (by omega : q < 6 ∨ q = 6) with h | rfl <;> first | exact HALL.out _ h | exact he), HBL2.out.alloc hz _⟩
          case measure => simp [intOf]
      · have i0 : ∀ w, (Instr.index 58 (.agg notCells) (.int .i64 7)).run Tryd.prog w = .ok (.agg #[.int .i64 7, .int .i64 3, .string ⟨#[38]⟩]) w := fun _ => by kernel_rfl
        have i1 : ∀ w, (Instr.index 58 (.agg notCells) (.int .i64 ((7 : Nat) : Int))).run Tryd.prog w = .ok (.agg #[.int .i64 7, .int .i64 3, .string ⟨#[38]⟩]) w := fun _ => by kernel_rfl
        by_cases he : (7 : Int) = n
        · subst he
          go_wp2
          refine bodyPost_ret (v := .tuple #[.agg #[.int .i64 7, .int .i64 3, .string ⟨#[38]⟩], .bool true]) (results_cell_tmp Tryd.results24 _ _ w.heap.size 53 #[.int .i64 7, .int .i64 3, .string ⟨#[38]⟩] (0, 0) _ rfl (by (repeat (with_reducible refine blk_alloc (by simp [World.setCell]; omega) ?_)); refine Eq.trans (blk_set (cs := #[.int .i64 7, .int .i64 3, .string ⟨#[]⟩]) (t := 53) (fr := (0, 0)) ?_) rfl; refine Eq.trans (blk_set (cs := #[.int .i64 7, .int .i64 0, .string ⟨#[]⟩]) (t := 53) (fr := (0, 0)) ?_) rfl; refine Eq.trans (blk_set (cs := #[.int .i64 0, .int .i64 0, .string ⟨#[]⟩]) (t := 53) (fr := (0, 0)) ?_) rfl; (repeat (with_reducible refine blk_alloc (by simp [World.setCell]; omega) ?_)); exact HGR.out) Tryd.underlying53 rfl rfl) rfl ⟨7, 3, ⟨#[38]⟩, true, rfl, fun _ => (by decide), fun h => (by cases h), ?_⟩
          repeat (first | (with_reducible exact HBL.out) | (refine Below.setCell ?_ (by simp <;> omega) _) | (refine Below.alloc ?_ (by simp <;> omega) _))
        · go_wp2
          go_roundw
          case rel => exact ⟨7 + 1, by decide, rfl, fun q hq => (by rcases (by omega : q < 7 ∨ q = 7) with h | rfl <;> first | exact HALL.out _ h | exact he), HBL2.out.alloc hz _⟩
          case measure => simp [intOf]
      · have i0 : ∀ w, (Instr.index 58 (.agg notCells) (.int .i64 8)).run Tryd.prog w = .ok (.agg #[.int .i64 4, .int .i64 4, .string ⟨#[109, 97, 120]⟩]) w := fun _ => by kernel_rfl
        have i1 : ∀ w, (Instr.index 58 (.agg notCells) (.int .i64 ((8 : Nat) : Int))).run Tryd.prog w = .ok (.agg #[.int .i64 4, .int .i64 4, .string ⟨#[109, 97, 120]⟩]) w := fun _ => by kernel_rfl
        by_cases he : (4 : Int) = n
        · subst he
          go_wp2
          refine bodyPost_ret (v := .tuple #[.agg #[.int .i64 4, .int .i64 4, .string ⟨#[109, 97, 120]⟩], .bool true]) (results_cell_tmp Tryd.results24 _ _ w.heap.size 53 #[.int .i64 4, .int .i64 4, .string ⟨#[109, 97, 120]⟩] (0, 0) _ rfl (by (repeat (with_reducible refine blk_alloc (by simp [World.setCell]; omega) ?_)); refine Eq.trans (blk_set (cs := #[.int .i64 4, .int .i64 4, .string ⟨#[]⟩]) (t := 53) (fr := (0, 0)) ?_) rfl; refine Eq.trans (blk_set (cs := #[.int .i64 4, .int .i64 0, .string ⟨#[]⟩]) (t := 53) (fr := (0, 0)) ?_) rfl; refine Eq.trans (blk_set (cs := #[.int .i64 0, .int .i64 0, .string ⟨#[]⟩]) (t := 53) (fr := (0, 0)) ?_) rfl; (repeat (with_reducible refine blk_alloc (by simp [World.setCell]; omega) ?_)); exact HGR.out) Tryd.underlying53 rfl rfl) rfl ⟨4, 4, ⟨#[109, 97, 120]⟩, true, rfl, fun _ => (by decide), fun h => (by cases h), ?_⟩
          repeat (first | (with_reducible exact HBL.out) | (refine Below.setCell ?_ (by simp <;> omega) _) | (refine Below.alloc ?_ (by simp <;> omega) _))
        · go_wp2
          go_roundw
          case rel => exact ⟨8 + 1, by decide, rfl, fun q hq => (by rcases (by omega : q < 8 ∨ q = 8) with h | rfl <;> first | exact HALL.out _ h | exact he), HBL2.out.alloc hz _⟩
          case measure => simp [intOf]
      · have i0 : ∀ w, (Instr.index 58 (.agg notCells) (.int .i64 9)).run Tryd.prog w = .ok (.agg #[.int .i64 5, .int .i64 4, .string ⟨#[109, 105, 110]⟩]) w := fun _ => by kernel_rfl
        have i1 : ∀ w, (Instr.index 58 (.agg notCells) (.int .i64 ((9 : Nat) : Int))).run Tryd.prog w = .ok (.agg #[.int .i64 5, .int .i64 4, .string ⟨#[109, 105, 110]⟩]) w := fun _ => by kernel_rfl
        by_cases he : (5 : Int) = n
        · subst he
          go_wp2
          refine bodyPost_ret (v := .tuple #[.agg #[.int .i64 5, .int .i64 4, .string ⟨#[109, 105, 110]⟩], .bool true]) (results_cell_tmp Tryd.results24 _ _ w.heap.size 53 #[.int .i64 5, .int .i64 4, .string ⟨#[109, 105, 110]⟩] (0, 0) _ rfl (by (repeat (with_reducible refine blk_alloc (by simp [World.setCell]; omega) ?_)); refine Eq.trans (blk_set (cs := #[.int .i64 5, .int .i64 4, .string ⟨#[]⟩]) (t := 53) (fr := (0, 0)) ?_) rfl; refine Eq.trans (blk_set (cs := #[.int .i64 5, .int .i64 0, .string ⟨#[]⟩]) (t := 53) (fr := (0, 0)) ?_) rfl; refine Eq.trans (blk_set (cs := #[.int .i64 0, .int .i64 0, .string ⟨#[]⟩]) (t := 53) (fr := (0, 0)) ?_) rfl; (repeat (with_reducible refine blk_alloc (by simp [World.setCell]; omega) ?_)); exact HGR.out) Tryd.underlying53 rfl rfl) rfl ⟨5, 4, ⟨#[109, 105, 110]⟩, true, rfl, fun _ => (by decide), fun h => (by cases h), ?_⟩
          repeat (first | (with_reducible exact HBL.out) | (refine Below.setCell ?_ (by simp <;> omega) _) | (refine Below.alloc ?_ (by simp <;> omega) _))
        · go_wp2
          go_roundw
          case rel => exact ⟨9 + 1, by decide, rfl, fun q hq => (by rcases (by omega : q < 9 ∨ q = 9) with h | rfl <;> first | exact HALL.out _ h | exact he), HBL2.out.alloc hz _⟩
          case measure => simp [intOf]
      · have i0 : ∀ w, (Instr.index 58 (.agg notCells) (.int .i64 10)).run Tryd.prog w = .ok (.agg #[.int .i64 11, .int .i64 4, .string ⟨#[104, 97, 115]⟩]) w := fun _ => by kernel_rfl
        have i1 : ∀ w, (Instr.index 58 (.agg notCells) (.int .i64 ((10 : Nat) : Int))).run Tryd.prog w = .ok (.agg #[.int .i64 11, .int .i64 4, .string ⟨#[104, 97, 115]⟩]) w := fun _ => by kernel_rfl
        by_cases he : (11 : Int) = n
        · subst he
          go_wp2
          refine bodyPost_ret (v := .tuple #[.agg #[.int .i64 11, .int .i64 4, .string ⟨#[104, 97, 115]⟩], .bool true]) (results_cell_tmp Tryd.results24 _ _ w.heap.size 53 #[.int .i64 11, .int .i64 4, .string ⟨#[104, 97, 115]⟩] (0, 0) _ rfl (by (repeat (with_reducible refine blk_alloc (by simp [World.setCell]; omega) ?_)); refine Eq.trans (blk_set (cs := #[.int .i64 11, .int .i64 4, .string ⟨#[]⟩]) (t := 53) (fr := (0, 0)) ?_) rfl; refine Eq.trans (blk_set (cs := #[.int .i64 11, .int .i64 0, .string ⟨#[]⟩]) (t := 53) (fr := (0, 0)) ?_) rfl; refine Eq.trans (blk_set (cs := #[.int .i64 0, .int .i64 0, .string ⟨#[]⟩]) (t := 53) (fr := (0, 0)) ?_) rfl; (repeat (with_reducible refine blk_alloc (by simp [World.setCell]; omega) ?_)); exact HGR.out) Tryd.underlying53 rfl rfl) rfl ⟨11, 4, ⟨#[104, 97, 115]⟩, true, rfl, fun _ => (by decide), fun h => (by cases h), ?_⟩
          repeat (first | (with_reducible exact HBL.out) | (refine Below.setCell ?_ (by simp <;> omega) _) | (refine Below.alloc ?_ (by simp <;> omega) _))
        · go_wp2
          go_roundw
          case rel => exact ⟨10 + 1, by decide, rfl, fun q hq => (by rcases (by omega : q < 10 ∨ q = 10) with h | rfl <;> first | exact HALL.out _ h | exact he), HBL2.out.alloc hz _⟩
          case measure => simp [intOf]
      · have i0 : ∀ w, (Instr.index 58 (.agg notCells) (.int .i64 11)).run Tryd.prog w = .ok (.agg #[.int .i64 12, .int .i64 4, .string ⟨#[119, 105, 116, 104]⟩]) w := fun _ => by kernel_rfl
        have i1 : ∀ w, (Instr.index 58 (.agg notCells) (.int .i64 ((11 : Nat) : Int))).run Tryd.prog w = .ok (.agg #[.int .i64 12, .int .i64 4, .string ⟨#[119, 105, 116, 104]⟩]) w := fun _ => by kernel_rfl
        by_cases he : (12 : Int) = n
        · subst he
          go_wp2
          refine bodyPost_ret (v := .tuple #[.agg #[.int .i64 12, .int .i64 4, .string ⟨#[119, 105, 116, 104]⟩], .bool true]) (results_cell_tmp Tryd.results24 _ _ w.heap.size 53 #[.int .i64 12, .int .i64 4, .string ⟨#[119, 105, 116, 104]⟩] (0, 0) _ rfl (by (repeat (with_reducible refine blk_alloc (by simp [World.setCell]; omega) ?_)); refine Eq.trans (blk_set (cs := #[.int .i64 12, .int .i64 4, .string ⟨#[]⟩]) (t := 53) (fr := (0, 0)) ?_) rfl; refine Eq.trans (blk_set (cs := #[.int .i64 12, .int .i64 0, .string ⟨#[]⟩]) (t := 53) (fr := (0, 0)) ?_) rfl; refine Eq.trans (blk_set (cs := #[.int .i64 0, .int .i64 0, .string ⟨#[]⟩]) (t := 53) (fr := (0, 0)) ?_) rfl; (repeat (with_reducible refine blk_alloc (by simp [World.setCell]; omega) ?_)); exact HGR.out) Tryd.underlying53 rfl rfl) rfl ⟨12, 4, ⟨#[119, 105, 116, 104]⟩, true, rfl, fun _ => (by decide), fun h => (by cases h), ?_⟩
          repeat (first | (with_reducible exact HBL.out) | (refine Below.setCell ?_ (by simp <;> omega) _) | (refine Below.alloc ?_ (by simp <;> omega) _))
        · go_wp2
          go_roundw
          case rel => exact ⟨11 + 1, by decide, rfl, fun q hq => (by rcases (by omega : q < 11 ∨ q = 11) with h | rfl <;> first | exact HALL.out _ h | exact he), HBL2.out.alloc hz _⟩
          case measure => simp [intOf]
    · obtain rfl : j = 12 := by omega
      have fin := Lib.hid (levelN_none HALL.out)
      go_wp2
      refine bodyPost_ret (v := .tuple #[.agg #[.int .i64 0, .int .i64 0, .string ⟨#[]⟩], .bool false]) (results_cell_tmp Tryd.results24 _ _ w.heap.size 53 #[.int .i64 0, .int .i64 0, .string ⟨#[]⟩] (0, 0) _ rfl (by (repeat (with_reducible refine blk_alloc (by simp [World.setCell]; omega) ?_)); refine Eq.trans (blk_set (cs := #[.int .i64 0, .int .i64 0, .string ⟨#[]⟩]) (t := 53) (fr := (0, 0)) ?_) rfl; refine Eq.trans (blk_set (cs := #[.int .i64 0, .int .i64 0, .string ⟨#[]⟩]) (t := 53) (fr := (0, 0)) ?_) rfl; refine Eq.trans (blk_set (cs := #[.int .i64 0, .int .i64 0, .string ⟨#[]⟩]) (t := 53) (fr := (0, 0)) ?_) rfl; (repeat (with_reducible refine blk_alloc (by simp [World.setCell]; omega) ?_)); exact HGR.out) Tryd.underlying53 rfl rfl) rfl ⟨0, 0, ⟨#[]⟩, false, rfl, fun h => (by cases h), fun _ => fin.out, ?_⟩
      repeat (first | (with_reducible exact HBL.out) | (refine Below.setCell ?_ (by simp <;> omega) _) | (refine Below.alloc ?_ (by simp <;> omega) _))

set_option maxHeartbeats 3200000 in
set_option maxRecDepth 100000 in
theorem impl_LevelOf (k n p t : Int) (s1 s2 : ByteArray) (a6 : Option Addr) (m c6 : Nat) (h0 : -9223372036854775808 ≤ n ∧ n ≤ 9223372036854775807) (w : World) (hT : Nots w) :
    Calls Tryd.prog 13 #[.agg #[.int .i64 k, .int .i64 n, .int .i64 p, .int .i64 t, .string s1, .string s2, .slice a6 m c6]] w fun e w' => e = .returned (.int .i64 (levelE k n)) ∧ Below w.heap.size w w' := by
  have HT := Lib.hid hT
  have HB := Lib.hid ((Below.refl w.heap.size w).alloc (Nat.le_refl _) (.cells #[.int .i64 k, .int .i64 n, .int .i64 p, .int .i64 t, .string s1, .string s2, .slice a6 m c6] 36))
  have HN := Lib.hid (fun (W : World) (h : Nots W) => impl_notationOf n W h)
  have HT1 := Lib.hid (HT.out.below HB.out)
  clear hT
  by_cases k5 : k = 5
  · subst k5
    have fin := Lib.hid (levelE_5 n)
    go_enter Tryd.func13, Tryd.ntmps13
    go_wp2
    go_ret
    exact ⟨ret_lv fin.out.symm, HB.out⟩
  · by_cases k4 : k = 4
    · subst k4
      have fin := Lib.hid (levelE_4 n)
      go_enter Tryd.func13, Tryd.ntmps13
      go_wp2_with fail
      refine (HN.out _ HT1.out).mono ?_
      rintro e w1 ⟨o, lv, s, b, rfl, hy, hn, hb⟩
      have HB1 := Lib.hid (HB.out.trans (hb.mono HB.out.size))
      have hx0 : w1.cell? ⟨w.heap.size, 0, none⟩ = some (.int .i64 4) := (hb.cell (p := ⟨w.heap.size, 0, none⟩) (by simp)).trans (by go_simp)
      have hsz : w.heap.size < w1.heap.size := Nat.lt_of_lt_of_le (by simp) hb.size
      clear hb
      cases b
      · have fin2 := Lib.hid (hn rfl)
        clear hy hn
        go_wp2
        go_ret
        exact ⟨ret_lv (by rw [fin.out, fin2.out]), HB1.out.alloc (by omega) _⟩
      · have fin2 := Lib.hid (hy rfl)
        clear hy hn
        go_wp2
        go_ret
        exact ⟨ret_lv (by rw [fin.out, fin2.out]), HB1.out.alloc (by omega) _⟩
    · have fin := Lib.hid (levelE_no k5 k4 n)
      go_enter Tryd.func13, Tryd.ntmps13
      go_wp2_with fail
      refine (HN.out _ HT1.out).mono ?_
      rintro e w1 ⟨o, lv, s, b, rfl, hy, hn, hb⟩
      have HB1 := Lib.hid (HB.out.trans (hb.mono HB.out.size))
      have hx0 : w1.cell? ⟨w.heap.size, 0, none⟩ = some (.int .i64 k) := (hb.cell (p := ⟨w.heap.size, 0, none⟩) (by simp)).trans (by go_simp)
      have hsz : w.heap.size < w1.heap.size := Nat.lt_of_lt_of_le (by simp) hb.size
      clear hb hy hn
      cases b
      · go_wp2
        go_ret
        exact ⟨ret_lv fin.out.symm, HB1.out.alloc (by omega) _⟩
      · go_wp2
        go_ret
        exact ⟨ret_lv fin.out.symm, HB1.out.alloc (by omega) _⟩
end Go.Proofs.YtkloeadlhpijdaaDoor
