/-
  The draws of the relations' laws.
-/
import Derived.Test.YtkfonlejblcknaaDrawRel
import Derived.Test.YtkfonlejblcknaaRelEqI
import Derived.Test.YtkfonlejblcknaaRelMath
namespace Go.Proofs.Ytkfonlejblcknaa
open Go.ChangeShapes Go.WideShapes Go.ChangeAt Go.RowKit Go.Deep

theorem Writes.toBelow {C B : Nat} {w w' : World} (h : Writes C w w') (hC : B ≤ C) (hB : B ≤ w.heap.size) : Below B w w' := ⟨h.os, h.tape, h.output, h.size, fun k hk => h.block k (by omega) (by omega)⟩
theorem relEq_refl (r : DRelation) : relEq r r = true := by unfold relEq; simp
theorem fa_none {ob : Nat → Nat} {w w' : World} (h : WritesF (FA (fun _ => False) ob []) w w') : Below w.heap.size w w' := ⟨h.os, h.tape, h.output, h.size, fun k hk => h.block k hk (fun h => h.elim id (fun h => h trivial))⟩


set_option maxHeartbeats 1600000 in
set_option maxRecDepth 100000 in
theorem spec_DrawCloseRelation {B : Nat} {a : Option Addr} {len cap : Nat} (w : World) (hB : B ≤ w.heap.size) (hl : len ≤ 1048576) (hc : Code B w a len) :
    Calls Try.prog 12 #[.slice a len cap] w fun e w' => ∃ (r : DRelation) (ra : Option Addr) (rc : Nat), e = .returned (.agg #[.int .i64 r.fN, .slice ra r.fRows.length rc]) ∧ SmallRel r ∧ Own w' (fun y => w.heap.size ≤ y ∧ y < w'.heap.size) (.sl 1 r.fRows.length (rowsI r.fRows)) (.slice ra r.fRows.length rc) ∧ Below w.heap.size w w' := by
  have HC := Lib.hid (hc.below ((Below.refl B w).alloc hB (.cells #[.int .i64 0, .slice none 0 0] 27)))
  have HB0 := Lib.hid ((Below.refl w.heap.size w).alloc (Nat.le_refl _) (.cells #[.int .i64 0, .slice none 0 0] 27))
  clear hc
  go_enter Try.func12, Try.ntmps12
  go_wp2_with fail
  refine (draw_new (w.alloc (.cells #[.int .i64 0, .slice none 0 0] 27)) (by simp; omega) hl HC.out).mono ?_
  rintro e w1 ⟨C, rfl, hC, hc1, hb1⟩
  have hC1 : w.heap.size + 1 ≤ C := by simpa using hC
  have HG1 := Lib.hid ((hb1.block w.heap.size (by simp)).trans (blk_new rfl))
  have HB1 := Lib.hid (HB0.out.trans (hb1.mono (by simp)))
  have HC1 := Lib.hid hc1
  clear hc1 hb1 hC
  go_wp2_with fail
  refine (spec_l22Draw w1 HC1.out).mono ?_
  rintro e w2 ⟨r, ra, rc, rfl, hs, ho, hcu, hw⟩
  have hz1 := HB1.out.size
  have hlt := HC1.out.lt
  have HG2 := Lib.hid ((hw.block w.heap.size (by omega) (by omega)).trans HG1.out)
  have HB2 := Lib.hid (HB1.out.trans (hw.toBelow (by omega) hz1))
  have HS := Lib.hid hs
  have HO := Lib.hid ho
  have hz2 : w1.heap.size ≤ w2.heap.size := hw.size
  have rc0 := blk_cell (j := 0) (v := .int .i64 0) HG2.out rfl
  have rc1 := blk_cell (j := 1) (v := .slice none 0 0) HG2.out rfl
  have rf0 := blk_frozen (j := 0) HG2.out
  have rf1 := blk_frozen (j := 1) HG2.out
  clear hcu hw hs ho HG1 HB1 HC1
  go_wp2
  refine bodyPost_ret (v := .agg #[.int .i64 r.fN, .slice ra r.fRows.length rc]) (results_cell_row Try.results12 _ _ w.heap.size 27 #[.int .i64 r.fN, .slice ra r.fRows.length rc] (0, 0) _ rfl (blk_putJ (blk_putJ HG2.out rfl) rfl) Try.underlying27 rfl rfl) rfl ?_
  refine ⟨r, ra, rc, rfl, HS.out, ?_, ?_⟩
  · exact (HO.out.kept (by repeat (first | (with_reducible exact Kept.refl) | (refine Kept.put ?_ (by intro h; try dsimp only at h; omega))))).sub (fun y hy => ⟨by omega, Nat.lt_of_lt_of_le hy.2 (by first | (simp; done) | (simp; omega) | (simp [World.setCell]; omega))⟩)
  · repeat (first | (with_reducible exact HB2.out) | (refine Below.setCell ?_ (by simp <;> omega) _))
end Go.Proofs.Ytkfonlejblcknaa
