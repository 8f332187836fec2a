/-
  One node of an expression: nodeOf.
-/
import Derived.Test.YtnmepemmpeboeaaGreatZz4
import Derived.Test.YtnmepemmpeboeaaGreatZPSet
import Derived.BigRegion
import Derived.StillTailTactics
import Derived.Laws.AppendOwn
namespace Go.Proofs.YtnmepemmpeboeaaGreat
open Go.ChangeShapes Go.WideShapes Go.ChangeAt Go.RowKit Go.Deep

set_option maxHeartbeats 1600000 in
set_option maxRecDepth 100000 in
theorem impl_nodeOf {b off c6 : Nat} {a6 : Option Addr} (x : DExpr) (d : Nat) (w : World)
    (hc0 : w.cell? ⟨b, off, none⟩ = some (.int .i64 x.fKind)) (hc1 : w.cell? ⟨b, off + 1, none⟩ = some (.int .i64 x.fN)) (hc2 : w.cell? ⟨b, off + 2, none⟩ = some (.int .i64 x.fPos)) (hc3 : w.cell? ⟨b, off + 3, none⟩ = some (.int .i64 x.fType)) (hc4 : w.cell? ⟨b, off + 4, none⟩ = some (.string x.fSymbol)) (hc5 : w.cell? ⟨b, off + 5, none⟩ = some (.string x.fName)) (hc6 : w.cell? ⟨b, off + 6, none⟩ = some (.slice a6 x.fArgs.length c6)) :
    Calls Tryz.prog 113 #[.pointer (some ⟨b, off, none⟩), .int .i64 (d : Int)] w fun e w' => e = .returned (.agg #[.int .i64 x.fKind, .int .i64 x.fN, .int .i64 x.fPos, .int .i64 x.fType, .string x.fSymbol, .string x.fName, .int .i64 (x.fArgs.length : Int), .int .i64 (d : Int)]) ∧ Below w.heap.size w w' := by
  generalize x.fArgs.length = n at *
  have hb : b < w.heap.size := cell_block_lt hc0
  go_enter Tryz.func113, Tryz.ntmps113
  go_wp2
  go_region
  go_wp2
  go_region
  go_wp2
  refine bodyPost_ret (v := .agg #[.int .i64 x.fKind, .int .i64 x.fN, .int .i64 x.fPos, .int .i64 x.fType, .string x.fSymbol, .string x.fName, .int .i64 (n : Int), .int .i64 (d : Int)]) (results_cell_row Tryz.results113 _ _ w.heap.size 128 #[.int .i64 x.fKind, .int .i64 x.fN, .int .i64 x.fPos, .int .i64 x.fType, .string x.fSymbol, .string x.fName, .int .i64 (n : Int), .int .i64 (d : Int)] (0, 0) _ rfl (blk_alloc (by simp) (blk_new rfl)) Tryz.underlying128 rfl rfl) rfl ⟨rfl, ?_⟩
  exact (((Below.refl _ _).alloc (Nat.le_refl _) _).alloc (by simp) _).drew.drew
end Go.Proofs.YtnmepemmpeboeaaGreat
