/-
  SharedSize of the model and of the program, in the words of the law.
-/
import Derived.Test.YtjlcbbaicengbaaDoorSharedS
import Derived.Test.YtjlcbbaicengbaaDoorSharedI
namespace Go.Proofs.YtjlcbbaicengbaaDoor
open Go.ChangeShapes Go.WideShapes Go.ChangeAt Go.RowKit Go.Deep

theorem spec_SharedSize {lo hi : Nat} {a0 : Option Addr} {c0_0 : Nat} (x : DStore) (_ : x.ok) (hsx : x.sz ≤ 1048576) (i : Int) (_ : okI i) (w : World) (hhi : hi ≤ w.heap.size) (hs0 : Sl lo hi w 3 x.fCells.length (fun k => DCell.ct (x.fCells.getD k default)) a0) :
    Calls Tryd.prog 10 #[.agg #[.slice a0 x.fCells.length c0_0], .int .i64 i] w fun e w' => e = .returned (.int .i64 (sharedN x.fCells i)) ∧ Below w.heap.size w w' :=
  spec_SharedSizeL x.fCells hsx i w hhi hs0

theorem impl_SharedSize {lo hi : Nat} {a0 : Option Addr} {c0_0 : Nat} (x : DStore) (hok : x.ok) (hsx : x.sz ≤ 1048576) (i : Int) (_ : okI i) (w : World) (hhi : hi ≤ w.heap.size) (hs0 : Sl lo hi w 3 x.fCells.length (fun k => DCell.ct (x.fCells.getD k default)) a0) (hp : Pow w) :
    Calls Tryd.prog 11 #[.agg #[.slice a0 x.fCells.length c0_0], .int .i64 i] w fun e w' => e = .returned (.int .i64 (sharedN x.fCells i)) ∧ Below w.heap.size w w' :=
  impl_SharedSizeL x.fCells hok hsx i w hhi hs0 hp
end Go.Proofs.YtjlcbbaicengbaaDoor
