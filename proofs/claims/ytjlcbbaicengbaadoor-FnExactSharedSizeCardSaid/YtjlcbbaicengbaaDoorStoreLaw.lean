/-
  IsValidStore of the model and of the program, in the words of the law.
-/
import Derived.Test.YtjlcbbaicengbaaDoorStoreI
namespace Go.Proofs.YtjlcbbaicengbaaDoor
open Go.ChangeShapes Go.WideShapes Go.ChangeAt Go.RowKit Go.Deep

theorem spec_IsValidStore {lo hi : Nat} {a0 : Option Addr} {c0_0 : Nat} (x : DStore) (_ : x.ok) (hsx : x.sz ≤ 1048576) (w : World) (hhi : hi ≤ w.heap.size) (hs0 : Sl lo hi w 3 x.fCells.length (fun k => DCell.ct (x.fCells.getD k default)) a0) :
    Calls Tryd.prog 6 #[.agg #[.slice a0 x.fCells.length c0_0]] w fun e w' => e = .returned (.bool (storeOk x.fCells)) ∧ Below w.heap.size w w' :=
  spec_IsValidStoreL x.fCells hsx w hhi hs0
theorem impl_IsValidStore {lo hi : Nat} {a0 : Option Addr} {c0_0 : Nat} (x : DStore) (hok : x.ok) (hsx : x.sz ≤ 1048576) (w : World) (hhi : hi ≤ w.heap.size) (hs0 : Sl lo hi w 3 x.fCells.length (fun k => DCell.ct (x.fCells.getD k default)) a0) (hp : Pow w) :
    Calls Tryd.prog 8 #[.agg #[.slice a0 x.fCells.length c0_0]] w fun e w' => e = .returned (.bool (storeOk x.fCells)) ∧ Below w.heap.size w w' :=
  impl_IsValidStoreL x.fCells hok hsx w hhi hs0 hp
end Go.Proofs.YtjlcbbaicengbaaDoor
