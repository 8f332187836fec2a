/-
  Chapter 3: the operators' types and functions, in the program.
-/
import Derived.Test.YtgpmmlbinmdfmaaGreatDoorV0
import Derived.Great.BuildSlice
import Derived.Deep.WholeRow
namespace Go.Proofs.YtgpmmlbinmdfmaaGreatDoor
open Go.ChangeShapes Go.WideShapes Go.ChangeAt Go.RowKit
end Go.Proofs.YtgpmmlbinmdfmaaGreatDoor
