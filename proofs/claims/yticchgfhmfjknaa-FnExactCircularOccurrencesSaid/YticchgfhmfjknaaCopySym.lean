/-
  The program's copy of a symbol.
-/
import Derived.Test.YticchgfhmfjknaaCloneAttribute
import Derived.Test.YticchgfhmfjknaaTSymbol
import Derived.Deep.RegionWith
namespace Go.Proofs.Yticchgfhmfjknaa
open Go.ChangeShapes Go.WideShapes Go.ChangeAt Go.RowKit Go.Deep
end Go.Proofs.Yticchgfhmfjknaa
