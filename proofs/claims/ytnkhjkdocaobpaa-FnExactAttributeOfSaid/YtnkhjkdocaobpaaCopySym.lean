/-
  The program's copy of a symbol.
-/
import Derived.Test.YtnkhjkdocaobpaaCloneAttribute
import Derived.Test.YtnkhjkdocaobpaaTSymbol
import Derived.Deep.RegionWith
namespace Go.Proofs.Ytnkhjkdocaobpaa
open Go.ChangeShapes Go.WideShapes Go.ChangeAt Go.RowKit Go.Deep
end Go.Proofs.Ytnkhjkdocaobpaa
