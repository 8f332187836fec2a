/-
  The program's copy of a symbol.
-/
import Derived.Test.YtbaibioifmbchabCloneAttribute
import Derived.Test.YtbaibioifmbchabTSymbol
import Derived.Deep.RegionWith
namespace Go.Proofs.Ytbaibioifmbchab
open Go.ChangeShapes Go.WideShapes Go.ChangeAt Go.RowKit Go.Deep
end Go.Proofs.Ytbaibioifmbchab
