/-
  The program's copy of a symbol.
-/
import Derived.Test.YtbaibioifmbchacCloneAttribute
import Derived.Test.YtbaibioifmbchacTSymbol
import Derived.Deep.RegionWith
namespace Go.Proofs.Ytbaibioifmbchac
open Go.ChangeShapes Go.WideShapes Go.ChangeAt Go.RowKit Go.Deep
end Go.Proofs.Ytbaibioifmbchac
