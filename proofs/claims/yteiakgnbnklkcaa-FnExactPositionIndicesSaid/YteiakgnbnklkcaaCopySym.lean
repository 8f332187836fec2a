/-
  The program's copy of a symbol.
-/
import Derived.Test.YteiakgnbnklkcaaCloneAttribute
import Derived.Test.YteiakgnbnklkcaaTSymbol
import Derived.Deep.RegionWith
namespace Go.Proofs.Yteiakgnbnklkcaa
open Go.ChangeShapes Go.WideShapes Go.ChangeAt Go.RowKit Go.Deep
end Go.Proofs.Yteiakgnbnklkcaa
