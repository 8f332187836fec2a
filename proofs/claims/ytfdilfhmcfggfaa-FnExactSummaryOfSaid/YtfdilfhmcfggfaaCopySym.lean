/-
  The program's copy of a symbol.
-/
import Derived.Test.YtfdilfhmcfggfaaCloneAttribute
import Derived.Test.YtfdilfhmcfggfaaTSymbol
import Derived.Deep.RegionWith
namespace Go.Proofs.Ytfdilfhmcfggfaa
open Go.ChangeShapes Go.WideShapes Go.ChangeAt Go.RowKit Go.Deep
end Go.Proofs.Ytfdilfhmcfggfaa
