/-
  The marks of a relation.
-/
import Derived.Test.YtkfonlejblcknaaTRelation
import Derived.Test.YtkfonlejblcknaaMkI
namespace Go.Proofs.Ytkfonlejblcknaa
open Go.ChangeShapes Go.WideShapes Go.ChangeAt Go.RowKit Go.Deep
end Go.Proofs.Ytkfonlejblcknaa
