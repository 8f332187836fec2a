/-
  The laws' own marks: markText, a text for each number.
-/
import Derived.Test.YtjlcbbaicengbaaDoorDig
namespace Go.Proofs.YtjlcbbaicengbaaDoor
open Go.ChangeShapes Go.WideShapes Go.ChangeAt Go.RowKit
open Go.Lib Num

/-- The mark of number n. -/
def mk (n : Nat) : ByteArray := ⟨(109 :: decDigits n).toArray⟩
end Go.Proofs.YtjlcbbaicengbaaDoor
