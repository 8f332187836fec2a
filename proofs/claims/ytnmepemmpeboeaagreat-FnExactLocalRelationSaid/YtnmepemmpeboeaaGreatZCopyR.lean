/-
  spec.l9Copy: a rule copied, in memory of its own.
-/
import Derived.Test.YtnmepemmpeboeaaGreatZz7
import Derived.Test.YtnmepemmpeboeaaGreatZCopyE
import Derived.Test.YtnmepemmpeboeaaGreatZFreeA
import Derived.Test.YtnmepemmpeboeaaGreatZz3
import Derived.Deep.MidRow
import Derived.Great.BuildSlice
import Derived.Laws.Rows
import Derived.Deep.WholeRow
namespace Go.Proofs.YtnmepemmpeboeaaGreat
open Go.ChangeShapes Go.WideShapes Go.ChangeAt Go.RowKit Go.Deep

theorem setRow_newR {w : World} {c c' : Array Value} {t : TypeId} {g : Nat} (h : g = w.heap.size) : (w.alloc (.cells c t)).setRow g c' = w.alloc (.cells c' t) := by subst h; exact World.setRow_alloc_new _ _ _ _
/-- What lies in old memory that was not written. -/
theorem sl_kept' {lo hi n len : Nat} {f : Nat → Nat → Ct} {a : Option Addr} {w w' : World} {F : Nat → Prop} (h : Sl lo hi w n len f a) (hk : Kept F w w') (hF : ∀ b, lo ≤ b → b < hi → F b) (hh : hi ≤ w.heap.size) : Sl lo hi w' n len f a :=
  h.frame fun b o h1 h2 => hk.cell (p := ⟨b, o, none⟩) (hF b h1 h2) (Nat.lt_of_lt_of_le h2 hh)
end Go.Proofs.YtnmepemmpeboeaaGreat
