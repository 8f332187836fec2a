/-
  An append to a row of the call's own inside a region that draws its order: what it writes, what lasts.
-/
import Derived.Test.YtnmepemmpeboeaaGreatZFreeK
import Derived.Test.YtnmepemmpeboeaaGreatZz3
namespace Go.Proofs.YtnmepemmpeboeaaGreat
open Go.ChangeShapes Go.WideShapes Go.ChangeAt Go.RowKit Go.Deep

theorem fa_noneK {ob : Nat → Nat} {w w' : World} (h : WritesF (FAK (fun _ => False) ob []) w w') : Below w.heap.size w w' := ⟨h.os, h.tape, h.output, h.size, fun k hk => h.block k hk (fun h => h.elim id (fun h => h trivial))⟩
theorem cells_at {w : World} {g : Nat} {cs : List Value} {t : TypeId} {fr : Nat × Nat} (h : w.heap[g]? = some (.cells cs.toArray t fr)) : ∀ j u, cs[j]? = some u → w.cell? ((⟨g, 0, none⟩ : Addr).add j) = some u := by
  intro j u hu
  rw [Go.WideShapes.add_plain, Nat.zero_add]
  exact pblk_cell h (by simpa using hu)
end Go.Proofs.YtnmepemmpeboeaaGreat
