/-
  The laws' own helpers on []int.
-/
import Derived.Test.YticchgfhmfjknaaTSz
import Derived.WalkSpells
import Derived.WalkSmall
import Derived.WalkLawsBesides
import Derived.SliceStrings
import Derived.Deep.QuietTactic
import Derived.Deep.RegionWith
import Derived.BigQuiet
namespace Go.Proofs.Yticchgfhmfjknaa
open Go.ChangeShapes Go.WideShapes Go.ChangeAt Go.RowKit Go.Deep

theorem info_Int : (Try.prog.info? 3).map (fun i => (i.zero, i.size, i.bytes)) = some (some (.int .i64 0), 1, 8) := by kernel_rfl

/-- An element, where the walk looks for it. -/
theorem open_Int {lo hi b o : Nat} {w : World} {x : Int} (h : ∀ j, j < 1 → ∃ u, w.cell? ⟨b, o + j, none⟩ = some u ∧ Lies lo hi w (ictI x j) u) : w.cell? ⟨b, o, none⟩ = some (.int .i64 x) := by
  obtain ⟨u0, hc0, hl0⟩ := h 0 (by decide)
  obtain rfl := lies_lit hl0
  exact hc0
end Go.Proofs.Yticchgfhmfjknaa
