/-
  A slice of strings of the call's own, in one block.
-/
import Derived.Test.YtjlcbbaicengbaaDoorStrs
import Derived.Test.YtjlcbbaicengbaaDoorWrites
namespace Go.Proofs.YtjlcbbaicengbaaDoor
open Go.ChangeShapes Go.WideShapes Go.ChangeAt Go.RowKit

theorem info_string : (Tryd.prog.info? 9).map (fun i => (i.zero, i.size, i.bytes)) = some (some (.string ⟨#[]⟩), 1, 16) := by kernel_rfl

/-- A slice of its own in block g: the strings ss, none of its cells frozen. -/
structure OwnStrs (w : World) (g : Nat) (ss : List ByteArray) : Prop where
  lt : g < w.heap.size
  cell : ∀ k, k < ss.length → w.cell? ⟨g, k, none⟩ = some (.string (ss.getD k ByteArray.empty))
  free : ∀ k, w.frozen? ⟨g, k, none⟩ = false

theorem OwnStrs.later {w w' : World} {g : Nat} {ss : List ByteArray} (h : OwnStrs w g ss) (hb : Below w.heap.size w w') : OwnStrs w' g ss :=
  ⟨Nat.lt_of_lt_of_le h.lt hb.size, fun k hk => (hb.cell (p := ⟨g, k, none⟩) h.lt).trans (h.cell k hk), fun k => (hb.frozen (p := ⟨g, k, none⟩) h.lt).trans (h.free k)⟩
theorem OwnStrs.strs {w : World} {g : Nat} {ss : List ByteArray} (h : OwnStrs w g ss) (hz : sumSize ss ≤ 9223372036854775807) : Strs w.heap.size w (some ⟨g, 0, none⟩) ss :=
  Or.inr ⟨g, 0, rfl, h.lt, fun k hk => ⟨by
    have h1 := sumSize_take ss k hk
    have h2 := sumSize_take_le ss (k + 1)
    omega, by rw [Nat.zero_add]; exact h.cell k hk⟩⟩

theorem OwnStrs.writes {w w' : World} {g C : Nat} {ss : List ByteArray} (h : OwnStrs w g ss) (hw : Writes C w w') (hn : g ≠ C) : OwnStrs w' g ss :=
  ⟨Nat.lt_of_lt_of_le h.lt hw.size, fun k hk => (hw.cell (p := ⟨g, k, none⟩) h.lt hn).trans (h.cell k hk), fun k => (World.frozen?_of_block (w := w) (a := ⟨g, k, none⟩) (hw.block g h.lt hn)).trans (h.free k)⟩
end Go.Proofs.YtjlcbbaicengbaaDoor
