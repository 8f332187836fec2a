/-
  A cell of a row of its own.
-/
import Derived.Test.YtjlcbbaicengbaaDoorOwn
namespace Go.Proofs.YtjlcbbaicengbaaDoor
open Go.ChangeShapes Go.WideShapes Go.ChangeAt Go.RowKit Go.Deep
theorem OwnR.at {w : World} {F : Nat → Prop} {n : Nat} {c : Nat → Ct} {u : Nat → Value} (h : OwnR w F n c u) (j : Nat) (hj : j < n) : Own w F (c j) (u j) := by
  obtain ⟨G, h1, h2, _⟩ := h
  exact (h1 j hj).sub (h2 j hj)
end Go.Proofs.YtjlcbbaicengbaaDoor
