/-
  The first index of an element that meets a test, as a number.
-/
import Derived.Test.YtjlcbbaicengbaaDoorTSz
namespace Go.Proofs.YtjlcbbaicengbaaDoor
open Go.ChangeShapes Go.WideShapes Go.ChangeAt Go.RowKit Go.Deep

/-- The first index at which p holds, -1 if there is none. -/
def idxI {α : Type} (p : α → Bool) (l : List α) : Int := match l.findIdx? p with | some k => (k : Int) | none => -1
theorem idxI_none {α : Type} [Inhabited α] {p : α → Bool} {l : List α} (h : ∀ i, i < l.length → p (l.getD i default) = false) : idxI p l = -1 := by
  unfold idxI
  have : l.findIdx? p = none := by
    rw [List.findIdx?_eq_none_iff]
    intro x hx
    obtain ⟨i, hi, rfl⟩ := List.getElem_of_mem hx
    have := h i hi
    rw [List.getD_eq_getElem?_getD, List.getElem?_eq_getElem hi] at this
    simpa using this
  rw [this]
theorem idxI_at {α : Type} [Inhabited α] {p : α → Bool} {l : List α} {k : Nat} (hk : k < l.length) (hp : p (l.getD k default) = true) (h : ∀ i, i < k → p (l.getD i default) = false) : idxI p l = k := by
  unfold idxI
  have : l.findIdx? p = some k := by
    rw [List.findIdx?_eq_some_iff_getElem]
    refine ⟨hk, ?_, fun i hi => ?_⟩
    · rw [List.getD_eq_getElem?_getD, List.getElem?_eq_getElem hk] at hp; simpa using hp
    · have := h i hi
      rw [List.getD_eq_getElem?_getD, List.getElem?_eq_getElem (by omega)] at this
      simpa using this
  rw [this]
/-- No index below k meets the test. -/
def noneBelow {α : Type} [Inhabited α] (p : α → Bool) (l : List α) (k : Nat) : Prop := ∀ i, i < k → p (l.getD i default) = false
theorem noneBelow_zero {α : Type} [Inhabited α] (p : α → Bool) (l : List α) : noneBelow p l 0 := fun _ h => absurd h (Nat.not_lt_zero _)
theorem noneBelow_succ {α : Type} [Inhabited α] {p : α → Bool} {l : List α} {k : Nat} (h : noneBelow p l k) (hp : p (l.getD k default) = false) : noneBelow p l (k + 1) := by
  intro i hi
  by_cases hik : i = k
  · subst hik; exact hp
  · exact h i (by omega)
end Go.Proofs.YtjlcbbaicengbaaDoor
