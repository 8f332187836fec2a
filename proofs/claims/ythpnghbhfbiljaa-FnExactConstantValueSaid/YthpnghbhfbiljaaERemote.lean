/-
  HasRemote, in the model and in the program.
-/
import Derived.Test.YthpnghbhfbiljaaECount
import Derived.Test.YthpnghbhfbiljaaIdx
namespace Go.Proofs.Ythpnghbhfbiljaa
open Go.ChangeShapes Go.WideShapes Go.ChangeAt Go.RowKit Go.Deep


def remN (n : ENode) : Bool := n.fKind == 8
/-- A remote attribute is among the nodes. -/
def remX (x : DExpr) : Bool := (nodesX x 0).any remN
theorem any_list (P : DExpr → Prop) (q : ENode → Bool) (r : DExpr → Bool) (hP : ∀ x, P x → ∀ d, (nodesX x d).any q = r x) (d : Nat) : ∀ l : List DExpr, (∀ a ∈ l, P a) → (nodesL l d).any q = l.any r
  | [], _ => rfl
  | e :: es, h => by
    show (nodesX e d ++ nodesL es d).any q = _
    rw [List.any_append, hP e (h e (List.mem_cons_self ..)), any_list P q r hP d es fun a ha => h a (List.mem_cons_of_mem _ ha), List.any_cons]
theorem remX_any : ∀ (x : DExpr) (d : Nat), (nodesX x d).any remN = remX x := by
  intro x
  refine DExpr.ind (P := fun x => ∀ d, (nodesX x d).any remN = remX x) (fun x ih d => ?_) x
  unfold remX
  rw [nodesX_eq, nodesX_eq, List.any_cons, List.any_cons, any_list (fun a => ∀ d, (nodesX a d).any remN = remX a) _ _ (fun _ h => h) _ _ ih, any_list (fun a => ∀ d, (nodesX a d).any remN = remX a) _ _ (fun _ h => h) _ _ ih]
  rfl
theorem remX_eq (x : DExpr) : remX x = ((x.fKind == 8) || x.fArgs.any remX) := by
  have h := remX_any x 0
  rw [nodesX_eq, List.any_cons, any_list (fun _ => True) _ _ (fun x _ => remX_any x) _ _ fun _ _ => trivial] at h
  exact h.symm
theorem any_none {α : Type} [Inhabited α] {p : α → Bool} {l : List α} (h : noneBelow p l l.length) : l.any p = false := by
  rw [List.any_eq_false]
  intro a ha
  obtain ⟨k, hk, rfl⟩ := List.getElem_of_mem ha
  have := h k hk
  rw [List.getD_eq_getElem?_getD, List.getElem?_eq_getElem hk] at this
  simpa using this
theorem any_at {α : Type} [Inhabited α] {p : α → Bool} {l : List α} {k : Nat} (hk : k < l.length) (h : p (l.getD k default) = true) : l.any p = true :=
  List.any_eq_true.2 ⟨_, getD_mem hk, h⟩

theorem idx_any {α : Type} [Inhabited α] (p : α → Bool) (l : List α) : decide (0 ≤ idxI p l) = l.any p := by
  unfold idxI
  cases h : l.findIdx? p with
  | none =>
    rw [List.findIdx?_eq_none_iff] at h
    have : l.any p = false := by rw [List.any_eq_false]; intro a ha; simp [h a ha]
    rw [this]; rfl
  | some k =>
    rw [List.findIdx?_eq_some_iff_getElem] at h
    obtain ⟨h1, h2, _⟩ := h
    have : l.any p = true := List.any_eq_true.2 ⟨l[k], List.getElem_mem _, h2⟩
    rw [this]; simp
end Go.Proofs.Ythpnghbhfbiljaa
