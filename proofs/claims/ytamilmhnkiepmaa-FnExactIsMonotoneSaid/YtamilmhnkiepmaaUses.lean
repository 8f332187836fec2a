/-
  UsesAny and IsMonotone: what they compute, as a fold over the nodes.
-/
import Derived.Test.YtamilmhnkiepmaaFold
import Derived.Test.YtamilmhnkiepmaaHasAt
namespace Go.Proofs.Ytamilmhnkiepmaa
open Go.ChangeShapes Go.WideShapes Go.ChangeAt Go.RowKit Go.Deep

/-- Whether a node that uses one of the list is monotone, by the results of its args. -/
def monoF (nd : ENode) (zs : List (Bool × Bool)) : Bool :=
  if nd.fKind = 3 then true
  else if nd.fKind = 5 ∧ zs.length = 3 then (!(zs.getD 0 default).1) && (zs.getD 1 default).2 && (zs.getD 2 default).2
  else if nd.fKind ≠ 4 ∨ zs.length ≠ 2 then false
  else if nd.fN = 6 ∨ nd.fN = 7 then (zs.getD 0 default).2 && (zs.getD 1 default).2
  else if nd.fN = 8 ∨ nd.fN = 12 then (zs.getD 0 default).2 && !(zs.getD 1 default).1
  else false
/-- Whether the node itself is an occurrence of the list. -/
def attrIn (l : List DOccurrence) (nd : ENode) : Bool := decide (nd.fKind = 3) && hasAt l ⟨nd.fPos, nd.fName⟩
def usesN (l : List DOccurrence) (nd : ENode) (zs : List (Bool × Bool)) : Bool := attrIn l nd || zs.any (·.1)
def combU (l : List DOccurrence) (nd : ENode) (zs : List (Bool × Bool)) : Bool × Bool := (usesN l nd zs, !usesN l nd zs || monoF nd zs)
theorem combU_depth (l : List DOccurrence) (x : DExpr) (d : Nat) (zs : List (Bool × Bool)) : combU l (nodeOfX x d) zs = combU l (nodeOfX x 0) zs := rfl

theorem foldU_list (l : List DOccurrence) (d : Nat) : ∀ es : List DExpr, (∀ a ∈ es, ∀ d, foldX (combU l) a d = foldX (combU l) a 0) → foldL (combU l) es d = es.map fun e => foldX (combU l) e 0
  | [], _ => rfl
  | e :: es, h => by
    show foldX (combU l) e d :: foldL (combU l) es d = _
    rw [h e (List.mem_cons_self ..), foldU_list l d es fun a ha => h a (List.mem_cons_of_mem _ ha), List.map_cons]
theorem foldU_depth (l : List DOccurrence) : ∀ (x : DExpr) (d : Nat), foldX (combU l) x d = foldX (combU l) x 0 := by
  intro x
  refine DExpr.ind (P := fun x => ∀ d, foldX (combU l) x d = foldX (combU l) x 0) (fun x ih d => ?_) x
  rw [foldX_eq, foldX_eq, foldU_list l _ _ ih, foldU_list l _ _ ih]
  rfl
theorem foldU_eq (l : List DOccurrence) (x : DExpr) : foldX (combU l) x 0 = combU l (nodeOfX x 0) (x.fArgs.map fun e => foldX (combU l) e 0) := by
  rw [foldX_eq, foldU_list l _ _ (fun a _ => foldU_depth l a)]

/-- What UsesAny and IsMonotone say. -/
def usesX (l : List DOccurrence) (x : DExpr) : Bool := (foldX (combU l) x 0).1
def monoX (l : List DOccurrence) (x : DExpr) : Bool := (foldX (combU l) x 0).2
theorem usesX_eq (l : List DOccurrence) (x : DExpr) : usesX l x = (decide (x.fKind = 3) && hasAt l ⟨x.fPos, x.fName⟩ || x.fArgs.any (usesX l)) := by
  unfold usesX
  rw [foldU_eq]
  show (attrIn l (nodeOfX x 0) || (x.fArgs.map fun e => foldX (combU l) e 0).any (·.1)) = _
  rw [List.any_map]
  rfl
theorem map_getD (l : List DOccurrence) (es : List DExpr) {k : Nat} (hk : k < es.length) : ((es.map fun e => foldX (combU l) e 0).getD k default) = (usesX l (es.getD k default), monoX l (es.getD k default)) := by
  rw [List.getD_eq_getElem?_getD, List.getD_eq_getElem?_getD, List.getElem?_map, List.getElem?_eq_getElem hk]
  rfl
theorem monoX_eq (l : List DOccurrence) (x : DExpr) : monoX l x = (!usesX l x || monoF (nodeOfX x 0) (x.fArgs.map fun e => foldX (combU l) e 0)) := by
  unfold usesX monoX
  rw [foldU_eq]
  rfl
theorem monoX_free {l : List DOccurrence} {x : DExpr} (h : usesX l x = false) : monoX l x = true := by rw [monoX_eq, h]; rfl
theorem monoX_attr {l : List DOccurrence} {x : DExpr} (h : x.fKind = 3) : monoX l x = true := by
  rw [monoX_eq]
  have : monoF (nodeOfX x 0) (x.fArgs.map fun e => foldX (combU l) e 0) = true := by unfold monoF; rw [if_pos (show (nodeOfX x 0).fKind = 3 from h)]
  rw [this, Bool.or_true]
theorem monoX_if {l : List DOccurrence} {x : DExpr} (hu : usesX l x = true) (h : x.fKind = 5) (hn : x.fArgs.length = 3) : monoX l x = (!usesX l (x.fArgs.getD 0 default) && monoX l (x.fArgs.getD 1 default) && monoX l (x.fArgs.getD 2 default)) := by
  rw [monoX_eq, hu]
  unfold monoF
  rw [if_neg (show ¬ (nodeOfX x 0).fKind = 3 by show ¬ x.fKind = 3; omega), if_pos ⟨h, by rw [List.length_map]; exact hn⟩, map_getD l _ (by omega), map_getD l _ (by omega), map_getD l _ (by omega)]
  rfl
theorem monoX_other {l : List DOccurrence} {x : DExpr} (hu : usesX l x = true) (h3 : ¬ x.fKind = 3) (h5 : ¬ (x.fKind = 5 ∧ x.fArgs.length = 3)) (h : x.fKind ≠ 4 ∨ x.fArgs.length ≠ 2) : monoX l x = false := by
  rw [monoX_eq, hu]
  unfold monoF
  rw [if_neg (show ¬ (nodeOfX x 0).fKind = 3 from h3), if_neg (by rw [List.length_map]; exact h5), if_pos (by rw [List.length_map]; exact h)]
  rfl
theorem monoX_join {l : List DOccurrence} {x : DExpr} (hu : usesX l x = true) (h4 : x.fKind = 4) (h2 : x.fArgs.length = 2) (hN : x.fN = 6 ∨ x.fN = 7) : monoX l x = (monoX l (x.fArgs.getD 0 default) && monoX l (x.fArgs.getD 1 default)) := by
  rw [monoX_eq, hu]
  unfold monoF
  rw [if_neg (show ¬ (nodeOfX x 0).fKind = 3 by show ¬ x.fKind = 3; omega), if_neg (by rw [List.length_map]; show ¬ (x.fKind = 5 ∧ _); omega), if_neg (by rw [List.length_map]; show ¬ (x.fKind ≠ 4 ∨ _); omega), if_pos (show (nodeOfX x 0).fN = 6 ∨ (nodeOfX x 0).fN = 7 from hN), map_getD l _ (by omega), map_getD l _ (by omega)]
  rfl
theorem monoX_first {l : List DOccurrence} {x : DExpr} (hu : usesX l x = true) (h4 : x.fKind = 4) (h2 : x.fArgs.length = 2) (hN : x.fN = 8 ∨ x.fN = 12) : monoX l x = (monoX l (x.fArgs.getD 0 default) && !usesX l (x.fArgs.getD 1 default)) := by
  rw [monoX_eq, hu]
  unfold monoF
  rw [if_neg (show ¬ (nodeOfX x 0).fKind = 3 by show ¬ x.fKind = 3; omega), if_neg (by rw [List.length_map]; show ¬ (x.fKind = 5 ∧ _); omega), if_neg (by rw [List.length_map]; show ¬ (x.fKind ≠ 4 ∨ _); omega), if_neg (by show ¬ (x.fN = 6 ∨ x.fN = 7); omega), if_pos (show (nodeOfX x 0).fN = 8 ∨ (nodeOfX x 0).fN = 12 from hN), map_getD l _ (by omega), map_getD l _ (by omega)]
  rfl
theorem monoX_rest {l : List DOccurrence} {x : DExpr} (hu : usesX l x = true) (h4 : x.fKind = 4) (h2 : x.fArgs.length = 2) (hN : x.fN ≠ 6 ∧ x.fN ≠ 7 ∧ x.fN ≠ 8 ∧ x.fN ≠ 12) : monoX l x = false := by
  rw [monoX_eq, hu]
  unfold monoF
  rw [if_neg (show ¬ (nodeOfX x 0).fKind = 3 by show ¬ x.fKind = 3; omega), if_neg (by rw [List.length_map]; show ¬ (x.fKind = 5 ∧ _); omega), if_neg (by rw [List.length_map]; show ¬ (x.fKind ≠ 4 ∨ _); omega), if_neg (by show ¬ (x.fN = 6 ∨ x.fN = 7); omega), if_neg (by show ¬ (x.fN = 8 ∨ x.fN = 12); omega)]
  rfl
end Go.Proofs.Ytamilmhnkiepmaa
