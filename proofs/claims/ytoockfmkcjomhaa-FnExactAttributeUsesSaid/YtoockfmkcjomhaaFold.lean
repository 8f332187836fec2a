/-
  A fold over the nodes of an expression, the last node first, by a stack of results: what it computes.
-/
import Derived.Test.YtoockfmkcjomhaaENode
namespace Go.Proofs.Ytoockfmkcjomhaa

section
variable {α : Type}

/-- A node takes the last of the results, in order, and lays its own. -/
def stepS (comb : ENode → List α → α) (n : ENode) (st : List α) : List α := st.take (st.length - n.fArgs) ++ [comb n (st.drop (st.length - n.fArgs)).reverse]

/-- The results behind the nodes, the last node first. -/
def stackOf (comb : ENode → List α → α) : List ENode → List α
  | [] => []
  | n :: N => stepS comb n (stackOf comb N)

mutual
def foldX (comb : ENode → List α → α) : DExpr → Nat → α
  | ⟨k, n, p, t, s, m, args⟩, d => comb ⟨k, n, p, t, s, m, args.length, d⟩ (foldL comb args (d + 1))
def foldL (comb : ENode → List α → α) : List DExpr → Nat → List α
  | [], _ => []
  | e :: es, d => foldX comb e d :: foldL comb es d
end

theorem foldX_eq (comb : ENode → List α → α) (x : DExpr) (d : Nat) : foldX comb x d = comb (nodeOfX x d) (foldL comb x.fArgs (d + 1)) := by cases x; rfl

theorem foldL_len (comb : ENode → List α → α) (d : Nat) : ∀ l : List DExpr, (foldL comb l d).length = l.length
  | [] => rfl
  | e :: es => by show (foldL comb es d).length + 1 = _; rw [foldL_len comb d es, List.length_cons]

theorem foldL_map (comb : ENode → List α → α) (d : Nat) : ∀ l : List DExpr, foldL comb l d = l.map fun e => foldX comb e d
  | [] => rfl
  | e :: es => by rw [List.map_cons, ← foldL_map comb d es]; rfl

theorem stackL (comb : ENode → List α → α) (P : DExpr → Prop) (hP : ∀ x, P x → ∀ d R, stackOf comb (nodesX x d ++ R) = stackOf comb R ++ [foldX comb x d]) (d : Nat) : ∀ (l : List DExpr) (R : List ENode), (∀ a ∈ l, P a) →
    stackOf comb (nodesL l d ++ R) = stackOf comb R ++ (foldL comb l d).reverse
  | [], R, _ => by show stackOf comb R = _; simp [foldL]
  | e :: es, R, h => by
    show stackOf comb ((nodesX e d ++ nodesL es d) ++ R) = _
    rw [List.append_assoc, hP e (h e (List.mem_cons_self ..)), stackL comb P hP d es R fun a ha => h a (List.mem_cons_of_mem _ ha)]
    show _ = stackOf comb R ++ (foldX comb e d :: foldL comb es d).reverse
    rw [List.reverse_cons, List.append_assoc]

/-- Behind the nodes of an expression one result more. -/
theorem stackX (comb : ENode → List α → α) : ∀ (x : DExpr) (d : Nat) (R : List ENode), stackOf comb (nodesX x d ++ R) = stackOf comb R ++ [foldX comb x d] := by
  intro x
  refine DExpr.ind (P := fun x => ∀ d R, stackOf comb (nodesX x d ++ R) = stackOf comb R ++ [foldX comb x d]) (fun x ih d R => ?_) x
  rw [nodesX_eq, foldX_eq]
  show stepS comb (nodeOfX x d) (stackOf comb (nodesL x.fArgs (d + 1) ++ R)) = _
  rw [stackL comb (fun a => ∀ d R, stackOf comb (nodesX a d ++ R) = stackOf comb R ++ [foldX comb a d]) (fun _ h => h) _ _ _ ih]
  unfold stepS
  have e1 : (nodeOfX x d).fArgs = (foldL comb x.fArgs (d + 1)).reverse.length := by rw [List.length_reverse, foldL_len]; rfl
  rw [e1, List.length_append, Nat.add_sub_cancel, List.take_left, List.drop_left, List.reverse_reverse]

/-- How many results there are behind the nodes. -/
def lenS : List ENode → Nat
  | [] => 0
  | n :: N => lenS N - n.fArgs + 1

/-- Each node finds the results of its args. -/
def fits : List ENode → Prop
  | [] => True
  | n :: N => n.fArgs ≤ lenS N ∧ fits N

theorem len_stackOf (comb : ENode → List α → α) : ∀ N : List ENode, (stackOf comb N).length = lenS N
  | [] => rfl
  | n :: N => by
    show (stepS comb n (stackOf comb N)).length = _
    unfold stepS
    rw [List.length_append, List.length_take, len_stackOf comb N]
    show min (lenS N - n.fArgs) (lenS N) + 1 = lenS N - n.fArgs + 1
    omega

theorem lenS_nodesX (x : DExpr) (d : Nat) (R : List ENode) : lenS (nodesX x d ++ R) = lenS R + 1 := by
  rw [← len_stackOf (fun _ _ => ()) , ← len_stackOf (fun _ _ => ()) R, stackX, List.length_append]; rfl

theorem lenS_nodesL (d : Nat) : ∀ (l : List DExpr) (R : List ENode), lenS (nodesL l d ++ R) = lenS R + l.length
  | [], R => rfl
  | e :: es, R => by
    show lenS ((nodesX e d ++ nodesL es d) ++ R) = _
    rw [List.append_assoc, lenS_nodesX, lenS_nodesL d es R, List.length_cons]; omega

theorem fitsL (P : DExpr → Prop) (hP : ∀ x, P x → ∀ d R, fits R → fits (nodesX x d ++ R)) (d : Nat) : ∀ (l : List DExpr) (R : List ENode), (∀ a ∈ l, P a) → fits R → fits (nodesL l d ++ R)
  | [], _, _, h => h
  | e :: es, R, h, hr => by
    show fits ((nodesX e d ++ nodesL es d) ++ R)
    rw [List.append_assoc]
    exact hP e (h e (List.mem_cons_self ..)) d _ (fitsL P hP d es R (fun a ha => h a (List.mem_cons_of_mem _ ha)) hr)

theorem fitsX : ∀ (x : DExpr) (d : Nat) (R : List ENode), fits R → fits (nodesX x d ++ R) := by
  intro x
  refine DExpr.ind (P := fun x => ∀ d R, fits R → fits (nodesX x d ++ R)) (fun x ih d R hr => ?_) x
  rw [nodesX_eq]
  refine ⟨?_, fitsL (fun a => ∀ d R, fits R → fits (nodesX a d ++ R)) (fun _ h => h) _ _ _ ih hr⟩
  show x.fArgs.length ≤ lenS (nodesL x.fArgs (d + 1) ++ R)
  rw [lenS_nodesL]
  omega

theorem fits_drop : ∀ (N : List ENode) (m : Nat), fits N → fits (N.drop m)
  | [], m, _ => by rw [List.drop_nil]; trivial
  | n :: N, 0, h => h
  | n :: N, m + 1, h => by rw [List.drop_succ_cons]; exact fits_drop N m h.2

/-- The node at place m finds its args among the results of what stands behind it. -/
theorem fits_at {N : List ENode} (h : fits N) {m : Nat} (hm : m < N.length) : (N.getD m default).fArgs ≤ lenS (N.drop (m + 1)) := by
  have h1 := fits_drop N m h
  rw [List.drop_eq_getElem_cons hm] at h1
  rw [List.getD_eq_getElem?_getD, List.getElem?_eq_getElem hm]
  exact h1.1

theorem stackOf_at (comb : ENode → List α → α) {N : List ENode} {m : Nat} (hm : m < N.length) : stackOf comb (N.drop m) = stepS comb (N.getD m default) (stackOf comb (N.drop (m + 1))) := by
  rw [List.drop_eq_getElem_cons hm, List.getD_eq_getElem?_getD, List.getElem?_eq_getElem hm]
  rfl
end
end Go.Proofs.Ytoockfmkcjomhaa
