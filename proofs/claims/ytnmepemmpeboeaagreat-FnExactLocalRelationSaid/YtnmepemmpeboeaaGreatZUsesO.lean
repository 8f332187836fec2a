/-
  AttributeUses: what it computes: the attributes of the nodes, put one by one.
-/
import Derived.Test.YtnmepemmpeboeaaGreatZz9
import Derived.Test.YtnmepemmpeboeaaGreatZz11
import Derived.RangeFuncNested
import Derived.RangeFuncBound
import Derived.RangeFuncCalls
import Derived.RangeFuncLeaves
import Derived.Shelf.Abstract
import Derived.Shelf.RegionOpen
import Derived.WalkKit
import Derived.OwnWalkIn
import Derived.TacticsInMore
import Derived.LoopNIn
import Derived.LoopIn
import Derived.RangeFuncWrites
namespace Go.Proofs.YtnmepemmpeboeaaGreat

def occOf (nd : ENode) : List DOccurrence := if nd.fKind = 3 then [⟨nd.fPos, nd.fName⟩] else []
theorem occOf_depth (e : DExpr) (d : Nat) : occOf (nodeOfX e d) = occOf (nodeOfX e 0) := rfl
theorem occL_all (d : Nat) : ∀ l : List DExpr, (∀ a ∈ l, ∀ d, (nodesX a d).flatMap occOf = (nodesX a 0).flatMap occOf) → (nodesL l d).flatMap occOf = l.flatMap fun a => (nodesX a 0).flatMap occOf
  | [], _ => rfl
  | e :: es, h => by
    show (nodesX e d ++ nodesL es d).flatMap occOf = _
    rw [List.flatMap_append, h e (List.mem_cons_self ..), occL_all d es fun a ha => h a (List.mem_cons_of_mem _ ha), List.flatMap_cons]
theorem occX_depth : ∀ (e : DExpr) (d : Nat), (nodesX e d).flatMap occOf = (nodesX e 0).flatMap occOf := by
  intro e
  refine DExpr.ind (P := fun e => ∀ d, (nodesX e d).flatMap occOf = (nodesX e 0).flatMap occOf) (fun e ih d => ?_) e
  rw [nodesX_eq, nodesX_eq, List.flatMap_cons, List.flatMap_cons, occL_all _ _ ih, occL_all _ _ ih, occOf_depth]
/-- The attributes of an expression's nodes, in preorder. -/
def occE (e : DExpr) : List DOccurrence := (nodesX e 0).flatMap occOf
theorem occE_at (e : DExpr) (d : Nat) : (nodesX e d).flatMap occOf = occE e := occX_depth e d
theorem occE_eq (e : DExpr) : occE e = occOf (nodeOfX e 0) ++ e.fArgs.flatMap occE := by
  unfold occE
  rw [nodesX_eq, List.flatMap_cons, occL_all _ _ fun a _ => occX_depth a]
/-- What AttributeUses answers. -/
def attrUses (e : DExpr) : List DOccurrence := putAll ltO [] (occE e)
end Go.Proofs.YtnmepemmpeboeaaGreat
