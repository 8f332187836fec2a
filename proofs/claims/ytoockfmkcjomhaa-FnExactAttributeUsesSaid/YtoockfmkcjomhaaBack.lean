/-
  slices.Backward over the nodes of an expression: what a loop over it is told of its rounds.
-/
import Derived.Test.YtoockfmkcjomhaaECount
import Derived.Test.YtoockfmkcjomhaaRangeOn
import Derived.RangeFuncNested
import Derived.RangeFuncBound
import Derived.RangeFuncCalls
import Derived.RangeFuncLeaves
import Derived.Shelf.Abstract
import Derived.Shelf.RegionOpen
import Derived.WalkKit
import Derived.OwnWalkIn
import Derived.TacticsInMore
import Derived.LoopNIn
import Derived.LoopIn
namespace Go.Proofs.Ytoockfmkcjomhaa
open Go.ChangeShapes Go.WideShapes Go.ChangeAt Go.RowKit Go.Deep

/-- A node by value. -/
def ENode.agg (n : ENode) : Value := .agg #[.int .i64 n.fKind, .int .i64 n.fN, .int .i64 n.fPos, .int .i64 n.fType, .string n.fSymbol, .string n.fName, .int .i64 n.fArgs, .int .i64 n.fDepth]

/-- The cells of the blocks that P names lie as they lay. -/
def KeepsAt (P : Nat → Prop) (A B : World) : Prop := ∀ b o, P b → B.cell? ⟨b, o, none⟩ = A.cell? ⟨b, o, none⟩

theorem KeepsAt.refl {P : Nat → Prop} {A : World} : KeepsAt P A A := fun _ _ _ => rfl

theorem KeepsAt.trans {P : Nat → Prop} {A B C : World} (h : KeepsAt P A B) (k : KeepsAt P B C) : KeepsAt P A C := fun b o hb => (k b o hb).trans (h b o hb)

/-- What KeepsAt asks of the loop's own book-keeping. -/
theorem keepsAt_b {P : Nat → Prop} {w : World} (hP : ∀ b, P b → b < w.heap.size) (W : World) (l : Nat) (o o' : Obj) (hl : w.heap.size ≤ l) (_ : W.heap[l]? = some o) (_ : o.isCells = false) (_ : o.isWalk = false) : KeepsAt P W (W.putObj l o') := by
  intro b off hb
  have h1 := hP b hb
  have h2 : b ≠ l := by omega
  unfold World.cell?
  simp [World.putObj, Ne.symm h2]
end Go.Proofs.Ytoockfmkcjomhaa
