/-
  NARROWER THAN 'FOR EVERY INPUT', by the rows' own cells (each row's printed sentence says how): FnExactCountExpr: loops · FnExactDepthOfExpr: loops · FnExactEqualExpr: loops · FnExactHasRemote: loops.
  DERIVED. THE GIVEN ROWS OF THIS SEAT. 11 by the template 'for every input the law returns true; each argument reads behind the call as it read before'; 0 by the template 'total and deterministic' (their statements: YtjjbnbhcfhbfdabTotals.lean).
  GIVEN WITH THE SEED: the statements are not yours to turn. If you find one false, say at which input.
  Laid BY PROGRAM, IN A SANDBOX (cutbox-rows.mjs): the forced cells as the released guide's own fill.sh prints them over the translation a4ca7851feebe410… (all of the seat's roots in one cut). By AI agents, Wed Nov 11 2026. No macro, syntax, notation, axiom, sorry.
-/
import Derived.Test.YtjjbnbhcfhbfdabChecked
import GoSem.Claim
import GoSem.ClaimJoined
import GoSem.ClaimMapViews
import Derived.JoinedTies
import Derived.KernelRfl
namespace Go.Proofs.Ytjjbnbhcfhbfdab
/- THE CELL 'sum', in the pinned program and in every row, IS THE sha256 OF THE DUMP (.gsa) THAT YtjjbnbhcfhbfdabProg.lean LOADS. Nothing in Lean hashes anything: it is a label: what it is worth is what the hold of that sum in a sandbox is worth. -/
noncomputable def Try.pinned : Pinned := { name := "ytjjbnbhcfhbfdab", sum := "a4ca7851feebe4102fa672c5b8ed016af198d6dffaaded5d2e6b412f59cd185a", checked := Try.checked }
namespace Rows
def none {H : Type} : Left H := { results := [], args := [] }

/-- 'laws.FnExactCountExpr': WHATEVER THE INPUT: true; the input reads as it did. -/
def fnExactCountExprSpec : ChangeSpec := { name := "fnExactCountExpr", fn := fun _ => fun
  | [d] => { results := [.lit (.bool true)], args := [d] }
  | _ => none }
def fnExactCountExprRow : OpenClaim := { program := "ytjjbnbhcfhbfdab", sum := "a4ca7851feebe4102fa672c5b8ed016af198d6dffaaded5d2e6b412f59cd185a", func := "loop.example/g00512/laws.FnExactCountExpr", spec := "fnExactCountExpr", recurses := true, loops := true, apart := false }
def FnExactCountExprSaid : Prop := fnExactCountExprRow.holds Try.pinned (OpenSpec.ofChange fnExactCountExprSpec)

/-- ITS FALSE NEIGHBOUR: 'it returns false'. Refute it at one input. -/
def fnExactCountExprWrong : ChangeSpec := { name := "fnExactCountExpr", fn := fun _ => fun
  | [d] => { results := [.lit (.bool false)], args := [d] }
  | _ => none }
def FnExactCountExprWrongFalsely : Prop := fnExactCountExprRow.holds Try.pinned (OpenSpec.ofChange fnExactCountExprWrong)

/-- 'laws.FnExactDepthOfExpr': WHATEVER THE INPUT: true; the input reads as it did. -/
def fnExactDepthOfExprSpec : ChangeSpec := { name := "fnExactDepthOfExpr", fn := fun _ => fun
  | [d] => { results := [.lit (.bool true)], args := [d] }
  | _ => none }
def fnExactDepthOfExprRow : OpenClaim := { program := "ytjjbnbhcfhbfdab", sum := "a4ca7851feebe4102fa672c5b8ed016af198d6dffaaded5d2e6b412f59cd185a", func := "loop.example/g00512/laws.FnExactDepthOfExpr", spec := "fnExactDepthOfExpr", recurses := true, loops := true, apart := false }
def FnExactDepthOfExprSaid : Prop := fnExactDepthOfExprRow.holds Try.pinned (OpenSpec.ofChange fnExactDepthOfExprSpec)

/-- ITS FALSE NEIGHBOUR: 'it returns false'. Refute it at one input. -/
def fnExactDepthOfExprWrong : ChangeSpec := { name := "fnExactDepthOfExpr", fn := fun _ => fun
  | [d] => { results := [.lit (.bool false)], args := [d] }
  | _ => none }
def FnExactDepthOfExprWrongFalsely : Prop := fnExactDepthOfExprRow.holds Try.pinned (OpenSpec.ofChange fnExactDepthOfExprWrong)

/-- 'laws.FnExactEqualExpr': WHATEVER THE INPUT: true; the input reads as it did. -/
def fnExactEqualExprSpec : ChangeSpec := { name := "fnExactEqualExpr", fn := fun _ => fun
  | [d1, d2] => { results := [.lit (.bool true)], args := [d1, d2] }
  | _ => none }
def fnExactEqualExprRow : OpenClaim := { program := "ytjjbnbhcfhbfdab", sum := "a4ca7851feebe4102fa672c5b8ed016af198d6dffaaded5d2e6b412f59cd185a", func := "loop.example/g00512/laws.FnExactEqualExpr", spec := "fnExactEqualExpr", recurses := true, loops := true, apart := false }
def FnExactEqualExprSaid : Prop := fnExactEqualExprRow.holds Try.pinned (OpenSpec.ofChange fnExactEqualExprSpec)

/-- ITS FALSE NEIGHBOUR: 'it returns false'. Refute it at one input. -/
def fnExactEqualExprWrong : ChangeSpec := { name := "fnExactEqualExpr", fn := fun _ => fun
  | [d1, d2] => { results := [.lit (.bool false)], args := [d1, d2] }
  | _ => none }
def FnExactEqualExprWrongFalsely : Prop := fnExactEqualExprRow.holds Try.pinned (OpenSpec.ofChange fnExactEqualExprWrong)

/-- 'laws.FnExactHasRemote': WHATEVER THE INPUT: true; the input reads as it did. -/
def fnExactHasRemoteSpec : ChangeSpec := { name := "fnExactHasRemote", fn := fun _ => fun
  | [d] => { results := [.lit (.bool true)], args := [d] }
  | _ => none }
def fnExactHasRemoteRow : OpenClaim := { program := "ytjjbnbhcfhbfdab", sum := "a4ca7851feebe4102fa672c5b8ed016af198d6dffaaded5d2e6b412f59cd185a", func := "loop.example/g00512/laws.FnExactHasRemote", spec := "fnExactHasRemote", unfollowed := true, recurses := true, loops := true, apart := false }
def FnExactHasRemoteSaid : Prop := fnExactHasRemoteRow.holds Try.pinned (OpenSpec.ofChange fnExactHasRemoteSpec)

/-- ITS FALSE NEIGHBOUR: 'it returns false'. Refute it at one input. -/
def fnExactHasRemoteWrong : ChangeSpec := { name := "fnExactHasRemote", fn := fun _ => fun
  | [d] => { results := [.lit (.bool false)], args := [d] }
  | _ => none }
def FnExactHasRemoteWrongFalsely : Prop := fnExactHasRemoteRow.holds Try.pinned (OpenSpec.ofChange fnExactHasRemoteWrong)

/-- 'laws.FnExactAddPair': WHATEVER THE INPUT: true; the input reads as it did. -/
def fnExactAddPairSpec : ChangeSpec := { name := "fnExactAddPair", fn := fun _ => fun
  | [d1, d2, d3] => { results := [.lit (.bool true)], args := [d1, d2, d3] }
  | _ => none }
def fnExactAddPairRow : OpenClaim := { program := "ytjjbnbhcfhbfdab", sum := "a4ca7851feebe4102fa672c5b8ed016af198d6dffaaded5d2e6b412f59cd185a", func := "loop.example/g00512/laws.FnExactAddPair", spec := "fnExactAddPair", unfollowed := true, recurses := true, apart := false }
def FnExactAddPairSaid : Prop := fnExactAddPairRow.holds Try.pinned (OpenSpec.ofChange fnExactAddPairSpec)

/-- ITS FALSE NEIGHBOUR: 'it returns false'. Refute it at one input. -/
def fnExactAddPairWrong : ChangeSpec := { name := "fnExactAddPair", fn := fun _ => fun
  | [d1, d2, d3] => { results := [.lit (.bool false)], args := [d1, d2, d3] }
  | _ => none }
def FnExactAddPairWrongFalsely : Prop := fnExactAddPairRow.holds Try.pinned (OpenSpec.ofChange fnExactAddPairWrong)

/-- 'laws.FnExactUnionRelation': WHATEVER THE INPUT: true; the input reads as it did. -/
def fnExactUnionRelationSpec : ChangeSpec := { name := "fnExactUnionRelation", fn := fun _ => fun
  | [d1, d2] => { results := [.lit (.bool true)], args := [d1, d2] }
  | _ => none }
def fnExactUnionRelationRow : OpenClaim := { program := "ytjjbnbhcfhbfdab", sum := "a4ca7851feebe4102fa672c5b8ed016af198d6dffaaded5d2e6b412f59cd185a", func := "loop.example/g00512/laws.FnExactUnionRelation", spec := "fnExactUnionRelation", unfollowed := true, recurses := true, apart := false }
def FnExactUnionRelationSaid : Prop := fnExactUnionRelationRow.holds Try.pinned (OpenSpec.ofChange fnExactUnionRelationSpec)

/-- ITS FALSE NEIGHBOUR: 'it returns false'. Refute it at one input. -/
def fnExactUnionRelationWrong : ChangeSpec := { name := "fnExactUnionRelation", fn := fun _ => fun
  | [d1, d2] => { results := [.lit (.bool false)], args := [d1, d2] }
  | _ => none }
def FnExactUnionRelationWrongFalsely : Prop := fnExactUnionRelationRow.holds Try.pinned (OpenSpec.ofChange fnExactUnionRelationWrong)

/-- 'laws.FnExactCloseRelation': WHATEVER THE INPUT: true; the input reads as it did. -/
def fnExactCloseRelationSpec : ChangeSpec := { name := "fnExactCloseRelation", fn := fun _ => fun
  | [d] => { results := [.lit (.bool true)], args := [d] }
  | _ => none }
def fnExactCloseRelationRow : OpenClaim := { program := "ytjjbnbhcfhbfdab", sum := "a4ca7851feebe4102fa672c5b8ed016af198d6dffaaded5d2e6b412f59cd185a", func := "loop.example/g00512/laws.FnExactCloseRelation", spec := "fnExactCloseRelation", unfollowed := true, recurses := true, apart := false }
def FnExactCloseRelationSaid : Prop := fnExactCloseRelationRow.holds Try.pinned (OpenSpec.ofChange fnExactCloseRelationSpec)

/-- ITS FALSE NEIGHBOUR: 'it returns false'. Refute it at one input. -/
def fnExactCloseRelationWrong : ChangeSpec := { name := "fnExactCloseRelation", fn := fun _ => fun
  | [d] => { results := [.lit (.bool false)], args := [d] }
  | _ => none }
def FnExactCloseRelationWrongFalsely : Prop := fnExactCloseRelationRow.holds Try.pinned (OpenSpec.ofChange fnExactCloseRelationWrong)

/-- 'laws.FnExactHasLoop': WHATEVER THE INPUT: true; the input reads as it did. -/
def fnExactHasLoopSpec : ChangeSpec := { name := "fnExactHasLoop", fn := fun _ => fun
  | [d] => { results := [.lit (.bool true)], args := [d] }
  | _ => none }
def fnExactHasLoopRow : OpenClaim := { program := "ytjjbnbhcfhbfdab", sum := "a4ca7851feebe4102fa672c5b8ed016af198d6dffaaded5d2e6b412f59cd185a", func := "loop.example/g00512/laws.FnExactHasLoop", spec := "fnExactHasLoop", unfollowed := true, recurses := true, apart := false }
def FnExactHasLoopSaid : Prop := fnExactHasLoopRow.holds Try.pinned (OpenSpec.ofChange fnExactHasLoopSpec)

/-- ITS FALSE NEIGHBOUR: 'it returns false'. Refute it at one input. -/
def fnExactHasLoopWrong : ChangeSpec := { name := "fnExactHasLoop", fn := fun _ => fun
  | [d] => { results := [.lit (.bool false)], args := [d] }
  | _ => none }
def FnExactHasLoopWrongFalsely : Prop := fnExactHasLoopRow.holds Try.pinned (OpenSpec.ofChange fnExactHasLoopWrong)

/-- 'laws.FnExactProjectRelation': WHATEVER THE INPUT: true; the input reads as it did. -/
def fnExactProjectRelationSpec : ChangeSpec := { name := "fnExactProjectRelation", fn := fun _ => fun
  | [d1, d2] => { results := [.lit (.bool true)], args := [d1, d2] }
  | _ => none }
def fnExactProjectRelationRow : OpenClaim := { program := "ytjjbnbhcfhbfdab", sum := "a4ca7851feebe4102fa672c5b8ed016af198d6dffaaded5d2e6b412f59cd185a", func := "loop.example/g00512/laws.FnExactProjectRelation", spec := "fnExactProjectRelation", unfollowed := true, recurses := true, apart := false }
def FnExactProjectRelationSaid : Prop := fnExactProjectRelationRow.holds Try.pinned (OpenSpec.ofChange fnExactProjectRelationSpec)

/-- ITS FALSE NEIGHBOUR: 'it returns false'. Refute it at one input. -/
def fnExactProjectRelationWrong : ChangeSpec := { name := "fnExactProjectRelation", fn := fun _ => fun
  | [d1, d2] => { results := [.lit (.bool false)], args := [d1, d2] }
  | _ => none }
def FnExactProjectRelationWrongFalsely : Prop := fnExactProjectRelationRow.holds Try.pinned (OpenSpec.ofChange fnExactProjectRelationWrong)

/-- 'laws.FnExactTreeHeight': WHATEVER THE INPUT: true; the input reads as it did. -/
def fnExactTreeHeightSpec : ChangeSpec := { name := "fnExactTreeHeight", fn := fun _ => fun
  | [d1, d2] => { results := [.lit (.bool true)], args := [d1, d2] }
  | _ => none }
def fnExactTreeHeightRow : OpenClaim := { program := "ytjjbnbhcfhbfdab", sum := "a4ca7851feebe4102fa672c5b8ed016af198d6dffaaded5d2e6b412f59cd185a", func := "loop.example/g00512/laws.FnExactTreeHeight", spec := "fnExactTreeHeight", apart := false }
def FnExactTreeHeightSaid : Prop := fnExactTreeHeightRow.holds Try.pinned (OpenSpec.ofChange fnExactTreeHeightSpec)

/-- ITS FALSE NEIGHBOUR: 'it returns false'. Refute it at one input. -/
def fnExactTreeHeightWrong : ChangeSpec := { name := "fnExactTreeHeight", fn := fun _ => fun
  | [d1, d2] => { results := [.lit (.bool false)], args := [d1, d2] }
  | _ => none }
def FnExactTreeHeightWrongFalsely : Prop := fnExactTreeHeightRow.holds Try.pinned (OpenSpec.ofChange fnExactTreeHeightWrong)

/-- 'laws.FnExactNodeIds': WHATEVER THE INPUT: true; the input reads as it did. -/
def fnExactNodeIdsSpec : ChangeSpec := { name := "fnExactNodeIds", fn := fun _ => fun
  | [d1, d2] => { results := [.lit (.bool true)], args := [d1, d2] }
  | _ => none }
def fnExactNodeIdsRow : OpenClaim := { program := "ytjjbnbhcfhbfdab", sum := "a4ca7851feebe4102fa672c5b8ed016af198d6dffaaded5d2e6b412f59cd185a", func := "loop.example/g00512/laws.FnExactNodeIds", spec := "fnExactNodeIds", apart := false }
def FnExactNodeIdsSaid : Prop := fnExactNodeIdsRow.holds Try.pinned (OpenSpec.ofChange fnExactNodeIdsSpec)

/-- ITS FALSE NEIGHBOUR: 'it returns false'. Refute it at one input. -/
def fnExactNodeIdsWrong : ChangeSpec := { name := "fnExactNodeIds", fn := fun _ => fun
  | [d1, d2] => { results := [.lit (.bool false)], args := [d1, d2] }
  | _ => none }
def FnExactNodeIdsWrongFalsely : Prop := fnExactNodeIdsRow.holds Try.pinned (OpenSpec.ofChange fnExactNodeIdsWrong)

/- THE SECOND FORM. 'bulk': how many values and letters a reading holds, each counted each time it is reached (what is shared counts as often as it is met; a slice's spare places count too). A statement '..UptoSaid' is the law's where the arguments, and the package variables that the reading takes, are together of bulk at most 1048576: NARROWER than '..Said'. Prove '..Said' where nothing that the law and all that it calls make is longer than what came in: it says more and counts as full. Else prove '..UptoSaid'. A law counts once. -/
mutual
def uptoBulk {H : Type} : DataW H → Nat
  | .lit (.string bytes) => bytes.length + 1
  | .lit _ => 1
  | .nil => 1
  | .ptr d => uptoBulk d + 1
  | .slice elems spare => uptoBulkAll elems + uptoBulkAll spare + 1
  | .agg parts => uptoBulkAll parts + 1
  | .iface _ d => uptoBulk d + 1
  | .map entries => uptoBulkEntries entries + 1
  | .held _ => 1
def uptoBulkAll {H : Type} : List (DataW H) → Nat
  | [] => 0
  | d :: r => uptoBulk d + uptoBulkAll r
def uptoBulkEntries {H : Type} : List (Lit × DataW H) → Nat
  | [] => 0
  | x :: r => uptoBulkEntry x + uptoBulkEntries r
def uptoBulkEntry {H : Type} : Lit × DataW H → Nat
  | (.string bytes, d) => bytes.length + uptoBulk d + 1
  | (_, d) => uptoBulk d + 1
 end
def uptoSmall : (H : Type) → List (DataW H) → Bool := fun _ ds => decide (uptoBulkAll ds ≤ 1048576)
def OpenSpec.upto (s : _root_.Go.ChangeSpec) : _root_.Go.OpenSpec := { _root_.Go.OpenSpec.ofChange s with cond := some uptoSmall }

/-- 'laws.FnExactCountExpr', WHERE WHAT IT READS IS OF BULK AT MOST 1048576: true; the input reads as it did. -/
def fnExactCountExprUptoRow : OpenClaim := { program := "ytjjbnbhcfhbfdab", sum := "a4ca7851feebe4102fa672c5b8ed016af198d6dffaaded5d2e6b412f59cd185a", func := "loop.example/g00512/laws.FnExactCountExpr", spec := "fnExactCountExpr", recurses := true, loops := true, apart := false, narrowed := true }
def FnExactCountExprUptoSaid : Prop := fnExactCountExprUptoRow.holds Try.pinned (OpenSpec.upto fnExactCountExprSpec)

/-- 'laws.FnExactDepthOfExpr', WHERE WHAT IT READS IS OF BULK AT MOST 1048576: true; the input reads as it did. -/
def fnExactDepthOfExprUptoRow : OpenClaim := { program := "ytjjbnbhcfhbfdab", sum := "a4ca7851feebe4102fa672c5b8ed016af198d6dffaaded5d2e6b412f59cd185a", func := "loop.example/g00512/laws.FnExactDepthOfExpr", spec := "fnExactDepthOfExpr", recurses := true, loops := true, apart := false, narrowed := true }
def FnExactDepthOfExprUptoSaid : Prop := fnExactDepthOfExprUptoRow.holds Try.pinned (OpenSpec.upto fnExactDepthOfExprSpec)

/-- 'laws.FnExactEqualExpr', WHERE WHAT IT READS IS OF BULK AT MOST 1048576: true; the input reads as it did. -/
def fnExactEqualExprUptoRow : OpenClaim := { program := "ytjjbnbhcfhbfdab", sum := "a4ca7851feebe4102fa672c5b8ed016af198d6dffaaded5d2e6b412f59cd185a", func := "loop.example/g00512/laws.FnExactEqualExpr", spec := "fnExactEqualExpr", recurses := true, loops := true, apart := false, narrowed := true }
def FnExactEqualExprUptoSaid : Prop := fnExactEqualExprUptoRow.holds Try.pinned (OpenSpec.upto fnExactEqualExprSpec)

/-- 'laws.FnExactHasRemote', WHERE WHAT IT READS IS OF BULK AT MOST 1048576: true; the input reads as it did. -/
def fnExactHasRemoteUptoRow : OpenClaim := { program := "ytjjbnbhcfhbfdab", sum := "a4ca7851feebe4102fa672c5b8ed016af198d6dffaaded5d2e6b412f59cd185a", func := "loop.example/g00512/laws.FnExactHasRemote", spec := "fnExactHasRemote", unfollowed := true, recurses := true, loops := true, apart := false, narrowed := true }
def FnExactHasRemoteUptoSaid : Prop := fnExactHasRemoteUptoRow.holds Try.pinned (OpenSpec.upto fnExactHasRemoteSpec)

/-- 'laws.FnExactAddPair', WHERE WHAT IT READS IS OF BULK AT MOST 1048576: true; the input reads as it did. -/
def fnExactAddPairUptoRow : OpenClaim := { program := "ytjjbnbhcfhbfdab", sum := "a4ca7851feebe4102fa672c5b8ed016af198d6dffaaded5d2e6b412f59cd185a", func := "loop.example/g00512/laws.FnExactAddPair", spec := "fnExactAddPair", unfollowed := true, recurses := true, apart := false, narrowed := true }
def FnExactAddPairUptoSaid : Prop := fnExactAddPairUptoRow.holds Try.pinned (OpenSpec.upto fnExactAddPairSpec)

/-- 'laws.FnExactUnionRelation', WHERE WHAT IT READS IS OF BULK AT MOST 1048576: true; the input reads as it did. -/
def fnExactUnionRelationUptoRow : OpenClaim := { program := "ytjjbnbhcfhbfdab", sum := "a4ca7851feebe4102fa672c5b8ed016af198d6dffaaded5d2e6b412f59cd185a", func := "loop.example/g00512/laws.FnExactUnionRelation", spec := "fnExactUnionRelation", unfollowed := true, recurses := true, apart := false, narrowed := true }
def FnExactUnionRelationUptoSaid : Prop := fnExactUnionRelationUptoRow.holds Try.pinned (OpenSpec.upto fnExactUnionRelationSpec)

/-- 'laws.FnExactCloseRelation', WHERE WHAT IT READS IS OF BULK AT MOST 1048576: true; the input reads as it did. -/
def fnExactCloseRelationUptoRow : OpenClaim := { program := "ytjjbnbhcfhbfdab", sum := "a4ca7851feebe4102fa672c5b8ed016af198d6dffaaded5d2e6b412f59cd185a", func := "loop.example/g00512/laws.FnExactCloseRelation", spec := "fnExactCloseRelation", unfollowed := true, recurses := true, apart := false, narrowed := true }
def FnExactCloseRelationUptoSaid : Prop := fnExactCloseRelationUptoRow.holds Try.pinned (OpenSpec.upto fnExactCloseRelationSpec)

/-- 'laws.FnExactHasLoop', WHERE WHAT IT READS IS OF BULK AT MOST 1048576: true; the input reads as it did. -/
def fnExactHasLoopUptoRow : OpenClaim := { program := "ytjjbnbhcfhbfdab", sum := "a4ca7851feebe4102fa672c5b8ed016af198d6dffaaded5d2e6b412f59cd185a", func := "loop.example/g00512/laws.FnExactHasLoop", spec := "fnExactHasLoop", unfollowed := true, recurses := true, apart := false, narrowed := true }
def FnExactHasLoopUptoSaid : Prop := fnExactHasLoopUptoRow.holds Try.pinned (OpenSpec.upto fnExactHasLoopSpec)

/-- 'laws.FnExactProjectRelation', WHERE WHAT IT READS IS OF BULK AT MOST 1048576: true; the input reads as it did. -/
def fnExactProjectRelationUptoRow : OpenClaim := { program := "ytjjbnbhcfhbfdab", sum := "a4ca7851feebe4102fa672c5b8ed016af198d6dffaaded5d2e6b412f59cd185a", func := "loop.example/g00512/laws.FnExactProjectRelation", spec := "fnExactProjectRelation", unfollowed := true, recurses := true, apart := false, narrowed := true }
def FnExactProjectRelationUptoSaid : Prop := fnExactProjectRelationUptoRow.holds Try.pinned (OpenSpec.upto fnExactProjectRelationSpec)

/-- 'laws.FnExactTreeHeight', WHERE WHAT IT READS IS OF BULK AT MOST 1048576: true; the input reads as it did. -/
def fnExactTreeHeightUptoRow : OpenClaim := { program := "ytjjbnbhcfhbfdab", sum := "a4ca7851feebe4102fa672c5b8ed016af198d6dffaaded5d2e6b412f59cd185a", func := "loop.example/g00512/laws.FnExactTreeHeight", spec := "fnExactTreeHeight", apart := false, narrowed := true }
def FnExactTreeHeightUptoSaid : Prop := fnExactTreeHeightUptoRow.holds Try.pinned (OpenSpec.upto fnExactTreeHeightSpec)

/-- 'laws.FnExactNodeIds', WHERE WHAT IT READS IS OF BULK AT MOST 1048576: true; the input reads as it did. -/
def fnExactNodeIdsUptoRow : OpenClaim := { program := "ytjjbnbhcfhbfdab", sum := "a4ca7851feebe4102fa672c5b8ed016af198d6dffaaded5d2e6b412f59cd185a", func := "loop.example/g00512/laws.FnExactNodeIds", spec := "fnExactNodeIds", apart := false, narrowed := true }
def FnExactNodeIdsUptoSaid : Prop := fnExactNodeIdsUptoRow.holds Try.pinned (OpenSpec.upto fnExactNodeIdsSpec)

end Rows
end Go.Proofs.Ytjjbnbhcfhbfdab
