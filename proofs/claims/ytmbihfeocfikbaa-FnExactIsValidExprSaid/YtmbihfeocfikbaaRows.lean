/-
  NARROWER THAN 'FOR EVERY INPUT', by the rows' own cells (each row's printed sentence says how): FnExactCountExpr: loops · FnExactDepthOfExpr: loops · FnExactEqualExpr: loops · FnExactHasRemote: loops · FnExactUsesAny: loops · FnExactIsMonotone: loops · FnExactIsValidExpr: loops · FnExactAttributeUses: loops · FnExactSymbolAt: loops · FnExactEqualRule: loops · FnExactFindEquation: loops.
  DERIVED. THE GIVEN ROWS OF THIS SEAT. 11 by the template 'for every input the law returns true; each argument reads behind the call as it read before'; 0 by the template 'total and deterministic' (their statements: YtmbihfeocfikbaaTotals.lean).
  GIVEN WITH THE SEED: the statements are not yours to turn. If you find one false, say at which input.
  Laid BY PROGRAM, IN A SANDBOX (cutbox-rows.mjs): the forced cells as the released guide's own fill.sh prints them over the translation 0328fb5b9f78b46f… (all of the seat's roots in one cut). By AI agents, Wed Nov 11 2026. No macro, syntax, notation, axiom, sorry.
-/
import Derived.Test.YtmbihfeocfikbaaChecked
import GoSem.Claim
import GoSem.ClaimJoined
import GoSem.ClaimMapViews
import Derived.JoinedTies
import Derived.KernelRfl
namespace Go.Proofs.Ytmbihfeocfikbaa
/- THE CELL 'sum', in the pinned program and in every row, IS THE sha256 OF THE DUMP (.gsa) THAT YtmbihfeocfikbaaProg.lean LOADS. Nothing in Lean hashes anything: it is a label: what it is worth is what the hold of that sum in a sandbox is worth. -/
noncomputable def Try.pinned : Pinned := { name := "ytmbihfeocfikbaa", sum := "0328fb5b9f78b46f5e0dcd1824d749c0b91e95ea91c6ebeac9607befa330e215", checked := Try.checked }
namespace Rows
def none {H : Type} : Left H := { results := [], args := [] }

/-- 'laws.FnExactCountExpr': WHATEVER THE INPUT: true; the input reads as it did. -/
def fnExactCountExprSpec : ChangeSpec := { name := "fnExactCountExpr", fn := fun _ => fun
  | [d] => { results := [.lit (.bool true)], args := [d] }
  | _ => none }
def fnExactCountExprRow : OpenClaim := { program := "ytmbihfeocfikbaa", sum := "0328fb5b9f78b46f5e0dcd1824d749c0b91e95ea91c6ebeac9607befa330e215", func := "loop.example/g00512/laws.FnExactCountExpr", spec := "fnExactCountExpr", recurses := true, loops := true, apart := false }
def FnExactCountExprSaid : Prop := fnExactCountExprRow.holds Try.pinned (OpenSpec.ofChange fnExactCountExprSpec)

/-- ITS FALSE NEIGHBOUR: 'it returns false'. Refute it at one input. -/
def fnExactCountExprWrong : ChangeSpec := { name := "fnExactCountExpr", fn := fun _ => fun
  | [d] => { results := [.lit (.bool false)], args := [d] }
  | _ => none }
def FnExactCountExprWrongFalsely : Prop := fnExactCountExprRow.holds Try.pinned (OpenSpec.ofChange fnExactCountExprWrong)

/-- 'laws.FnExactDepthOfExpr': WHATEVER THE INPUT: true; the input reads as it did. -/
def fnExactDepthOfExprSpec : ChangeSpec := { name := "fnExactDepthOfExpr", fn := fun _ => fun
  | [d] => { results := [.lit (.bool true)], args := [d] }
  | _ => none }
def fnExactDepthOfExprRow : OpenClaim := { program := "ytmbihfeocfikbaa", sum := "0328fb5b9f78b46f5e0dcd1824d749c0b91e95ea91c6ebeac9607befa330e215", func := "loop.example/g00512/laws.FnExactDepthOfExpr", spec := "fnExactDepthOfExpr", recurses := true, loops := true, apart := false }
def FnExactDepthOfExprSaid : Prop := fnExactDepthOfExprRow.holds Try.pinned (OpenSpec.ofChange fnExactDepthOfExprSpec)

/-- ITS FALSE NEIGHBOUR: 'it returns false'. Refute it at one input. -/
def fnExactDepthOfExprWrong : ChangeSpec := { name := "fnExactDepthOfExpr", fn := fun _ => fun
  | [d] => { results := [.lit (.bool false)], args := [d] }
  | _ => none }
def FnExactDepthOfExprWrongFalsely : Prop := fnExactDepthOfExprRow.holds Try.pinned (OpenSpec.ofChange fnExactDepthOfExprWrong)

/-- 'laws.FnExactEqualExpr': WHATEVER THE INPUT: true; the input reads as it did. -/
def fnExactEqualExprSpec : ChangeSpec := { name := "fnExactEqualExpr", fn := fun _ => fun
  | [d1, d2] => { results := [.lit (.bool true)], args := [d1, d2] }
  | _ => none }
def fnExactEqualExprRow : OpenClaim := { program := "ytmbihfeocfikbaa", sum := "0328fb5b9f78b46f5e0dcd1824d749c0b91e95ea91c6ebeac9607befa330e215", func := "loop.example/g00512/laws.FnExactEqualExpr", spec := "fnExactEqualExpr", recurses := true, loops := true, apart := false }
def FnExactEqualExprSaid : Prop := fnExactEqualExprRow.holds Try.pinned (OpenSpec.ofChange fnExactEqualExprSpec)

/-- ITS FALSE NEIGHBOUR: 'it returns false'. Refute it at one input. -/
def fnExactEqualExprWrong : ChangeSpec := { name := "fnExactEqualExpr", fn := fun _ => fun
  | [d1, d2] => { results := [.lit (.bool false)], args := [d1, d2] }
  | _ => none }
def FnExactEqualExprWrongFalsely : Prop := fnExactEqualExprRow.holds Try.pinned (OpenSpec.ofChange fnExactEqualExprWrong)

/-- 'laws.FnExactHasRemote': WHATEVER THE INPUT: true; the input reads as it did. -/
def fnExactHasRemoteSpec : ChangeSpec := { name := "fnExactHasRemote", fn := fun _ => fun
  | [d] => { results := [.lit (.bool true)], args := [d] }
  | _ => none }
def fnExactHasRemoteRow : OpenClaim := { program := "ytmbihfeocfikbaa", sum := "0328fb5b9f78b46f5e0dcd1824d749c0b91e95ea91c6ebeac9607befa330e215", func := "loop.example/g00512/laws.FnExactHasRemote", spec := "fnExactHasRemote", unfollowed := true, recurses := true, loops := true, apart := false }
def FnExactHasRemoteSaid : Prop := fnExactHasRemoteRow.holds Try.pinned (OpenSpec.ofChange fnExactHasRemoteSpec)

/-- ITS FALSE NEIGHBOUR: 'it returns false'. Refute it at one input. -/
def fnExactHasRemoteWrong : ChangeSpec := { name := "fnExactHasRemote", fn := fun _ => fun
  | [d] => { results := [.lit (.bool false)], args := [d] }
  | _ => none }
def FnExactHasRemoteWrongFalsely : Prop := fnExactHasRemoteRow.holds Try.pinned (OpenSpec.ofChange fnExactHasRemoteWrong)

/-- 'laws.FnExactUsesAny': WHATEVER THE INPUT: true; the input reads as it did. -/
def fnExactUsesAnySpec : ChangeSpec := { name := "fnExactUsesAny", fn := fun _ => fun
  | [d1, d2] => { results := [.lit (.bool true)], args := [d1, d2] }
  | _ => none }
def fnExactUsesAnyRow : OpenClaim := { program := "ytmbihfeocfikbaa", sum := "0328fb5b9f78b46f5e0dcd1824d749c0b91e95ea91c6ebeac9607befa330e215", func := "loop.example/g00512/laws.FnExactUsesAny", spec := "fnExactUsesAny", unfollowed := true, recurses := true, loops := true, apart := false }
def FnExactUsesAnySaid : Prop := fnExactUsesAnyRow.holds Try.pinned (OpenSpec.ofChange fnExactUsesAnySpec)

/-- ITS FALSE NEIGHBOUR: 'it returns false'. Refute it at one input. -/
def fnExactUsesAnyWrong : ChangeSpec := { name := "fnExactUsesAny", fn := fun _ => fun
  | [d1, d2] => { results := [.lit (.bool false)], args := [d1, d2] }
  | _ => none }
def FnExactUsesAnyWrongFalsely : Prop := fnExactUsesAnyRow.holds Try.pinned (OpenSpec.ofChange fnExactUsesAnyWrong)

/-- 'laws.FnExactIsMonotone': WHATEVER THE INPUT: true; the input reads as it did. -/
def fnExactIsMonotoneSpec : ChangeSpec := { name := "fnExactIsMonotone", fn := fun _ => fun
  | [d1, d2] => { results := [.lit (.bool true)], args := [d1, d2] }
  | _ => none }
def fnExactIsMonotoneRow : OpenClaim := { program := "ytmbihfeocfikbaa", sum := "0328fb5b9f78b46f5e0dcd1824d749c0b91e95ea91c6ebeac9607befa330e215", func := "loop.example/g00512/laws.FnExactIsMonotone", spec := "fnExactIsMonotone", unfollowed := true, recurses := true, loops := true, apart := false }
def FnExactIsMonotoneSaid : Prop := fnExactIsMonotoneRow.holds Try.pinned (OpenSpec.ofChange fnExactIsMonotoneSpec)

/-- ITS FALSE NEIGHBOUR: 'it returns false'. Refute it at one input. -/
def fnExactIsMonotoneWrong : ChangeSpec := { name := "fnExactIsMonotone", fn := fun _ => fun
  | [d1, d2] => { results := [.lit (.bool false)], args := [d1, d2] }
  | _ => none }
def FnExactIsMonotoneWrongFalsely : Prop := fnExactIsMonotoneRow.holds Try.pinned (OpenSpec.ofChange fnExactIsMonotoneWrong)

/-- 'laws.FnExactIsValidExpr': WHATEVER THE INPUT: true; the input reads as it did. -/
def fnExactIsValidExprSpec : ChangeSpec := { name := "fnExactIsValidExpr", fn := fun _ => fun
  | [d] => { results := [.lit (.bool true)], args := [d] }
  | _ => none }
def fnExactIsValidExprRow : OpenClaim := { program := "ytmbihfeocfikbaa", sum := "0328fb5b9f78b46f5e0dcd1824d749c0b91e95ea91c6ebeac9607befa330e215", func := "loop.example/g00512/laws.FnExactIsValidExpr", spec := "fnExactIsValidExpr", recurses := true, loops := true, apart := false }
def FnExactIsValidExprSaid : Prop := fnExactIsValidExprRow.holds Try.pinned (OpenSpec.ofChange fnExactIsValidExprSpec)

/-- ITS FALSE NEIGHBOUR: 'it returns false'. Refute it at one input. -/
def fnExactIsValidExprWrong : ChangeSpec := { name := "fnExactIsValidExpr", fn := fun _ => fun
  | [d] => { results := [.lit (.bool false)], args := [d] }
  | _ => none }
def FnExactIsValidExprWrongFalsely : Prop := fnExactIsValidExprRow.holds Try.pinned (OpenSpec.ofChange fnExactIsValidExprWrong)

/-- 'laws.FnExactAttributeUses': WHATEVER THE INPUT: true; the input reads as it did. -/
def fnExactAttributeUsesSpec : ChangeSpec := { name := "fnExactAttributeUses", fn := fun _ => fun
  | [d] => { results := [.lit (.bool true)], args := [d] }
  | _ => none }
def fnExactAttributeUsesRow : OpenClaim := { program := "ytmbihfeocfikbaa", sum := "0328fb5b9f78b46f5e0dcd1824d749c0b91e95ea91c6ebeac9607befa330e215", func := "loop.example/g00512/laws.FnExactAttributeUses", spec := "fnExactAttributeUses", unfollowed := true, recurses := true, loops := true, apart := false }
def FnExactAttributeUsesSaid : Prop := fnExactAttributeUsesRow.holds Try.pinned (OpenSpec.ofChange fnExactAttributeUsesSpec)

/-- ITS FALSE NEIGHBOUR: 'it returns false'. Refute it at one input. -/
def fnExactAttributeUsesWrong : ChangeSpec := { name := "fnExactAttributeUses", fn := fun _ => fun
  | [d] => { results := [.lit (.bool false)], args := [d] }
  | _ => none }
def FnExactAttributeUsesWrongFalsely : Prop := fnExactAttributeUsesRow.holds Try.pinned (OpenSpec.ofChange fnExactAttributeUsesWrong)

/-- 'laws.FnExactSymbolAt': WHATEVER THE INPUT: true; the input reads as it did. -/
def fnExactSymbolAtSpec : ChangeSpec := { name := "fnExactSymbolAt", fn := fun _ => fun
  | [d1, d2] => { results := [.lit (.bool true)], args := [d1, d2] }
  | _ => none }
def fnExactSymbolAtRow : OpenClaim := { program := "ytmbihfeocfikbaa", sum := "0328fb5b9f78b46f5e0dcd1824d749c0b91e95ea91c6ebeac9607befa330e215", func := "loop.example/g00512/laws.FnExactSymbolAt", spec := "fnExactSymbolAt", recurses := true, loops := true, apart := false }
def FnExactSymbolAtSaid : Prop := fnExactSymbolAtRow.holds Try.pinned (OpenSpec.ofChange fnExactSymbolAtSpec)

/-- ITS FALSE NEIGHBOUR: 'it returns false'. Refute it at one input. -/
def fnExactSymbolAtWrong : ChangeSpec := { name := "fnExactSymbolAt", fn := fun _ => fun
  | [d1, d2] => { results := [.lit (.bool false)], args := [d1, d2] }
  | _ => none }
def FnExactSymbolAtWrongFalsely : Prop := fnExactSymbolAtRow.holds Try.pinned (OpenSpec.ofChange fnExactSymbolAtWrong)

/-- 'laws.FnExactEqualRule': WHATEVER THE INPUT: true; the input reads as it did. -/
def fnExactEqualRuleSpec : ChangeSpec := { name := "fnExactEqualRule", fn := fun _ => fun
  | [d1, d2] => { results := [.lit (.bool true)], args := [d1, d2] }
  | _ => none }
def fnExactEqualRuleRow : OpenClaim := { program := "ytmbihfeocfikbaa", sum := "0328fb5b9f78b46f5e0dcd1824d749c0b91e95ea91c6ebeac9607befa330e215", func := "loop.example/g00512/laws.FnExactEqualRule", spec := "fnExactEqualRule", unfollowed := true, recurses := true, loops := true, apart := false }
def FnExactEqualRuleSaid : Prop := fnExactEqualRuleRow.holds Try.pinned (OpenSpec.ofChange fnExactEqualRuleSpec)

/-- ITS FALSE NEIGHBOUR: 'it returns false'. Refute it at one input. -/
def fnExactEqualRuleWrong : ChangeSpec := { name := "fnExactEqualRule", fn := fun _ => fun
  | [d1, d2] => { results := [.lit (.bool false)], args := [d1, d2] }
  | _ => none }
def FnExactEqualRuleWrongFalsely : Prop := fnExactEqualRuleRow.holds Try.pinned (OpenSpec.ofChange fnExactEqualRuleWrong)

/-- 'laws.FnExactFindEquation': WHATEVER THE INPUT: true; the input reads as it did. -/
def fnExactFindEquationSpec : ChangeSpec := { name := "fnExactFindEquation", fn := fun _ => fun
  | [d1, d2] => { results := [.lit (.bool true)], args := [d1, d2] }
  | _ => none }
def fnExactFindEquationRow : OpenClaim := { program := "ytmbihfeocfikbaa", sum := "0328fb5b9f78b46f5e0dcd1824d749c0b91e95ea91c6ebeac9607befa330e215", func := "loop.example/g00512/laws.FnExactFindEquation", spec := "fnExactFindEquation", unfollowed := true, recurses := true, loops := true, apart := false }
def FnExactFindEquationSaid : Prop := fnExactFindEquationRow.holds Try.pinned (OpenSpec.ofChange fnExactFindEquationSpec)

/-- ITS FALSE NEIGHBOUR: 'it returns false'. Refute it at one input. -/
def fnExactFindEquationWrong : ChangeSpec := { name := "fnExactFindEquation", fn := fun _ => fun
  | [d1, d2] => { results := [.lit (.bool false)], args := [d1, d2] }
  | _ => none }
def FnExactFindEquationWrongFalsely : Prop := fnExactFindEquationRow.holds Try.pinned (OpenSpec.ofChange fnExactFindEquationWrong)

/- THE SECOND FORM. 'bulk': how many values and letters a reading holds, each counted each time it is reached (what is shared counts as often as it is met; a slice's spare places count too). A statement '..UptoSaid' is the law's where the arguments, and the package variables that the reading takes, are together of bulk at most 1048576: NARROWER than '..Said'. Prove '..Said' where nothing that the law and all that it calls make is longer than what came in: it says more and counts as full. Else prove '..UptoSaid'. A law counts once. -/
mutual
def uptoBulk {H : Type} : DataW H → Nat
  | .lit (.string bytes) => bytes.length + 1
  | .lit _ => 1
  | .nil => 1
  | .ptr d => uptoBulk d + 1
  | .slice elems spare => uptoBulkAll elems + uptoBulkAll spare + 1
  | .agg parts => uptoBulkAll parts + 1
  | .iface _ d => uptoBulk d + 1
  | .map entries => uptoBulkEntries entries + 1
  | .held _ => 1
def uptoBulkAll {H : Type} : List (DataW H) → Nat
  | [] => 0
  | d :: r => uptoBulk d + uptoBulkAll r
def uptoBulkEntries {H : Type} : List (Lit × DataW H) → Nat
  | [] => 0
  | x :: r => uptoBulkEntry x + uptoBulkEntries r
def uptoBulkEntry {H : Type} : Lit × DataW H → Nat
  | (.string bytes, d) => bytes.length + uptoBulk d + 1
  | (_, d) => uptoBulk d + 1
 end
def uptoSmall : (H : Type) → List (DataW H) → Bool := fun _ ds => decide (uptoBulkAll ds ≤ 1048576)
def OpenSpec.upto (s : _root_.Go.ChangeSpec) : _root_.Go.OpenSpec := { _root_.Go.OpenSpec.ofChange s with cond := some uptoSmall }

/-- 'laws.FnExactCountExpr', WHERE WHAT IT READS IS OF BULK AT MOST 1048576: true; the input reads as it did. -/
def fnExactCountExprUptoRow : OpenClaim := { program := "ytmbihfeocfikbaa", sum := "0328fb5b9f78b46f5e0dcd1824d749c0b91e95ea91c6ebeac9607befa330e215", func := "loop.example/g00512/laws.FnExactCountExpr", spec := "fnExactCountExpr", recurses := true, loops := true, apart := false, narrowed := true }
def FnExactCountExprUptoSaid : Prop := fnExactCountExprUptoRow.holds Try.pinned (OpenSpec.upto fnExactCountExprSpec)

/-- 'laws.FnExactDepthOfExpr', WHERE WHAT IT READS IS OF BULK AT MOST 1048576: true; the input reads as it did. -/
def fnExactDepthOfExprUptoRow : OpenClaim := { program := "ytmbihfeocfikbaa", sum := "0328fb5b9f78b46f5e0dcd1824d749c0b91e95ea91c6ebeac9607befa330e215", func := "loop.example/g00512/laws.FnExactDepthOfExpr", spec := "fnExactDepthOfExpr", recurses := true, loops := true, apart := false, narrowed := true }
def FnExactDepthOfExprUptoSaid : Prop := fnExactDepthOfExprUptoRow.holds Try.pinned (OpenSpec.upto fnExactDepthOfExprSpec)

/-- 'laws.FnExactEqualExpr', WHERE WHAT IT READS IS OF BULK AT MOST 1048576: true; the input reads as it did. -/
def fnExactEqualExprUptoRow : OpenClaim := { program := "ytmbihfeocfikbaa", sum := "0328fb5b9f78b46f5e0dcd1824d749c0b91e95ea91c6ebeac9607befa330e215", func := "loop.example/g00512/laws.FnExactEqualExpr", spec := "fnExactEqualExpr", recurses := true, loops := true, apart := false, narrowed := true }
def FnExactEqualExprUptoSaid : Prop := fnExactEqualExprUptoRow.holds Try.pinned (OpenSpec.upto fnExactEqualExprSpec)

/-- 'laws.FnExactHasRemote', WHERE WHAT IT READS IS OF BULK AT MOST 1048576: true; the input reads as it did. -/
def fnExactHasRemoteUptoRow : OpenClaim := { program := "ytmbihfeocfikbaa", sum := "0328fb5b9f78b46f5e0dcd1824d749c0b91e95ea91c6ebeac9607befa330e215", func := "loop.example/g00512/laws.FnExactHasRemote", spec := "fnExactHasRemote", unfollowed := true, recurses := true, loops := true, apart := false, narrowed := true }
def FnExactHasRemoteUptoSaid : Prop := fnExactHasRemoteUptoRow.holds Try.pinned (OpenSpec.upto fnExactHasRemoteSpec)

/-- 'laws.FnExactUsesAny', WHERE WHAT IT READS IS OF BULK AT MOST 1048576: true; the input reads as it did. -/
def fnExactUsesAnyUptoRow : OpenClaim := { program := "ytmbihfeocfikbaa", sum := "0328fb5b9f78b46f5e0dcd1824d749c0b91e95ea91c6ebeac9607befa330e215", func := "loop.example/g00512/laws.FnExactUsesAny", spec := "fnExactUsesAny", unfollowed := true, recurses := true, loops := true, apart := false, narrowed := true }
def FnExactUsesAnyUptoSaid : Prop := fnExactUsesAnyUptoRow.holds Try.pinned (OpenSpec.upto fnExactUsesAnySpec)

/-- 'laws.FnExactIsMonotone', WHERE WHAT IT READS IS OF BULK AT MOST 1048576: true; the input reads as it did. -/
def fnExactIsMonotoneUptoRow : OpenClaim := { program := "ytmbihfeocfikbaa", sum := "0328fb5b9f78b46f5e0dcd1824d749c0b91e95ea91c6ebeac9607befa330e215", func := "loop.example/g00512/laws.FnExactIsMonotone", spec := "fnExactIsMonotone", unfollowed := true, recurses := true, loops := true, apart := false, narrowed := true }
def FnExactIsMonotoneUptoSaid : Prop := fnExactIsMonotoneUptoRow.holds Try.pinned (OpenSpec.upto fnExactIsMonotoneSpec)

/-- 'laws.FnExactIsValidExpr', WHERE WHAT IT READS IS OF BULK AT MOST 1048576: true; the input reads as it did. -/
def fnExactIsValidExprUptoRow : OpenClaim := { program := "ytmbihfeocfikbaa", sum := "0328fb5b9f78b46f5e0dcd1824d749c0b91e95ea91c6ebeac9607befa330e215", func := "loop.example/g00512/laws.FnExactIsValidExpr", spec := "fnExactIsValidExpr", recurses := true, loops := true, apart := false, narrowed := true }
def FnExactIsValidExprUptoSaid : Prop := fnExactIsValidExprUptoRow.holds Try.pinned (OpenSpec.upto fnExactIsValidExprSpec)

/-- 'laws.FnExactAttributeUses', WHERE WHAT IT READS IS OF BULK AT MOST 1048576: true; the input reads as it did. -/
def fnExactAttributeUsesUptoRow : OpenClaim := { program := "ytmbihfeocfikbaa", sum := "0328fb5b9f78b46f5e0dcd1824d749c0b91e95ea91c6ebeac9607befa330e215", func := "loop.example/g00512/laws.FnExactAttributeUses", spec := "fnExactAttributeUses", unfollowed := true, recurses := true, loops := true, apart := false, narrowed := true }
def FnExactAttributeUsesUptoSaid : Prop := fnExactAttributeUsesUptoRow.holds Try.pinned (OpenSpec.upto fnExactAttributeUsesSpec)

/-- 'laws.FnExactSymbolAt', WHERE WHAT IT READS IS OF BULK AT MOST 1048576: true; the input reads as it did. -/
def fnExactSymbolAtUptoRow : OpenClaim := { program := "ytmbihfeocfikbaa", sum := "0328fb5b9f78b46f5e0dcd1824d749c0b91e95ea91c6ebeac9607befa330e215", func := "loop.example/g00512/laws.FnExactSymbolAt", spec := "fnExactSymbolAt", recurses := true, loops := true, apart := false, narrowed := true }
def FnExactSymbolAtUptoSaid : Prop := fnExactSymbolAtUptoRow.holds Try.pinned (OpenSpec.upto fnExactSymbolAtSpec)

/-- 'laws.FnExactEqualRule', WHERE WHAT IT READS IS OF BULK AT MOST 1048576: true; the input reads as it did. -/
def fnExactEqualRuleUptoRow : OpenClaim := { program := "ytmbihfeocfikbaa", sum := "0328fb5b9f78b46f5e0dcd1824d749c0b91e95ea91c6ebeac9607befa330e215", func := "loop.example/g00512/laws.FnExactEqualRule", spec := "fnExactEqualRule", unfollowed := true, recurses := true, loops := true, apart := false, narrowed := true }
def FnExactEqualRuleUptoSaid : Prop := fnExactEqualRuleUptoRow.holds Try.pinned (OpenSpec.upto fnExactEqualRuleSpec)

/-- 'laws.FnExactFindEquation', WHERE WHAT IT READS IS OF BULK AT MOST 1048576: true; the input reads as it did. -/
def fnExactFindEquationUptoRow : OpenClaim := { program := "ytmbihfeocfikbaa", sum := "0328fb5b9f78b46f5e0dcd1824d749c0b91e95ea91c6ebeac9607befa330e215", func := "loop.example/g00512/laws.FnExactFindEquation", spec := "fnExactFindEquation", unfollowed := true, recurses := true, loops := true, apart := false, narrowed := true }
def FnExactFindEquationUptoSaid : Prop := fnExactFindEquationUptoRow.holds Try.pinned (OpenSpec.upto fnExactFindEquationSpec)

end Rows
end Go.Proofs.Ytmbihfeocfikbaa
