/-
  No cell of these rows narrows 'for every input' (looked for: loops, veiled, ifaces, maps, wideKeys, modest, calm, conditions, laid).
  DERIVED. THE GIVEN ROWS OF THIS SEAT. 4 by the template 'for every input the law returns true; each argument reads behind the call as it read before'; 0 by the template 'total and deterministic' (their statements: YtlgddglhnnagpabTotals.lean).
  GIVEN WITH THE SEED: the statements are not yours to turn. If you find one false, say at which input.
  Laid BY PROGRAM, IN A SANDBOX (cutbox-rows.mjs): the forced cells as the released guide's own fill.sh prints them over the translation 8381f4afb08ec7ec… (all of the seat's roots in one cut). By AI agents, Wed Nov 11 2026. No macro, syntax, notation, axiom, sorry.
-/
import Derived.Test.YtlgddglhnnagpabChecked
import GoSem.Claim
import GoSem.ClaimJoined
import GoSem.ClaimMapViews
import Derived.JoinedTies
import Derived.KernelRfl
namespace Go.Proofs.Ytlgddglhnnagpab
/- THE CELL 'sum', in the pinned program and in every row, IS THE sha256 OF THE DUMP (.gsa) THAT YtlgddglhnnagpabProg.lean LOADS. Nothing in Lean hashes anything: it is a label: what it is worth is what the hold of that sum in a sandbox is worth. -/
noncomputable def Try.pinned : Pinned := { name := "ytlgddglhnnagpab", sum := "8381f4afb08ec7eceaf70b8391ea9de4f728c5d92d36d5117846070d686f74fb", checked := Try.checked }
namespace Rows
def none {H : Type} : Left H := { results := [], args := [] }

/-- 'laws.FnExactIsOfType': WHATEVER THE INPUT: true; the input reads as it did. -/
def fnExactIsOfTypeSpec : ChangeSpec := { name := "fnExactIsOfType", fn := fun _ => fun
  | [d1, d2] => { results := [.lit (.bool true)], args := [d1, d2] }
  | _ => none }
def fnExactIsOfTypeRow : OpenClaim := { program := "ytlgddglhnnagpab", sum := "8381f4afb08ec7eceaf70b8391ea9de4f728c5d92d36d5117846070d686f74fb", func := "loop.example/g00512/laws.FnExactIsOfType", spec := "fnExactIsOfType", apart := false }
def FnExactIsOfTypeSaid : Prop := fnExactIsOfTypeRow.holds Try.pinned (OpenSpec.ofChange fnExactIsOfTypeSpec)

/-- ITS FALSE NEIGHBOUR: 'it returns false'. Refute it at one input. -/
def fnExactIsOfTypeWrong : ChangeSpec := { name := "fnExactIsOfType", fn := fun _ => fun
  | [d1, d2] => { results := [.lit (.bool false)], args := [d1, d2] }
  | _ => none }
def FnExactIsOfTypeWrongFalsely : Prop := fnExactIsOfTypeRow.holds Try.pinned (OpenSpec.ofChange fnExactIsOfTypeWrong)

/-- 'laws.FnExactCoerce': WHATEVER THE INPUT: true; the input reads as it did. -/
def fnExactCoerceSpec : ChangeSpec := { name := "fnExactCoerce", fn := fun _ => fun
  | [d1, d2] => { results := [.lit (.bool true)], args := [d1, d2] }
  | _ => none }
def fnExactCoerceRow : OpenClaim := { program := "ytlgddglhnnagpab", sum := "8381f4afb08ec7eceaf70b8391ea9de4f728c5d92d36d5117846070d686f74fb", func := "loop.example/g00512/laws.FnExactCoerce", spec := "fnExactCoerce", apart := false }
def FnExactCoerceSaid : Prop := fnExactCoerceRow.holds Try.pinned (OpenSpec.ofChange fnExactCoerceSpec)

/-- ITS FALSE NEIGHBOUR: 'it returns false'. Refute it at one input. -/
def fnExactCoerceWrong : ChangeSpec := { name := "fnExactCoerce", fn := fun _ => fun
  | [d1, d2] => { results := [.lit (.bool false)], args := [d1, d2] }
  | _ => none }
def FnExactCoerceWrongFalsely : Prop := fnExactCoerceRow.holds Try.pinned (OpenSpec.ofChange fnExactCoerceWrong)

/-- 'laws.FnExactOperandTypes': WHATEVER THE INPUT: true; the input reads as it did. -/
def fnExactOperandTypesSpec : ChangeSpec := { name := "fnExactOperandTypes", fn := fun _ => fun
  | [d] => { results := [.lit (.bool true)], args := [d] }
  | _ => none }
def fnExactOperandTypesRow : OpenClaim := { program := "ytlgddglhnnagpab", sum := "8381f4afb08ec7eceaf70b8391ea9de4f728c5d92d36d5117846070d686f74fb", func := "loop.example/g00512/laws.FnExactOperandTypes", spec := "fnExactOperandTypes", apart := false }
def FnExactOperandTypesSaid : Prop := fnExactOperandTypesRow.holds Try.pinned (OpenSpec.ofChange fnExactOperandTypesSpec)

/-- ITS FALSE NEIGHBOUR: 'it returns false'. Refute it at one input. -/
def fnExactOperandTypesWrong : ChangeSpec := { name := "fnExactOperandTypes", fn := fun _ => fun
  | [d] => { results := [.lit (.bool false)], args := [d] }
  | _ => none }
def FnExactOperandTypesWrongFalsely : Prop := fnExactOperandTypesRow.holds Try.pinned (OpenSpec.ofChange fnExactOperandTypesWrong)

/-- 'laws.FnExactApplyOp': WHATEVER THE INPUT: true; the input reads as it did. -/
def fnExactApplyOpSpec : ChangeSpec := { name := "fnExactApplyOp", fn := fun _ => fun
  | [d1, d2, d3] => { results := [.lit (.bool true)], args := [d1, d2, d3] }
  | _ => none }
def fnExactApplyOpRow : OpenClaim := { program := "ytlgddglhnnagpab", sum := "8381f4afb08ec7eceaf70b8391ea9de4f728c5d92d36d5117846070d686f74fb", func := "loop.example/g00512/laws.FnExactApplyOp", spec := "fnExactApplyOp", unfollowed := true, recurses := true, apart := false }
def FnExactApplyOpSaid : Prop := fnExactApplyOpRow.holds Try.pinned (OpenSpec.ofChange fnExactApplyOpSpec)

/-- ITS FALSE NEIGHBOUR: 'it returns false'. Refute it at one input. -/
def fnExactApplyOpWrong : ChangeSpec := { name := "fnExactApplyOp", fn := fun _ => fun
  | [d1, d2, d3] => { results := [.lit (.bool false)], args := [d1, d2, d3] }
  | _ => none }
def FnExactApplyOpWrongFalsely : Prop := fnExactApplyOpRow.holds Try.pinned (OpenSpec.ofChange fnExactApplyOpWrong)

/- THE SECOND FORM. 'bulk': how many values and letters a reading holds, each counted each time it is reached (what is shared counts as often as it is met; a slice's spare places count too). A statement '..UptoSaid' is the law's where the arguments, and the package variables that the reading takes, are together of bulk at most 1048576: NARROWER than '..Said'. Prove '..Said' where nothing that the law and all that it calls make is longer than what came in: it says more and counts as full. Else prove '..UptoSaid'. A law counts once. -/
mutual
def uptoBulk {H : Type} : DataW H → Nat
  | .lit (.string bytes) => bytes.length + 1
  | .lit _ => 1
  | .nil => 1
  | .ptr d => uptoBulk d + 1
  | .slice elems spare => uptoBulkAll elems + uptoBulkAll spare + 1
  | .agg parts => uptoBulkAll parts + 1
  | .iface _ d => uptoBulk d + 1
  | .map entries => uptoBulkEntries entries + 1
  | .held _ => 1
def uptoBulkAll {H : Type} : List (DataW H) → Nat
  | [] => 0
  | d :: r => uptoBulk d + uptoBulkAll r
def uptoBulkEntries {H : Type} : List (Lit × DataW H) → Nat
  | [] => 0
  | x :: r => uptoBulkEntry x + uptoBulkEntries r
def uptoBulkEntry {H : Type} : Lit × DataW H → Nat
  | (.string bytes, d) => bytes.length + uptoBulk d + 1
  | (_, d) => uptoBulk d + 1
 end
def uptoSmall : (H : Type) → List (DataW H) → Bool := fun _ ds => decide (uptoBulkAll ds ≤ 1048576)
def OpenSpec.upto (s : _root_.Go.ChangeSpec) : _root_.Go.OpenSpec := { _root_.Go.OpenSpec.ofChange s with cond := some uptoSmall }

/-- 'laws.FnExactIsOfType', WHERE WHAT IT READS IS OF BULK AT MOST 1048576: true; the input reads as it did. -/
def fnExactIsOfTypeUptoRow : OpenClaim := { program := "ytlgddglhnnagpab", sum := "8381f4afb08ec7eceaf70b8391ea9de4f728c5d92d36d5117846070d686f74fb", func := "loop.example/g00512/laws.FnExactIsOfType", spec := "fnExactIsOfType", apart := false, narrowed := true }
def FnExactIsOfTypeUptoSaid : Prop := fnExactIsOfTypeUptoRow.holds Try.pinned (OpenSpec.upto fnExactIsOfTypeSpec)

/-- 'laws.FnExactCoerce', WHERE WHAT IT READS IS OF BULK AT MOST 1048576: true; the input reads as it did. -/
def fnExactCoerceUptoRow : OpenClaim := { program := "ytlgddglhnnagpab", sum := "8381f4afb08ec7eceaf70b8391ea9de4f728c5d92d36d5117846070d686f74fb", func := "loop.example/g00512/laws.FnExactCoerce", spec := "fnExactCoerce", apart := false, narrowed := true }
def FnExactCoerceUptoSaid : Prop := fnExactCoerceUptoRow.holds Try.pinned (OpenSpec.upto fnExactCoerceSpec)

/-- 'laws.FnExactOperandTypes', WHERE WHAT IT READS IS OF BULK AT MOST 1048576: true; the input reads as it did. -/
def fnExactOperandTypesUptoRow : OpenClaim := { program := "ytlgddglhnnagpab", sum := "8381f4afb08ec7eceaf70b8391ea9de4f728c5d92d36d5117846070d686f74fb", func := "loop.example/g00512/laws.FnExactOperandTypes", spec := "fnExactOperandTypes", apart := false, narrowed := true }
def FnExactOperandTypesUptoSaid : Prop := fnExactOperandTypesUptoRow.holds Try.pinned (OpenSpec.upto fnExactOperandTypesSpec)

/-- 'laws.FnExactApplyOp', WHERE WHAT IT READS IS OF BULK AT MOST 1048576: true; the input reads as it did. -/
def fnExactApplyOpUptoRow : OpenClaim := { program := "ytlgddglhnnagpab", sum := "8381f4afb08ec7eceaf70b8391ea9de4f728c5d92d36d5117846070d686f74fb", func := "loop.example/g00512/laws.FnExactApplyOp", spec := "fnExactApplyOp", unfollowed := true, recurses := true, apart := false, narrowed := true }
def FnExactApplyOpUptoSaid : Prop := fnExactApplyOpUptoRow.holds Try.pinned (OpenSpec.upto fnExactApplyOpSpec)

end Rows
end Go.Proofs.Ytlgddglhnnagpab
