/-
  No cell of these rows narrows 'for every input' (looked for: loops, veiled, ifaces, maps, wideKeys, modest, calm, conditions, laid).
  DERIVED. THE GIVEN ROWS OF THIS SEAT. 9 by the template 'for every input the law returns true; each argument reads behind the call as it read before'; 0 by the template 'total and deterministic' (their statements: YtmbihfeocfikbacTotals.lean).
  GIVEN WITH THE SEED: the statements are not yours to turn. If you find one false, say at which input.
  Laid BY PROGRAM, IN A SANDBOX (cutbox-rows.mjs): the forced cells as the released guide's own fill.sh prints them over the translation 635564878924e394… (all of the seat's roots in one cut). By AI agents, Wed Nov 11 2026. No macro, syntax, notation, axiom, sorry.
-/
import Derived.Test.YtmbihfeocfikbacChecked
import GoSem.Claim
import GoSem.ClaimJoined
import GoSem.ClaimMapViews
import Derived.JoinedTies
import Derived.KernelRfl
namespace Go.Proofs.Ytmbihfeocfikbac
/- THE CELL 'sum', in the pinned program and in every row, IS THE sha256 OF THE DUMP (.gsa) THAT YtmbihfeocfikbacProg.lean LOADS. Nothing in Lean hashes anything: it is a label: what it is worth is what the hold of that sum in a sandbox is worth. -/
noncomputable def Try.pinned : Pinned := { name := "ytmbihfeocfikbac", sum := "635564878924e394ab3392246babd881d1847cde99b55a6e286b015348dedbca", checked := Try.checked }
namespace Rows
def none {H : Type} : Left H := { results := [], args := [] }

/-- 'laws.FnExactSameResults': WHATEVER THE INPUT: true; the input reads as it did. -/
def fnExactSameResultsSpec : ChangeSpec := { name := "fnExactSameResults", fn := fun _ => fun
  | [d1, d2] => { results := [.lit (.bool true)], args := [d1, d2] }
  | _ => none }
def fnExactSameResultsRow : OpenClaim := { program := "ytmbihfeocfikbac", sum := "635564878924e394ab3392246babd881d1847cde99b55a6e286b015348dedbca", func := "loop.example/g00512/laws.FnExactSameResults", spec := "fnExactSameResults", unfollowed := true, recurses := true, apart := false }
def FnExactSameResultsSaid : Prop := fnExactSameResultsRow.holds Try.pinned (OpenSpec.ofChange fnExactSameResultsSpec)

/-- ITS FALSE NEIGHBOUR: 'it returns false'. Refute it at one input. -/
def fnExactSameResultsWrong : ChangeSpec := { name := "fnExactSameResults", fn := fun _ => fun
  | [d1, d2] => { results := [.lit (.bool false)], args := [d1, d2] }
  | _ => none }
def FnExactSameResultsWrongFalsely : Prop := fnExactSameResultsRow.holds Try.pinned (OpenSpec.ofChange fnExactSameResultsWrong)

/-- 'laws.FnExactEqualMemo': WHATEVER THE INPUT: true; the input reads as it did. -/
def fnExactEqualMemoSpec : ChangeSpec := { name := "fnExactEqualMemo", fn := fun _ => fun
  | [d1, d2] => { results := [.lit (.bool true)], args := [d1, d2] }
  | _ => none }
def fnExactEqualMemoRow : OpenClaim := { program := "ytmbihfeocfikbac", sum := "635564878924e394ab3392246babd881d1847cde99b55a6e286b015348dedbca", func := "loop.example/g00512/laws.FnExactEqualMemo", spec := "fnExactEqualMemo", unfollowed := true, recurses := true, apart := false }
def FnExactEqualMemoSaid : Prop := fnExactEqualMemoRow.holds Try.pinned (OpenSpec.ofChange fnExactEqualMemoSpec)

/-- ITS FALSE NEIGHBOUR: 'it returns false'. Refute it at one input. -/
def fnExactEqualMemoWrong : ChangeSpec := { name := "fnExactEqualMemo", fn := fun _ => fun
  | [d1, d2] => { results := [.lit (.bool false)], args := [d1, d2] }
  | _ => none }
def FnExactEqualMemoWrongFalsely : Prop := fnExactEqualMemoRow.holds Try.pinned (OpenSpec.ofChange fnExactEqualMemoWrong)

/-- 'laws.FnExactChangedValues': WHATEVER THE INPUT: true; the input reads as it did. -/
def fnExactChangedValuesSpec : ChangeSpec := { name := "fnExactChangedValues", fn := fun _ => fun
  | [d1, d2] => { results := [.lit (.bool true)], args := [d1, d2] }
  | _ => none }
def fnExactChangedValuesRow : OpenClaim := { program := "ytmbihfeocfikbac", sum := "635564878924e394ab3392246babd881d1847cde99b55a6e286b015348dedbca", func := "loop.example/g00512/laws.FnExactChangedValues", spec := "fnExactChangedValues", apart := false }
def FnExactChangedValuesSaid : Prop := fnExactChangedValuesRow.holds Try.pinned (OpenSpec.ofChange fnExactChangedValuesSpec)

/-- ITS FALSE NEIGHBOUR: 'it returns false'. Refute it at one input. -/
def fnExactChangedValuesWrong : ChangeSpec := { name := "fnExactChangedValues", fn := fun _ => fun
  | [d1, d2] => { results := [.lit (.bool false)], args := [d1, d2] }
  | _ => none }
def FnExactChangedValuesWrongFalsely : Prop := fnExactChangedValuesRow.holds Try.pinned (OpenSpec.ofChange fnExactChangedValuesWrong)

/-- 'laws.FnExactMemoValues': WHATEVER THE INPUT: true; the input reads as it did. -/
def fnExactMemoValuesSpec : ChangeSpec := { name := "fnExactMemoValues", fn := fun _ => fun
  | [d1, d2] => { results := [.lit (.bool true)], args := [d1, d2] }
  | _ => none }
def fnExactMemoValuesRow : OpenClaim := { program := "ytmbihfeocfikbac", sum := "635564878924e394ab3392246babd881d1847cde99b55a6e286b015348dedbca", func := "loop.example/g00512/laws.FnExactMemoValues", spec := "fnExactMemoValues", apart := false }
def FnExactMemoValuesSaid : Prop := fnExactMemoValuesRow.holds Try.pinned (OpenSpec.ofChange fnExactMemoValuesSpec)

/-- ITS FALSE NEIGHBOUR: 'it returns false'. Refute it at one input. -/
def fnExactMemoValuesWrong : ChangeSpec := { name := "fnExactMemoValues", fn := fun _ => fun
  | [d1, d2] => { results := [.lit (.bool false)], args := [d1, d2] }
  | _ => none }
def FnExactMemoValuesWrongFalsely : Prop := fnExactMemoValuesRow.holds Try.pinned (OpenSpec.ofChange fnExactMemoValuesWrong)

/-- 'laws.FnExactFindEntry': WHATEVER THE INPUT: true; the input reads as it did. -/
def fnExactFindEntrySpec : ChangeSpec := { name := "fnExactFindEntry", fn := fun _ => fun
  | [d1, d2] => { results := [.lit (.bool true)], args := [d1, d2] }
  | _ => none }
def fnExactFindEntryRow : OpenClaim := { program := "ytmbihfeocfikbac", sum := "635564878924e394ab3392246babd881d1847cde99b55a6e286b015348dedbca", func := "loop.example/g00512/laws.FnExactFindEntry", spec := "fnExactFindEntry", apart := false }
def FnExactFindEntrySaid : Prop := fnExactFindEntryRow.holds Try.pinned (OpenSpec.ofChange fnExactFindEntrySpec)

/-- ITS FALSE NEIGHBOUR: 'it returns false'. Refute it at one input. -/
def fnExactFindEntryWrong : ChangeSpec := { name := "fnExactFindEntry", fn := fun _ => fun
  | [d1, d2] => { results := [.lit (.bool false)], args := [d1, d2] }
  | _ => none }
def FnExactFindEntryWrongFalsely : Prop := fnExactFindEntryRow.holds Try.pinned (OpenSpec.ofChange fnExactFindEntryWrong)

/-- 'laws.FnExactComponents': WHATEVER THE INPUT: true; the input reads as it did. -/
def fnExactComponentsSpec : ChangeSpec := { name := "fnExactComponents", fn := fun _ => fun
  | [d] => { results := [.lit (.bool true)], args := [d] }
  | _ => none }
def fnExactComponentsRow : OpenClaim := { program := "ytmbihfeocfikbac", sum := "635564878924e394ab3392246babd881d1847cde99b55a6e286b015348dedbca", func := "loop.example/g00512/laws.FnExactComponents", spec := "fnExactComponents", unfollowed := true, recurses := true, apart := false }
def FnExactComponentsSaid : Prop := fnExactComponentsRow.holds Try.pinned (OpenSpec.ofChange fnExactComponentsSpec)

/-- ITS FALSE NEIGHBOUR: 'it returns false'. Refute it at one input. -/
def fnExactComponentsWrong : ChangeSpec := { name := "fnExactComponents", fn := fun _ => fun
  | [d] => { results := [.lit (.bool false)], args := [d] }
  | _ => none }
def FnExactComponentsWrongFalsely : Prop := fnExactComponentsRow.holds Try.pinned (OpenSpec.ofChange fnExactComponentsWrong)

/-- 'laws.FnComponents': WHATEVER THE INPUT: true; the input reads as it did. -/
def fnComponentsSpec : ChangeSpec := { name := "fnComponents", fn := fun _ => fun
  | [d] => { results := [.lit (.bool true)], args := [d] }
  | _ => none }
def fnComponentsRow : OpenClaim := { program := "ytmbihfeocfikbac", sum := "635564878924e394ab3392246babd881d1847cde99b55a6e286b015348dedbca", func := "loop.example/g00512/laws.FnComponents", spec := "fnComponents", unfollowed := true, recurses := true, apart := false }
def FnComponentsSaid : Prop := fnComponentsRow.holds Try.pinned (OpenSpec.ofChange fnComponentsSpec)

/-- ITS FALSE NEIGHBOUR: 'it returns false'. Refute it at one input. -/
def fnComponentsWrong : ChangeSpec := { name := "fnComponents", fn := fun _ => fun
  | [d] => { results := [.lit (.bool false)], args := [d] }
  | _ => none }
def FnComponentsWrongFalsely : Prop := fnComponentsRow.holds Try.pinned (OpenSpec.ofChange fnComponentsWrong)

/-- 'laws.FnExactPhasesOf': WHATEVER THE INPUT: true; the input reads as it did. -/
def fnExactPhasesOfSpec : ChangeSpec := { name := "fnExactPhasesOf", fn := fun _ => fun
  | [d1, d2] => { results := [.lit (.bool true)], args := [d1, d2] }
  | _ => none }
def fnExactPhasesOfRow : OpenClaim := { program := "ytmbihfeocfikbac", sum := "635564878924e394ab3392246babd881d1847cde99b55a6e286b015348dedbca", func := "loop.example/g00512/laws.FnExactPhasesOf", spec := "fnExactPhasesOf", unfollowed := true, recurses := true, apart := false }
def FnExactPhasesOfSaid : Prop := fnExactPhasesOfRow.holds Try.pinned (OpenSpec.ofChange fnExactPhasesOfSpec)

/-- ITS FALSE NEIGHBOUR: 'it returns false'. Refute it at one input. -/
def fnExactPhasesOfWrong : ChangeSpec := { name := "fnExactPhasesOf", fn := fun _ => fun
  | [d1, d2] => { results := [.lit (.bool false)], args := [d1, d2] }
  | _ => none }
def FnExactPhasesOfWrongFalsely : Prop := fnExactPhasesOfRow.holds Try.pinned (OpenSpec.ofChange fnExactPhasesOfWrong)

/-- 'laws.FnPhases': WHATEVER THE INPUT: true; the input reads as it did. -/
def fnPhasesSpec : ChangeSpec := { name := "fnPhases", fn := fun _ => fun
  | [d] => { results := [.lit (.bool true)], args := [d] }
  | _ => none }
def fnPhasesRow : OpenClaim := { program := "ytmbihfeocfikbac", sum := "635564878924e394ab3392246babd881d1847cde99b55a6e286b015348dedbca", func := "loop.example/g00512/laws.FnPhases", spec := "fnPhases", unfollowed := true, recurses := true, apart := false }
def FnPhasesSaid : Prop := fnPhasesRow.holds Try.pinned (OpenSpec.ofChange fnPhasesSpec)

/-- ITS FALSE NEIGHBOUR: 'it returns false'. Refute it at one input. -/
def fnPhasesWrong : ChangeSpec := { name := "fnPhases", fn := fun _ => fun
  | [d] => { results := [.lit (.bool false)], args := [d] }
  | _ => none }
def FnPhasesWrongFalsely : Prop := fnPhasesRow.holds Try.pinned (OpenSpec.ofChange fnPhasesWrong)

/- THE SECOND FORM. 'bulk': how many values and letters a reading holds, each counted each time it is reached (what is shared counts as often as it is met; a slice's spare places count too). A statement '..UptoSaid' is the law's where the arguments, and the package variables that the reading takes, are together of bulk at most 1048576: NARROWER than '..Said'. Prove '..Said' where nothing that the law and all that it calls make is longer than what came in: it says more and counts as full. Else prove '..UptoSaid'. A law counts once. -/
mutual
def uptoBulk {H : Type} : DataW H → Nat
  | .lit (.string bytes) => bytes.length + 1
  | .lit _ => 1
  | .nil => 1
  | .ptr d => uptoBulk d + 1
  | .slice elems spare => uptoBulkAll elems + uptoBulkAll spare + 1
  | .agg parts => uptoBulkAll parts + 1
  | .iface _ d => uptoBulk d + 1
  | .map entries => uptoBulkEntries entries + 1
  | .held _ => 1
def uptoBulkAll {H : Type} : List (DataW H) → Nat
  | [] => 0
  | d :: r => uptoBulk d + uptoBulkAll r
def uptoBulkEntries {H : Type} : List (Lit × DataW H) → Nat
  | [] => 0
  | x :: r => uptoBulkEntry x + uptoBulkEntries r
def uptoBulkEntry {H : Type} : Lit × DataW H → Nat
  | (.string bytes, d) => bytes.length + uptoBulk d + 1
  | (_, d) => uptoBulk d + 1
 end
def uptoSmall : (H : Type) → List (DataW H) → Bool := fun _ ds => decide (uptoBulkAll ds ≤ 1048576)
def OpenSpec.upto (s : _root_.Go.ChangeSpec) : _root_.Go.OpenSpec := { _root_.Go.OpenSpec.ofChange s with cond := some uptoSmall }

/-- 'laws.FnExactSameResults', WHERE WHAT IT READS IS OF BULK AT MOST 1048576: true; the input reads as it did. -/
def fnExactSameResultsUptoRow : OpenClaim := { program := "ytmbihfeocfikbac", sum := "635564878924e394ab3392246babd881d1847cde99b55a6e286b015348dedbca", func := "loop.example/g00512/laws.FnExactSameResults", spec := "fnExactSameResults", unfollowed := true, recurses := true, apart := false, narrowed := true }
def FnExactSameResultsUptoSaid : Prop := fnExactSameResultsUptoRow.holds Try.pinned (OpenSpec.upto fnExactSameResultsSpec)

/-- 'laws.FnExactEqualMemo', WHERE WHAT IT READS IS OF BULK AT MOST 1048576: true; the input reads as it did. -/
def fnExactEqualMemoUptoRow : OpenClaim := { program := "ytmbihfeocfikbac", sum := "635564878924e394ab3392246babd881d1847cde99b55a6e286b015348dedbca", func := "loop.example/g00512/laws.FnExactEqualMemo", spec := "fnExactEqualMemo", unfollowed := true, recurses := true, apart := false, narrowed := true }
def FnExactEqualMemoUptoSaid : Prop := fnExactEqualMemoUptoRow.holds Try.pinned (OpenSpec.upto fnExactEqualMemoSpec)

/-- 'laws.FnExactChangedValues', WHERE WHAT IT READS IS OF BULK AT MOST 1048576: true; the input reads as it did. -/
def fnExactChangedValuesUptoRow : OpenClaim := { program := "ytmbihfeocfikbac", sum := "635564878924e394ab3392246babd881d1847cde99b55a6e286b015348dedbca", func := "loop.example/g00512/laws.FnExactChangedValues", spec := "fnExactChangedValues", apart := false, narrowed := true }
def FnExactChangedValuesUptoSaid : Prop := fnExactChangedValuesUptoRow.holds Try.pinned (OpenSpec.upto fnExactChangedValuesSpec)

/-- 'laws.FnExactMemoValues', WHERE WHAT IT READS IS OF BULK AT MOST 1048576: true; the input reads as it did. -/
def fnExactMemoValuesUptoRow : OpenClaim := { program := "ytmbihfeocfikbac", sum := "635564878924e394ab3392246babd881d1847cde99b55a6e286b015348dedbca", func := "loop.example/g00512/laws.FnExactMemoValues", spec := "fnExactMemoValues", apart := false, narrowed := true }
def FnExactMemoValuesUptoSaid : Prop := fnExactMemoValuesUptoRow.holds Try.pinned (OpenSpec.upto fnExactMemoValuesSpec)

/-- 'laws.FnExactFindEntry', WHERE WHAT IT READS IS OF BULK AT MOST 1048576: true; the input reads as it did. -/
def fnExactFindEntryUptoRow : OpenClaim := { program := "ytmbihfeocfikbac", sum := "635564878924e394ab3392246babd881d1847cde99b55a6e286b015348dedbca", func := "loop.example/g00512/laws.FnExactFindEntry", spec := "fnExactFindEntry", apart := false, narrowed := true }
def FnExactFindEntryUptoSaid : Prop := fnExactFindEntryUptoRow.holds Try.pinned (OpenSpec.upto fnExactFindEntrySpec)

/-- 'laws.FnExactComponents', WHERE WHAT IT READS IS OF BULK AT MOST 1048576: true; the input reads as it did. -/
def fnExactComponentsUptoRow : OpenClaim := { program := "ytmbihfeocfikbac", sum := "635564878924e394ab3392246babd881d1847cde99b55a6e286b015348dedbca", func := "loop.example/g00512/laws.FnExactComponents", spec := "fnExactComponents", unfollowed := true, recurses := true, apart := false, narrowed := true }
def FnExactComponentsUptoSaid : Prop := fnExactComponentsUptoRow.holds Try.pinned (OpenSpec.upto fnExactComponentsSpec)

/-- 'laws.FnComponents', WHERE WHAT IT READS IS OF BULK AT MOST 1048576: true; the input reads as it did. -/
def fnComponentsUptoRow : OpenClaim := { program := "ytmbihfeocfikbac", sum := "635564878924e394ab3392246babd881d1847cde99b55a6e286b015348dedbca", func := "loop.example/g00512/laws.FnComponents", spec := "fnComponents", unfollowed := true, recurses := true, apart := false, narrowed := true }
def FnComponentsUptoSaid : Prop := fnComponentsUptoRow.holds Try.pinned (OpenSpec.upto fnComponentsSpec)

/-- 'laws.FnExactPhasesOf', WHERE WHAT IT READS IS OF BULK AT MOST 1048576: true; the input reads as it did. -/
def fnExactPhasesOfUptoRow : OpenClaim := { program := "ytmbihfeocfikbac", sum := "635564878924e394ab3392246babd881d1847cde99b55a6e286b015348dedbca", func := "loop.example/g00512/laws.FnExactPhasesOf", spec := "fnExactPhasesOf", unfollowed := true, recurses := true, apart := false, narrowed := true }
def FnExactPhasesOfUptoSaid : Prop := fnExactPhasesOfUptoRow.holds Try.pinned (OpenSpec.upto fnExactPhasesOfSpec)

/-- 'laws.FnPhases', WHERE WHAT IT READS IS OF BULK AT MOST 1048576: true; the input reads as it did. -/
def fnPhasesUptoRow : OpenClaim := { program := "ytmbihfeocfikbac", sum := "635564878924e394ab3392246babd881d1847cde99b55a6e286b015348dedbca", func := "loop.example/g00512/laws.FnPhases", spec := "fnPhases", unfollowed := true, recurses := true, apart := false, narrowed := true }
def FnPhasesUptoSaid : Prop := fnPhasesUptoRow.holds Try.pinned (OpenSpec.upto fnPhasesSpec)

end Rows
end Go.Proofs.Ytmbihfeocfikbac
