/-
  NARROWER THAN 'FOR EVERY INPUT', by the rows' own cells (each row's printed sentence says how): FnExactUsesAny: loops.
  DERIVED. THE GIVEN ROWS OF THIS SEAT. 11 by the template 'for every input the law returns true; each argument reads behind the call as it read before'; 0 by the template 'total and deterministic' (their statements: YtnacnlljhjlmdabTotals.lean).
  GIVEN WITH THE SEED: the statements are not yours to turn. If you find one false, say at which input.
  Laid BY PROGRAM, IN A SANDBOX (cutbox-rows.mjs): the forced cells as the released guide's own fill.sh prints them over the translation 95209c2f44cfa0ca… (all of the seat's roots in one cut). By AI agents, Wed Nov 11 2026. No macro, syntax, notation, axiom, sorry.
-/
import Derived.Test.YtnacnlljhjlmdabChecked
import GoSem.Claim
import GoSem.ClaimJoined
import GoSem.ClaimMapViews
import Derived.JoinedTies
import Derived.KernelRfl
namespace Go.Proofs.Ytnacnlljhjlmdab
/- THE CELL 'sum', in the pinned program and in every row, IS THE sha256 OF THE DUMP (.gsa) THAT YtnacnlljhjlmdabProg.lean LOADS. Nothing in Lean hashes anything: it is a label: what it is worth is what the hold of that sum in a sandbox is worth. -/
noncomputable def Try.pinned : Pinned := { name := "ytnacnlljhjlmdab", sum := "95209c2f44cfa0cadb2645b531201fd1d28eb0f04bfbaa8fc346578ea4c13a92", checked := Try.checked }
namespace Rows
def none {H : Type} : Left H := { results := [], args := [] }

/-- 'laws.FnExactEqualRelation': WHATEVER THE INPUT: true; the input reads as it did. -/
def fnExactEqualRelationSpec : ChangeSpec := { name := "fnExactEqualRelation", fn := fun _ => fun
  | [d1, d2] => { results := [.lit (.bool true)], args := [d1, d2] }
  | _ => none }
def fnExactEqualRelationRow : OpenClaim := { program := "ytnacnlljhjlmdab", sum := "95209c2f44cfa0cadb2645b531201fd1d28eb0f04bfbaa8fc346578ea4c13a92", func := "loop.example/g00512/laws.FnExactEqualRelation", spec := "fnExactEqualRelation", plainKeys := false, apart := false }
def FnExactEqualRelationSaid : Prop := fnExactEqualRelationRow.holds Try.pinned (OpenSpec.ofChange fnExactEqualRelationSpec)

/-- ITS FALSE NEIGHBOUR: 'it returns false'. Refute it at one input. -/
def fnExactEqualRelationWrong : ChangeSpec := { name := "fnExactEqualRelation", fn := fun _ => fun
  | [d1, d2] => { results := [.lit (.bool false)], args := [d1, d2] }
  | _ => none }
def FnExactEqualRelationWrongFalsely : Prop := fnExactEqualRelationRow.holds Try.pinned (OpenSpec.ofChange fnExactEqualRelationWrong)

/-- 'laws.FnExactNodeIds': WHATEVER THE INPUT: true; the input reads as it did. -/
def fnExactNodeIdsSpec : ChangeSpec := { name := "fnExactNodeIds", fn := fun _ => fun
  | [d1, d2] => { results := [.lit (.bool true)], args := [d1, d2] }
  | _ => none }
def fnExactNodeIdsRow : OpenClaim := { program := "ytnacnlljhjlmdab", sum := "95209c2f44cfa0cadb2645b531201fd1d28eb0f04bfbaa8fc346578ea4c13a92", func := "loop.example/g00512/laws.FnExactNodeIds", spec := "fnExactNodeIds", plainKeys := false, apart := false }
def FnExactNodeIdsSaid : Prop := fnExactNodeIdsRow.holds Try.pinned (OpenSpec.ofChange fnExactNodeIdsSpec)

/-- ITS FALSE NEIGHBOUR: 'it returns false'. Refute it at one input. -/
def fnExactNodeIdsWrong : ChangeSpec := { name := "fnExactNodeIds", fn := fun _ => fun
  | [d1, d2] => { results := [.lit (.bool false)], args := [d1, d2] }
  | _ => none }
def FnExactNodeIdsWrongFalsely : Prop := fnExactNodeIdsRow.holds Try.pinned (OpenSpec.ofChange fnExactNodeIdsWrong)

/-- 'laws.FnExactStepsOf': WHATEVER THE INPUT: true; the input reads as it did. -/
def fnExactStepsOfSpec : ChangeSpec := { name := "fnExactStepsOf", fn := fun _ => fun
  | [d1, d2] => { results := [.lit (.bool true)], args := [d1, d2] }
  | _ => none }
def fnExactStepsOfRow : OpenClaim := { program := "ytnacnlljhjlmdab", sum := "95209c2f44cfa0cadb2645b531201fd1d28eb0f04bfbaa8fc346578ea4c13a92", func := "loop.example/g00512/laws.FnExactStepsOf", spec := "fnExactStepsOf", plainKeys := false, apart := false }
def FnExactStepsOfSaid : Prop := fnExactStepsOfRow.holds Try.pinned (OpenSpec.ofChange fnExactStepsOfSpec)

/-- ITS FALSE NEIGHBOUR: 'it returns false'. Refute it at one input. -/
def fnExactStepsOfWrong : ChangeSpec := { name := "fnExactStepsOf", fn := fun _ => fun
  | [d1, d2] => { results := [.lit (.bool false)], args := [d1, d2] }
  | _ => none }
def FnExactStepsOfWrongFalsely : Prop := fnExactStepsOfRow.holds Try.pinned (OpenSpec.ofChange fnExactStepsOfWrong)

/-- 'laws.FnExactMemoValues': WHATEVER THE INPUT: true; the input reads as it did. -/
def fnExactMemoValuesSpec : ChangeSpec := { name := "fnExactMemoValues", fn := fun _ => fun
  | [d1, d2] => { results := [.lit (.bool true)], args := [d1, d2] }
  | _ => none }
def fnExactMemoValuesRow : OpenClaim := { program := "ytnacnlljhjlmdab", sum := "95209c2f44cfa0cadb2645b531201fd1d28eb0f04bfbaa8fc346578ea4c13a92", func := "loop.example/g00512/laws.FnExactMemoValues", spec := "fnExactMemoValues", plainKeys := false, apart := false }
def FnExactMemoValuesSaid : Prop := fnExactMemoValuesRow.holds Try.pinned (OpenSpec.ofChange fnExactMemoValuesSpec)

/-- ITS FALSE NEIGHBOUR: 'it returns false'. Refute it at one input. -/
def fnExactMemoValuesWrong : ChangeSpec := { name := "fnExactMemoValues", fn := fun _ => fun
  | [d1, d2] => { results := [.lit (.bool false)], args := [d1, d2] }
  | _ => none }
def FnExactMemoValuesWrongFalsely : Prop := fnExactMemoValuesRow.holds Try.pinned (OpenSpec.ofChange fnExactMemoValuesWrong)

/-- 'laws.FnExactChangedValues': WHATEVER THE INPUT: true; the input reads as it did. -/
def fnExactChangedValuesSpec : ChangeSpec := { name := "fnExactChangedValues", fn := fun _ => fun
  | [d1, d2] => { results := [.lit (.bool true)], args := [d1, d2] }
  | _ => none }
def fnExactChangedValuesRow : OpenClaim := { program := "ytnacnlljhjlmdab", sum := "95209c2f44cfa0cadb2645b531201fd1d28eb0f04bfbaa8fc346578ea4c13a92", func := "loop.example/g00512/laws.FnExactChangedValues", spec := "fnExactChangedValues", plainKeys := false, apart := false }
def FnExactChangedValuesSaid : Prop := fnExactChangedValuesRow.holds Try.pinned (OpenSpec.ofChange fnExactChangedValuesSpec)

/-- ITS FALSE NEIGHBOUR: 'it returns false'. Refute it at one input. -/
def fnExactChangedValuesWrong : ChangeSpec := { name := "fnExactChangedValues", fn := fun _ => fun
  | [d1, d2] => { results := [.lit (.bool false)], args := [d1, d2] }
  | _ => none }
def FnExactChangedValuesWrongFalsely : Prop := fnExactChangedValuesRow.holds Try.pinned (OpenSpec.ofChange fnExactChangedValuesWrong)

/-- 'laws.FnExactFindEntry': WHATEVER THE INPUT: true; the input reads as it did. -/
def fnExactFindEntrySpec : ChangeSpec := { name := "fnExactFindEntry", fn := fun _ => fun
  | [d1, d2] => { results := [.lit (.bool true)], args := [d1, d2] }
  | _ => none }
def fnExactFindEntryRow : OpenClaim := { program := "ytnacnlljhjlmdab", sum := "95209c2f44cfa0cadb2645b531201fd1d28eb0f04bfbaa8fc346578ea4c13a92", func := "loop.example/g00512/laws.FnExactFindEntry", spec := "fnExactFindEntry", plainKeys := false, apart := false }
def FnExactFindEntrySaid : Prop := fnExactFindEntryRow.holds Try.pinned (OpenSpec.ofChange fnExactFindEntrySpec)

/-- ITS FALSE NEIGHBOUR: 'it returns false'. Refute it at one input. -/
def fnExactFindEntryWrong : ChangeSpec := { name := "fnExactFindEntry", fn := fun _ => fun
  | [d1, d2] => { results := [.lit (.bool false)], args := [d1, d2] }
  | _ => none }
def FnExactFindEntryWrongFalsely : Prop := fnExactFindEntryRow.holds Try.pinned (OpenSpec.ofChange fnExactFindEntryWrong)

/-- 'laws.FnExactUnionRelation': WHATEVER THE INPUT: true; the input reads as it did. -/
def fnExactUnionRelationSpec : ChangeSpec := { name := "fnExactUnionRelation", fn := fun _ => fun
  | [d1, d2] => { results := [.lit (.bool true)], args := [d1, d2] }
  | _ => none }
def fnExactUnionRelationRow : OpenClaim := { program := "ytnacnlljhjlmdab", sum := "95209c2f44cfa0cadb2645b531201fd1d28eb0f04bfbaa8fc346578ea4c13a92", func := "loop.example/g00512/laws.FnExactUnionRelation", spec := "fnExactUnionRelation", unfollowed := true, recurses := true, plainKeys := false, apart := false }
def FnExactUnionRelationSaid : Prop := fnExactUnionRelationRow.holds Try.pinned (OpenSpec.ofChange fnExactUnionRelationSpec)

/-- ITS FALSE NEIGHBOUR: 'it returns false'. Refute it at one input. -/
def fnExactUnionRelationWrong : ChangeSpec := { name := "fnExactUnionRelation", fn := fun _ => fun
  | [d1, d2] => { results := [.lit (.bool false)], args := [d1, d2] }
  | _ => none }
def FnExactUnionRelationWrongFalsely : Prop := fnExactUnionRelationRow.holds Try.pinned (OpenSpec.ofChange fnExactUnionRelationWrong)

/-- 'laws.FnExactProjectRelation': WHATEVER THE INPUT: true; the input reads as it did. -/
def fnExactProjectRelationSpec : ChangeSpec := { name := "fnExactProjectRelation", fn := fun _ => fun
  | [d1, d2] => { results := [.lit (.bool true)], args := [d1, d2] }
  | _ => none }
def fnExactProjectRelationRow : OpenClaim := { program := "ytnacnlljhjlmdab", sum := "95209c2f44cfa0cadb2645b531201fd1d28eb0f04bfbaa8fc346578ea4c13a92", func := "loop.example/g00512/laws.FnExactProjectRelation", spec := "fnExactProjectRelation", unfollowed := true, recurses := true, plainKeys := false, apart := false }
def FnExactProjectRelationSaid : Prop := fnExactProjectRelationRow.holds Try.pinned (OpenSpec.ofChange fnExactProjectRelationSpec)

/-- ITS FALSE NEIGHBOUR: 'it returns false'. Refute it at one input. -/
def fnExactProjectRelationWrong : ChangeSpec := { name := "fnExactProjectRelation", fn := fun _ => fun
  | [d1, d2] => { results := [.lit (.bool false)], args := [d1, d2] }
  | _ => none }
def FnExactProjectRelationWrongFalsely : Prop := fnExactProjectRelationRow.holds Try.pinned (OpenSpec.ofChange fnExactProjectRelationWrong)

/-- 'laws.FnExactLastUse': WHATEVER THE INPUT: true; the input reads as it did. -/
def fnExactLastUseSpec : ChangeSpec := { name := "fnExactLastUse", fn := fun _ => fun
  | [d1, d2] => { results := [.lit (.bool true)], args := [d1, d2] }
  | _ => none }
def fnExactLastUseRow : OpenClaim := { program := "ytnacnlljhjlmdab", sum := "95209c2f44cfa0cadb2645b531201fd1d28eb0f04bfbaa8fc346578ea4c13a92", func := "loop.example/g00512/laws.FnExactLastUse", spec := "fnExactLastUse", inPlace := ["sync/atomic.LoadUint32", "(*internal/sync.Mutex).Lock", "internal/race.Disable", "sync/atomic.CompareAndSwapInt32", "internal/race.Enable", "internal/race.Acquire", "(*internal/sync.Mutex).lockSlow", "internal/sync.runtime_canSpin", "internal/sync.runtime_doSpin", "internal/sync.throw", "internal/sync.runtime_nanotime", "internal/sync.runtime_SemacquireMutex", "sync/atomic.AddInt32", "(*internal/sync.Mutex).Unlock", "internal/race.ReleaseMerge", "(*internal/sync.Mutex).unlockSlow", "internal/sync.fatal", "internal/sync.runtime_Semrelease", "sync/atomic.StoreUint32"], unfollowed := true, recurses := true, plainKeys := false, apart := false }
def FnExactLastUseSaid : Prop := fnExactLastUseRow.holds Try.pinned (OpenSpec.ofChange fnExactLastUseSpec)

/-- ITS FALSE NEIGHBOUR: 'it returns false'. Refute it at one input. -/
def fnExactLastUseWrong : ChangeSpec := { name := "fnExactLastUse", fn := fun _ => fun
  | [d1, d2] => { results := [.lit (.bool false)], args := [d1, d2] }
  | _ => none }
def FnExactLastUseWrongFalsely : Prop := fnExactLastUseRow.holds Try.pinned (OpenSpec.ofChange fnExactLastUseWrong)

/-- 'laws.FnExactCheckSlots': WHATEVER THE INPUT: true; the input reads as it did. -/
def fnExactCheckSlotsSpec : ChangeSpec := { name := "fnExactCheckSlots", fn := fun _ => fun
  | [d1, d2, d3] => { results := [.lit (.bool true)], args := [d1, d2, d3] }
  | _ => none }
def fnExactCheckSlotsRow : OpenClaim := { program := "ytnacnlljhjlmdab", sum := "95209c2f44cfa0cadb2645b531201fd1d28eb0f04bfbaa8fc346578ea4c13a92", func := "loop.example/g00512/laws.FnExactCheckSlots", spec := "fnExactCheckSlots", inPlace := ["sync/atomic.LoadUint32", "(*internal/sync.Mutex).Lock", "internal/race.Disable", "sync/atomic.CompareAndSwapInt32", "internal/race.Enable", "internal/race.Acquire", "(*internal/sync.Mutex).lockSlow", "internal/sync.runtime_canSpin", "internal/sync.runtime_doSpin", "internal/sync.throw", "internal/sync.runtime_nanotime", "internal/sync.runtime_SemacquireMutex", "sync/atomic.AddInt32", "(*internal/sync.Mutex).Unlock", "internal/race.ReleaseMerge", "(*internal/sync.Mutex).unlockSlow", "internal/sync.fatal", "internal/sync.runtime_Semrelease", "sync/atomic.StoreUint32"], unfollowed := true, recurses := true, plainKeys := false, apart := false }
def FnExactCheckSlotsSaid : Prop := fnExactCheckSlotsRow.holds Try.pinned (OpenSpec.ofChange fnExactCheckSlotsSpec)

/-- ITS FALSE NEIGHBOUR: 'it returns false'. Refute it at one input. -/
def fnExactCheckSlotsWrong : ChangeSpec := { name := "fnExactCheckSlots", fn := fun _ => fun
  | [d1, d2, d3] => { results := [.lit (.bool false)], args := [d1, d2, d3] }
  | _ => none }
def FnExactCheckSlotsWrongFalsely : Prop := fnExactCheckSlotsRow.holds Try.pinned (OpenSpec.ofChange fnExactCheckSlotsWrong)

/-- 'laws.FnExactUsesAny': WHATEVER THE INPUT: true; the input reads as it did. -/
def fnExactUsesAnySpec : ChangeSpec := { name := "fnExactUsesAny", fn := fun _ => fun
  | [d1, d2] => { results := [.lit (.bool true)], args := [d1, d2] }
  | _ => none }
def fnExactUsesAnyRow : OpenClaim := { program := "ytnacnlljhjlmdab", sum := "95209c2f44cfa0cadb2645b531201fd1d28eb0f04bfbaa8fc346578ea4c13a92", func := "loop.example/g00512/laws.FnExactUsesAny", spec := "fnExactUsesAny", unfollowed := true, recurses := true, loops := true, plainKeys := false, apart := false }
def FnExactUsesAnySaid : Prop := fnExactUsesAnyRow.holds Try.pinned (OpenSpec.ofChange fnExactUsesAnySpec)

/-- ITS FALSE NEIGHBOUR: 'it returns false'. Refute it at one input. -/
def fnExactUsesAnyWrong : ChangeSpec := { name := "fnExactUsesAny", fn := fun _ => fun
  | [d1, d2] => { results := [.lit (.bool false)], args := [d1, d2] }
  | _ => none }
def FnExactUsesAnyWrongFalsely : Prop := fnExactUsesAnyRow.holds Try.pinned (OpenSpec.ofChange fnExactUsesAnyWrong)

/- THE SECOND FORM. 'bulk': how many values and letters a reading holds, each counted each time it is reached (what is shared counts as often as it is met; a slice's spare places count too). A statement '..UptoSaid' is the law's where the arguments, and the package variables that the reading takes, are together of bulk at most 1048576: NARROWER than '..Said'. Prove '..Said' where nothing that the law and all that it calls make is longer than what came in: it says more and counts as full. Else prove '..UptoSaid'. A law counts once. -/
mutual
def uptoBulk {H : Type} : DataW H → Nat
  | .lit (.string bytes) => bytes.length + 1
  | .lit _ => 1
  | .nil => 1
  | .ptr d => uptoBulk d + 1
  | .slice elems spare => uptoBulkAll elems + uptoBulkAll spare + 1
  | .agg parts => uptoBulkAll parts + 1
  | .iface _ d => uptoBulk d + 1
  | .map entries => uptoBulkEntries entries + 1
  | .held _ => 1
def uptoBulkAll {H : Type} : List (DataW H) → Nat
  | [] => 0
  | d :: r => uptoBulk d + uptoBulkAll r
def uptoBulkEntries {H : Type} : List (Lit × DataW H) → Nat
  | [] => 0
  | x :: r => uptoBulkEntry x + uptoBulkEntries r
def uptoBulkEntry {H : Type} : Lit × DataW H → Nat
  | (.string bytes, d) => bytes.length + uptoBulk d + 1
  | (_, d) => uptoBulk d + 1
 end
def uptoSmall : (H : Type) → List (DataW H) → Bool := fun _ ds => decide (uptoBulkAll ds ≤ 1048576)
def OpenSpec.upto (s : _root_.Go.ChangeSpec) : _root_.Go.OpenSpec := { _root_.Go.OpenSpec.ofChange s with cond := some uptoSmall }

/-- 'laws.FnExactEqualRelation', WHERE WHAT IT READS IS OF BULK AT MOST 1048576: true; the input reads as it did. -/
def fnExactEqualRelationUptoRow : OpenClaim := { program := "ytnacnlljhjlmdab", sum := "95209c2f44cfa0cadb2645b531201fd1d28eb0f04bfbaa8fc346578ea4c13a92", func := "loop.example/g00512/laws.FnExactEqualRelation", spec := "fnExactEqualRelation", plainKeys := false, apart := false, narrowed := true }
def FnExactEqualRelationUptoSaid : Prop := fnExactEqualRelationUptoRow.holds Try.pinned (OpenSpec.upto fnExactEqualRelationSpec)

/-- 'laws.FnExactNodeIds', WHERE WHAT IT READS IS OF BULK AT MOST 1048576: true; the input reads as it did. -/
def fnExactNodeIdsUptoRow : OpenClaim := { program := "ytnacnlljhjlmdab", sum := "95209c2f44cfa0cadb2645b531201fd1d28eb0f04bfbaa8fc346578ea4c13a92", func := "loop.example/g00512/laws.FnExactNodeIds", spec := "fnExactNodeIds", plainKeys := false, apart := false, narrowed := true }
def FnExactNodeIdsUptoSaid : Prop := fnExactNodeIdsUptoRow.holds Try.pinned (OpenSpec.upto fnExactNodeIdsSpec)

/-- 'laws.FnExactStepsOf', WHERE WHAT IT READS IS OF BULK AT MOST 1048576: true; the input reads as it did. -/
def fnExactStepsOfUptoRow : OpenClaim := { program := "ytnacnlljhjlmdab", sum := "95209c2f44cfa0cadb2645b531201fd1d28eb0f04bfbaa8fc346578ea4c13a92", func := "loop.example/g00512/laws.FnExactStepsOf", spec := "fnExactStepsOf", plainKeys := false, apart := false, narrowed := true }
def FnExactStepsOfUptoSaid : Prop := fnExactStepsOfUptoRow.holds Try.pinned (OpenSpec.upto fnExactStepsOfSpec)

/-- 'laws.FnExactMemoValues', WHERE WHAT IT READS IS OF BULK AT MOST 1048576: true; the input reads as it did. -/
def fnExactMemoValuesUptoRow : OpenClaim := { program := "ytnacnlljhjlmdab", sum := "95209c2f44cfa0cadb2645b531201fd1d28eb0f04bfbaa8fc346578ea4c13a92", func := "loop.example/g00512/laws.FnExactMemoValues", spec := "fnExactMemoValues", plainKeys := false, apart := false, narrowed := true }
def FnExactMemoValuesUptoSaid : Prop := fnExactMemoValuesUptoRow.holds Try.pinned (OpenSpec.upto fnExactMemoValuesSpec)

/-- 'laws.FnExactChangedValues', WHERE WHAT IT READS IS OF BULK AT MOST 1048576: true; the input reads as it did. -/
def fnExactChangedValuesUptoRow : OpenClaim := { program := "ytnacnlljhjlmdab", sum := "95209c2f44cfa0cadb2645b531201fd1d28eb0f04bfbaa8fc346578ea4c13a92", func := "loop.example/g00512/laws.FnExactChangedValues", spec := "fnExactChangedValues", plainKeys := false, apart := false, narrowed := true }
def FnExactChangedValuesUptoSaid : Prop := fnExactChangedValuesUptoRow.holds Try.pinned (OpenSpec.upto fnExactChangedValuesSpec)

/-- 'laws.FnExactFindEntry', WHERE WHAT IT READS IS OF BULK AT MOST 1048576: true; the input reads as it did. -/
def fnExactFindEntryUptoRow : OpenClaim := { program := "ytnacnlljhjlmdab", sum := "95209c2f44cfa0cadb2645b531201fd1d28eb0f04bfbaa8fc346578ea4c13a92", func := "loop.example/g00512/laws.FnExactFindEntry", spec := "fnExactFindEntry", plainKeys := false, apart := false, narrowed := true }
def FnExactFindEntryUptoSaid : Prop := fnExactFindEntryUptoRow.holds Try.pinned (OpenSpec.upto fnExactFindEntrySpec)

/-- 'laws.FnExactUnionRelation', WHERE WHAT IT READS IS OF BULK AT MOST 1048576: true; the input reads as it did. -/
def fnExactUnionRelationUptoRow : OpenClaim := { program := "ytnacnlljhjlmdab", sum := "95209c2f44cfa0cadb2645b531201fd1d28eb0f04bfbaa8fc346578ea4c13a92", func := "loop.example/g00512/laws.FnExactUnionRelation", spec := "fnExactUnionRelation", unfollowed := true, recurses := true, plainKeys := false, apart := false, narrowed := true }
def FnExactUnionRelationUptoSaid : Prop := fnExactUnionRelationUptoRow.holds Try.pinned (OpenSpec.upto fnExactUnionRelationSpec)

/-- 'laws.FnExactProjectRelation', WHERE WHAT IT READS IS OF BULK AT MOST 1048576: true; the input reads as it did. -/
def fnExactProjectRelationUptoRow : OpenClaim := { program := "ytnacnlljhjlmdab", sum := "95209c2f44cfa0cadb2645b531201fd1d28eb0f04bfbaa8fc346578ea4c13a92", func := "loop.example/g00512/laws.FnExactProjectRelation", spec := "fnExactProjectRelation", unfollowed := true, recurses := true, plainKeys := false, apart := false, narrowed := true }
def FnExactProjectRelationUptoSaid : Prop := fnExactProjectRelationUptoRow.holds Try.pinned (OpenSpec.upto fnExactProjectRelationSpec)

/-- 'laws.FnExactLastUse', WHERE WHAT IT READS IS OF BULK AT MOST 1048576: true; the input reads as it did. -/
def fnExactLastUseUptoRow : OpenClaim := { program := "ytnacnlljhjlmdab", sum := "95209c2f44cfa0cadb2645b531201fd1d28eb0f04bfbaa8fc346578ea4c13a92", func := "loop.example/g00512/laws.FnExactLastUse", spec := "fnExactLastUse", inPlace := ["sync/atomic.LoadUint32", "(*internal/sync.Mutex).Lock", "internal/race.Disable", "sync/atomic.CompareAndSwapInt32", "internal/race.Enable", "internal/race.Acquire", "(*internal/sync.Mutex).lockSlow", "internal/sync.runtime_canSpin", "internal/sync.runtime_doSpin", "internal/sync.throw", "internal/sync.runtime_nanotime", "internal/sync.runtime_SemacquireMutex", "sync/atomic.AddInt32", "(*internal/sync.Mutex).Unlock", "internal/race.ReleaseMerge", "(*internal/sync.Mutex).unlockSlow", "internal/sync.fatal", "internal/sync.runtime_Semrelease", "sync/atomic.StoreUint32"], unfollowed := true, recurses := true, plainKeys := false, apart := false, narrowed := true }
def FnExactLastUseUptoSaid : Prop := fnExactLastUseUptoRow.holds Try.pinned (OpenSpec.upto fnExactLastUseSpec)

/-- 'laws.FnExactCheckSlots', WHERE WHAT IT READS IS OF BULK AT MOST 1048576: true; the input reads as it did. -/
def fnExactCheckSlotsUptoRow : OpenClaim := { program := "ytnacnlljhjlmdab", sum := "95209c2f44cfa0cadb2645b531201fd1d28eb0f04bfbaa8fc346578ea4c13a92", func := "loop.example/g00512/laws.FnExactCheckSlots", spec := "fnExactCheckSlots", inPlace := ["sync/atomic.LoadUint32", "(*internal/sync.Mutex).Lock", "internal/race.Disable", "sync/atomic.CompareAndSwapInt32", "internal/race.Enable", "internal/race.Acquire", "(*internal/sync.Mutex).lockSlow", "internal/sync.runtime_canSpin", "internal/sync.runtime_doSpin", "internal/sync.throw", "internal/sync.runtime_nanotime", "internal/sync.runtime_SemacquireMutex", "sync/atomic.AddInt32", "(*internal/sync.Mutex).Unlock", "internal/race.ReleaseMerge", "(*internal/sync.Mutex).unlockSlow", "internal/sync.fatal", "internal/sync.runtime_Semrelease", "sync/atomic.StoreUint32"], unfollowed := true, recurses := true, plainKeys := false, apart := false, narrowed := true }
def FnExactCheckSlotsUptoSaid : Prop := fnExactCheckSlotsUptoRow.holds Try.pinned (OpenSpec.upto fnExactCheckSlotsSpec)

/-- 'laws.FnExactUsesAny', WHERE WHAT IT READS IS OF BULK AT MOST 1048576: true; the input reads as it did. -/
def fnExactUsesAnyUptoRow : OpenClaim := { program := "ytnacnlljhjlmdab", sum := "95209c2f44cfa0cadb2645b531201fd1d28eb0f04bfbaa8fc346578ea4c13a92", func := "loop.example/g00512/laws.FnExactUsesAny", spec := "fnExactUsesAny", unfollowed := true, recurses := true, loops := true, plainKeys := false, apart := false, narrowed := true }
def FnExactUsesAnyUptoSaid : Prop := fnExactUsesAnyUptoRow.holds Try.pinned (OpenSpec.upto fnExactUsesAnySpec)

end Rows
end Go.Proofs.Ytnacnlljhjlmdab
