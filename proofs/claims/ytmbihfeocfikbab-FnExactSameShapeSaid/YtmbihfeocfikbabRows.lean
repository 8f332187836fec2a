/-
  No cell of these rows narrows 'for every input' (looked for: loops, veiled, ifaces, maps, wideKeys, modest, calm, conditions, laid).
  DERIVED. THE GIVEN ROWS OF THIS SEAT. 12 by the template 'for every input the law returns true; each argument reads behind the call as it read before'; 0 by the template 'total and deterministic' (their statements: YtmbihfeocfikbabTotals.lean).
  GIVEN WITH THE SEED: the statements are not yours to turn. If you find one false, say at which input.
  Laid BY PROGRAM, IN A SANDBOX (cutbox-rows.mjs): the forced cells as the released guide's own fill.sh prints them over the translation 8b53c1d66eafc3ad… (all of the seat's roots in one cut). By AI agents, Wed Nov 11 2026. No macro, syntax, notation, axiom, sorry.
-/
import Derived.Test.YtmbihfeocfikbabChecked
import GoSem.Claim
import GoSem.ClaimJoined
import GoSem.ClaimMapViews
import Derived.JoinedTies
import Derived.KernelRfl
namespace Go.Proofs.Ytmbihfeocfikbab
/- THE CELL 'sum', in the pinned program and in every row, IS THE sha256 OF THE DUMP (.gsa) THAT YtmbihfeocfikbabProg.lean LOADS. Nothing in Lean hashes anything: it is a label: what it is worth is what the hold of that sum in a sandbox is worth. -/
noncomputable def Try.pinned : Pinned := { name := "ytmbihfeocfikbab", sum := "8b53c1d66eafc3adc47e0aa9bc513f33ff00434d3ee97f44698399c3089deaf8", checked := Try.checked }
namespace Rows
def none {H : Type} : Left H := { results := [], args := [] }

/-- 'laws.FnExactEqualRelation': WHATEVER THE INPUT: true; the input reads as it did. -/
def fnExactEqualRelationSpec : ChangeSpec := { name := "fnExactEqualRelation", fn := fun _ => fun
  | [d1, d2] => { results := [.lit (.bool true)], args := [d1, d2] }
  | _ => none }
def fnExactEqualRelationRow : OpenClaim := { program := "ytmbihfeocfikbab", sum := "8b53c1d66eafc3adc47e0aa9bc513f33ff00434d3ee97f44698399c3089deaf8", func := "loop.example/g00512/laws.FnExactEqualRelation", spec := "fnExactEqualRelation", plainKeys := false, apart := false }
def FnExactEqualRelationSaid : Prop := fnExactEqualRelationRow.holds Try.pinned (OpenSpec.ofChange fnExactEqualRelationSpec)

/-- ITS FALSE NEIGHBOUR: 'it returns false'. Refute it at one input. -/
def fnExactEqualRelationWrong : ChangeSpec := { name := "fnExactEqualRelation", fn := fun _ => fun
  | [d1, d2] => { results := [.lit (.bool false)], args := [d1, d2] }
  | _ => none }
def FnExactEqualRelationWrongFalsely : Prop := fnExactEqualRelationRow.holds Try.pinned (OpenSpec.ofChange fnExactEqualRelationWrong)

/-- 'laws.FnExactSameShape': WHATEVER THE INPUT: true; the input reads as it did. -/
def fnExactSameShapeSpec : ChangeSpec := { name := "fnExactSameShape", fn := fun _ => fun
  | [d1, d2] => { results := [.lit (.bool true)], args := [d1, d2] }
  | _ => none }
def fnExactSameShapeRow : OpenClaim := { program := "ytmbihfeocfikbab", sum := "8b53c1d66eafc3adc47e0aa9bc513f33ff00434d3ee97f44698399c3089deaf8", func := "loop.example/g00512/laws.FnExactSameShape", spec := "fnExactSameShape", unfollowed := true, recurses := true, plainKeys := false, apart := false }
def FnExactSameShapeSaid : Prop := fnExactSameShapeRow.holds Try.pinned (OpenSpec.ofChange fnExactSameShapeSpec)

/-- ITS FALSE NEIGHBOUR: 'it returns false'. Refute it at one input. -/
def fnExactSameShapeWrong : ChangeSpec := { name := "fnExactSameShape", fn := fun _ => fun
  | [d1, d2] => { results := [.lit (.bool false)], args := [d1, d2] }
  | _ => none }
def FnExactSameShapeWrongFalsely : Prop := fnExactSameShapeRow.holds Try.pinned (OpenSpec.ofChange fnExactSameShapeWrong)

/-- 'laws.FnExactSameSource': WHATEVER THE INPUT: true; the input reads as it did. -/
def fnExactSameSourceSpec : ChangeSpec := { name := "fnExactSameSource", fn := fun _ => fun
  | [d1, d2] => { results := [.lit (.bool true)], args := [d1, d2] }
  | _ => none }
def fnExactSameSourceRow : OpenClaim := { program := "ytmbihfeocfikbab", sum := "8b53c1d66eafc3adc47e0aa9bc513f33ff00434d3ee97f44698399c3089deaf8", func := "loop.example/g00512/laws.FnExactSameSource", spec := "fnExactSameSource", plainKeys := false, apart := false }
def FnExactSameSourceSaid : Prop := fnExactSameSourceRow.holds Try.pinned (OpenSpec.ofChange fnExactSameSourceSpec)

/-- ITS FALSE NEIGHBOUR: 'it returns false'. Refute it at one input. -/
def fnExactSameSourceWrong : ChangeSpec := { name := "fnExactSameSource", fn := fun _ => fun
  | [d1, d2] => { results := [.lit (.bool false)], args := [d1, d2] }
  | _ => none }
def FnExactSameSourceWrongFalsely : Prop := fnExactSameSourceRow.holds Try.pinned (OpenSpec.ofChange fnExactSameSourceWrong)

/-- 'laws.FnExactStepsOf': WHATEVER THE INPUT: true; the input reads as it did. -/
def fnExactStepsOfSpec : ChangeSpec := { name := "fnExactStepsOf", fn := fun _ => fun
  | [d1, d2] => { results := [.lit (.bool true)], args := [d1, d2] }
  | _ => none }
def fnExactStepsOfRow : OpenClaim := { program := "ytmbihfeocfikbab", sum := "8b53c1d66eafc3adc47e0aa9bc513f33ff00434d3ee97f44698399c3089deaf8", func := "loop.example/g00512/laws.FnExactStepsOf", spec := "fnExactStepsOf", plainKeys := false, apart := false }
def FnExactStepsOfSaid : Prop := fnExactStepsOfRow.holds Try.pinned (OpenSpec.ofChange fnExactStepsOfSpec)

/-- ITS FALSE NEIGHBOUR: 'it returns false'. Refute it at one input. -/
def fnExactStepsOfWrong : ChangeSpec := { name := "fnExactStepsOf", fn := fun _ => fun
  | [d1, d2] => { results := [.lit (.bool false)], args := [d1, d2] }
  | _ => none }
def FnExactStepsOfWrongFalsely : Prop := fnExactStepsOfRow.holds Try.pinned (OpenSpec.ofChange fnExactStepsOfWrong)

/-- 'laws.FnExactEqualTree': WHATEVER THE INPUT: true; the input reads as it did. -/
def fnExactEqualTreeSpec : ChangeSpec := { name := "fnExactEqualTree", fn := fun _ => fun
  | [d1, d2] => { results := [.lit (.bool true)], args := [d1, d2] }
  | _ => none }
def fnExactEqualTreeRow : OpenClaim := { program := "ytmbihfeocfikbab", sum := "8b53c1d66eafc3adc47e0aa9bc513f33ff00434d3ee97f44698399c3089deaf8", func := "loop.example/g00512/laws.FnExactEqualTree", spec := "fnExactEqualTree", unfollowed := true, recurses := true, plainKeys := false, apart := false }
def FnExactEqualTreeSaid : Prop := fnExactEqualTreeRow.holds Try.pinned (OpenSpec.ofChange fnExactEqualTreeSpec)

/-- ITS FALSE NEIGHBOUR: 'it returns false'. Refute it at one input. -/
def fnExactEqualTreeWrong : ChangeSpec := { name := "fnExactEqualTree", fn := fun _ => fun
  | [d1, d2] => { results := [.lit (.bool false)], args := [d1, d2] }
  | _ => none }
def FnExactEqualTreeWrongFalsely : Prop := fnExactEqualTreeRow.holds Try.pinned (OpenSpec.ofChange fnExactEqualTreeWrong)

/-- 'laws.FnExactNodeIds': WHATEVER THE INPUT: true; the input reads as it did. -/
def fnExactNodeIdsSpec : ChangeSpec := { name := "fnExactNodeIds", fn := fun _ => fun
  | [d1, d2] => { results := [.lit (.bool true)], args := [d1, d2] }
  | _ => none }
def fnExactNodeIdsRow : OpenClaim := { program := "ytmbihfeocfikbab", sum := "8b53c1d66eafc3adc47e0aa9bc513f33ff00434d3ee97f44698399c3089deaf8", func := "loop.example/g00512/laws.FnExactNodeIds", spec := "fnExactNodeIds", plainKeys := false, apart := false }
def FnExactNodeIdsSaid : Prop := fnExactNodeIdsRow.holds Try.pinned (OpenSpec.ofChange fnExactNodeIdsSpec)

/-- ITS FALSE NEIGHBOUR: 'it returns false'. Refute it at one input. -/
def fnExactNodeIdsWrong : ChangeSpec := { name := "fnExactNodeIds", fn := fun _ => fun
  | [d1, d2] => { results := [.lit (.bool false)], args := [d1, d2] }
  | _ => none }
def FnExactNodeIdsWrongFalsely : Prop := fnExactNodeIdsRow.holds Try.pinned (OpenSpec.ofChange fnExactNodeIdsWrong)

/-- 'laws.FnExactUnionRelation': WHATEVER THE INPUT: true; the input reads as it did. -/
def fnExactUnionRelationSpec : ChangeSpec := { name := "fnExactUnionRelation", fn := fun _ => fun
  | [d1, d2] => { results := [.lit (.bool true)], args := [d1, d2] }
  | _ => none }
def fnExactUnionRelationRow : OpenClaim := { program := "ytmbihfeocfikbab", sum := "8b53c1d66eafc3adc47e0aa9bc513f33ff00434d3ee97f44698399c3089deaf8", func := "loop.example/g00512/laws.FnExactUnionRelation", spec := "fnExactUnionRelation", unfollowed := true, recurses := true, plainKeys := false, apart := false }
def FnExactUnionRelationSaid : Prop := fnExactUnionRelationRow.holds Try.pinned (OpenSpec.ofChange fnExactUnionRelationSpec)

/-- ITS FALSE NEIGHBOUR: 'it returns false'. Refute it at one input. -/
def fnExactUnionRelationWrong : ChangeSpec := { name := "fnExactUnionRelation", fn := fun _ => fun
  | [d1, d2] => { results := [.lit (.bool false)], args := [d1, d2] }
  | _ => none }
def FnExactUnionRelationWrongFalsely : Prop := fnExactUnionRelationRow.holds Try.pinned (OpenSpec.ofChange fnExactUnionRelationWrong)

/-- 'laws.FnExactProjectRelation': WHATEVER THE INPUT: true; the input reads as it did. -/
def fnExactProjectRelationSpec : ChangeSpec := { name := "fnExactProjectRelation", fn := fun _ => fun
  | [d1, d2] => { results := [.lit (.bool true)], args := [d1, d2] }
  | _ => none }
def fnExactProjectRelationRow : OpenClaim := { program := "ytmbihfeocfikbab", sum := "8b53c1d66eafc3adc47e0aa9bc513f33ff00434d3ee97f44698399c3089deaf8", func := "loop.example/g00512/laws.FnExactProjectRelation", spec := "fnExactProjectRelation", unfollowed := true, recurses := true, plainKeys := false, apart := false }
def FnExactProjectRelationSaid : Prop := fnExactProjectRelationRow.holds Try.pinned (OpenSpec.ofChange fnExactProjectRelationSpec)

/-- ITS FALSE NEIGHBOUR: 'it returns false'. Refute it at one input. -/
def fnExactProjectRelationWrong : ChangeSpec := { name := "fnExactProjectRelation", fn := fun _ => fun
  | [d1, d2] => { results := [.lit (.bool false)], args := [d1, d2] }
  | _ => none }
def FnExactProjectRelationWrongFalsely : Prop := fnExactProjectRelationRow.holds Try.pinned (OpenSpec.ofChange fnExactProjectRelationWrong)

/-- 'laws.FnRelations': WHATEVER THE INPUT: true; the input reads as it did. -/
def fnRelationsSpec : ChangeSpec := { name := "fnRelations", fn := fun _ => fun
  | [d] => { results := [.lit (.bool true)], args := [d] }
  | _ => none }
def fnRelationsRow : OpenClaim := { program := "ytmbihfeocfikbab", sum := "8b53c1d66eafc3adc47e0aa9bc513f33ff00434d3ee97f44698399c3089deaf8", func := "loop.example/g00512/laws.FnRelations", spec := "fnRelations", unfollowed := true, recurses := true, plainKeys := false, apart := false }
def FnRelationsSaid : Prop := fnRelationsRow.holds Try.pinned (OpenSpec.ofChange fnRelationsSpec)

/-- ITS FALSE NEIGHBOUR: 'it returns false'. Refute it at one input. -/
def fnRelationsWrong : ChangeSpec := { name := "fnRelations", fn := fun _ => fun
  | [d] => { results := [.lit (.bool false)], args := [d] }
  | _ => none }
def FnRelationsWrongFalsely : Prop := fnRelationsRow.holds Try.pinned (OpenSpec.ofChange fnRelationsWrong)

/-- 'laws.FnPairs': WHATEVER THE INPUT: true; the input reads as it did. -/
def fnPairsSpec : ChangeSpec := { name := "fnPairs", fn := fun _ => fun
  | [d] => { results := [.lit (.bool true)], args := [d] }
  | _ => none }
def fnPairsRow : OpenClaim := { program := "ytmbihfeocfikbab", sum := "8b53c1d66eafc3adc47e0aa9bc513f33ff00434d3ee97f44698399c3089deaf8", func := "loop.example/g00512/laws.FnPairs", spec := "fnPairs", unfollowed := true, recurses := true, plainKeys := false, apart := false }
def FnPairsSaid : Prop := fnPairsRow.holds Try.pinned (OpenSpec.ofChange fnPairsSpec)

/-- ITS FALSE NEIGHBOUR: 'it returns false'. Refute it at one input. -/
def fnPairsWrong : ChangeSpec := { name := "fnPairs", fn := fun _ => fun
  | [d] => { results := [.lit (.bool false)], args := [d] }
  | _ => none }
def FnPairsWrongFalsely : Prop := fnPairsRow.holds Try.pinned (OpenSpec.ofChange fnPairsWrong)

/-- 'laws.FnExactLastUse': WHATEVER THE INPUT: true; the input reads as it did. -/
def fnExactLastUseSpec : ChangeSpec := { name := "fnExactLastUse", fn := fun _ => fun
  | [d1, d2] => { results := [.lit (.bool true)], args := [d1, d2] }
  | _ => none }
def fnExactLastUseRow : OpenClaim := { program := "ytmbihfeocfikbab", sum := "8b53c1d66eafc3adc47e0aa9bc513f33ff00434d3ee97f44698399c3089deaf8", func := "loop.example/g00512/laws.FnExactLastUse", spec := "fnExactLastUse", inPlace := ["sync/atomic.LoadUint32", "(*internal/sync.Mutex).Lock", "internal/race.Disable", "sync/atomic.CompareAndSwapInt32", "internal/race.Enable", "internal/race.Acquire", "(*internal/sync.Mutex).lockSlow", "internal/sync.runtime_canSpin", "internal/sync.runtime_doSpin", "internal/sync.throw", "internal/sync.runtime_nanotime", "internal/sync.runtime_SemacquireMutex", "sync/atomic.AddInt32", "(*internal/sync.Mutex).Unlock", "internal/race.ReleaseMerge", "(*internal/sync.Mutex).unlockSlow", "internal/sync.fatal", "internal/sync.runtime_Semrelease", "sync/atomic.StoreUint32"], unfollowed := true, recurses := true, plainKeys := false, apart := false }
def FnExactLastUseSaid : Prop := fnExactLastUseRow.holds Try.pinned (OpenSpec.ofChange fnExactLastUseSpec)

/-- ITS FALSE NEIGHBOUR: 'it returns false'. Refute it at one input. -/
def fnExactLastUseWrong : ChangeSpec := { name := "fnExactLastUse", fn := fun _ => fun
  | [d1, d2] => { results := [.lit (.bool false)], args := [d1, d2] }
  | _ => none }
def FnExactLastUseWrongFalsely : Prop := fnExactLastUseRow.holds Try.pinned (OpenSpec.ofChange fnExactLastUseWrong)

/-- 'laws.FnExactCheckSlots': WHATEVER THE INPUT: true; the input reads as it did. -/
def fnExactCheckSlotsSpec : ChangeSpec := { name := "fnExactCheckSlots", fn := fun _ => fun
  | [d1, d2, d3] => { results := [.lit (.bool true)], args := [d1, d2, d3] }
  | _ => none }
def fnExactCheckSlotsRow : OpenClaim := { program := "ytmbihfeocfikbab", sum := "8b53c1d66eafc3adc47e0aa9bc513f33ff00434d3ee97f44698399c3089deaf8", func := "loop.example/g00512/laws.FnExactCheckSlots", spec := "fnExactCheckSlots", inPlace := ["sync/atomic.LoadUint32", "(*internal/sync.Mutex).Lock", "internal/race.Disable", "sync/atomic.CompareAndSwapInt32", "internal/race.Enable", "internal/race.Acquire", "(*internal/sync.Mutex).lockSlow", "internal/sync.runtime_canSpin", "internal/sync.runtime_doSpin", "internal/sync.throw", "internal/sync.runtime_nanotime", "internal/sync.runtime_SemacquireMutex", "sync/atomic.AddInt32", "(*internal/sync.Mutex).Unlock", "internal/race.ReleaseMerge", "(*internal/sync.Mutex).unlockSlow", "internal/sync.fatal", "internal/sync.runtime_Semrelease", "sync/atomic.StoreUint32"], unfollowed := true, recurses := true, plainKeys := false, apart := false }
def FnExactCheckSlotsSaid : Prop := fnExactCheckSlotsRow.holds Try.pinned (OpenSpec.ofChange fnExactCheckSlotsSpec)

/-- ITS FALSE NEIGHBOUR: 'it returns false'. Refute it at one input. -/
def fnExactCheckSlotsWrong : ChangeSpec := { name := "fnExactCheckSlots", fn := fun _ => fun
  | [d1, d2, d3] => { results := [.lit (.bool false)], args := [d1, d2, d3] }
  | _ => none }
def FnExactCheckSlotsWrongFalsely : Prop := fnExactCheckSlotsRow.holds Try.pinned (OpenSpec.ofChange fnExactCheckSlotsWrong)

/- THE SECOND FORM. 'bulk': how many values and letters a reading holds, each counted each time it is reached (what is shared counts as often as it is met; a slice's spare places count too). A statement '..UptoSaid' is the law's where the arguments, and the package variables that the reading takes, are together of bulk at most 1048576: NARROWER than '..Said'. Prove '..Said' where nothing that the law and all that it calls make is longer than what came in: it says more and counts as full. Else prove '..UptoSaid'. A law counts once. -/
mutual
def uptoBulk {H : Type} : DataW H → Nat
  | .lit (.string bytes) => bytes.length + 1
  | .lit _ => 1
  | .nil => 1
  | .ptr d => uptoBulk d + 1
  | .slice elems spare => uptoBulkAll elems + uptoBulkAll spare + 1
  | .agg parts => uptoBulkAll parts + 1
  | .iface _ d => uptoBulk d + 1
  | .map entries => uptoBulkEntries entries + 1
  | .held _ => 1
def uptoBulkAll {H : Type} : List (DataW H) → Nat
  | [] => 0
  | d :: r => uptoBulk d + uptoBulkAll r
def uptoBulkEntries {H : Type} : List (Lit × DataW H) → Nat
  | [] => 0
  | x :: r => uptoBulkEntry x + uptoBulkEntries r
def uptoBulkEntry {H : Type} : Lit × DataW H → Nat
  | (.string bytes, d) => bytes.length + uptoBulk d + 1
  | (_, d) => uptoBulk d + 1
 end
def uptoSmall : (H : Type) → List (DataW H) → Bool := fun _ ds => decide (uptoBulkAll ds ≤ 1048576)
def OpenSpec.upto (s : _root_.Go.ChangeSpec) : _root_.Go.OpenSpec := { _root_.Go.OpenSpec.ofChange s with cond := some uptoSmall }

/-- 'laws.FnExactEqualRelation', WHERE WHAT IT READS IS OF BULK AT MOST 1048576: true; the input reads as it did. -/
def fnExactEqualRelationUptoRow : OpenClaim := { program := "ytmbihfeocfikbab", sum := "8b53c1d66eafc3adc47e0aa9bc513f33ff00434d3ee97f44698399c3089deaf8", func := "loop.example/g00512/laws.FnExactEqualRelation", spec := "fnExactEqualRelation", plainKeys := false, apart := false, narrowed := true }
def FnExactEqualRelationUptoSaid : Prop := fnExactEqualRelationUptoRow.holds Try.pinned (OpenSpec.upto fnExactEqualRelationSpec)

/-- 'laws.FnExactSameShape', WHERE WHAT IT READS IS OF BULK AT MOST 1048576: true; the input reads as it did. -/
def fnExactSameShapeUptoRow : OpenClaim := { program := "ytmbihfeocfikbab", sum := "8b53c1d66eafc3adc47e0aa9bc513f33ff00434d3ee97f44698399c3089deaf8", func := "loop.example/g00512/laws.FnExactSameShape", spec := "fnExactSameShape", unfollowed := true, recurses := true, plainKeys := false, apart := false, narrowed := true }
def FnExactSameShapeUptoSaid : Prop := fnExactSameShapeUptoRow.holds Try.pinned (OpenSpec.upto fnExactSameShapeSpec)

/-- 'laws.FnExactSameSource', WHERE WHAT IT READS IS OF BULK AT MOST 1048576: true; the input reads as it did. -/
def fnExactSameSourceUptoRow : OpenClaim := { program := "ytmbihfeocfikbab", sum := "8b53c1d66eafc3adc47e0aa9bc513f33ff00434d3ee97f44698399c3089deaf8", func := "loop.example/g00512/laws.FnExactSameSource", spec := "fnExactSameSource", plainKeys := false, apart := false, narrowed := true }
def FnExactSameSourceUptoSaid : Prop := fnExactSameSourceUptoRow.holds Try.pinned (OpenSpec.upto fnExactSameSourceSpec)

/-- 'laws.FnExactStepsOf', WHERE WHAT IT READS IS OF BULK AT MOST 1048576: true; the input reads as it did. -/
def fnExactStepsOfUptoRow : OpenClaim := { program := "ytmbihfeocfikbab", sum := "8b53c1d66eafc3adc47e0aa9bc513f33ff00434d3ee97f44698399c3089deaf8", func := "loop.example/g00512/laws.FnExactStepsOf", spec := "fnExactStepsOf", plainKeys := false, apart := false, narrowed := true }
def FnExactStepsOfUptoSaid : Prop := fnExactStepsOfUptoRow.holds Try.pinned (OpenSpec.upto fnExactStepsOfSpec)

/-- 'laws.FnExactEqualTree', WHERE WHAT IT READS IS OF BULK AT MOST 1048576: true; the input reads as it did. -/
def fnExactEqualTreeUptoRow : OpenClaim := { program := "ytmbihfeocfikbab", sum := "8b53c1d66eafc3adc47e0aa9bc513f33ff00434d3ee97f44698399c3089deaf8", func := "loop.example/g00512/laws.FnExactEqualTree", spec := "fnExactEqualTree", unfollowed := true, recurses := true, plainKeys := false, apart := false, narrowed := true }
def FnExactEqualTreeUptoSaid : Prop := fnExactEqualTreeUptoRow.holds Try.pinned (OpenSpec.upto fnExactEqualTreeSpec)

/-- 'laws.FnExactNodeIds', WHERE WHAT IT READS IS OF BULK AT MOST 1048576: true; the input reads as it did. -/
def fnExactNodeIdsUptoRow : OpenClaim := { program := "ytmbihfeocfikbab", sum := "8b53c1d66eafc3adc47e0aa9bc513f33ff00434d3ee97f44698399c3089deaf8", func := "loop.example/g00512/laws.FnExactNodeIds", spec := "fnExactNodeIds", plainKeys := false, apart := false, narrowed := true }
def FnExactNodeIdsUptoSaid : Prop := fnExactNodeIdsUptoRow.holds Try.pinned (OpenSpec.upto fnExactNodeIdsSpec)

/-- 'laws.FnExactUnionRelation', WHERE WHAT IT READS IS OF BULK AT MOST 1048576: true; the input reads as it did. -/
def fnExactUnionRelationUptoRow : OpenClaim := { program := "ytmbihfeocfikbab", sum := "8b53c1d66eafc3adc47e0aa9bc513f33ff00434d3ee97f44698399c3089deaf8", func := "loop.example/g00512/laws.FnExactUnionRelation", spec := "fnExactUnionRelation", unfollowed := true, recurses := true, plainKeys := false, apart := false, narrowed := true }
def FnExactUnionRelationUptoSaid : Prop := fnExactUnionRelationUptoRow.holds Try.pinned (OpenSpec.upto fnExactUnionRelationSpec)

/-- 'laws.FnExactProjectRelation', WHERE WHAT IT READS IS OF BULK AT MOST 1048576: true; the input reads as it did. -/
def fnExactProjectRelationUptoRow : OpenClaim := { program := "ytmbihfeocfikbab", sum := "8b53c1d66eafc3adc47e0aa9bc513f33ff00434d3ee97f44698399c3089deaf8", func := "loop.example/g00512/laws.FnExactProjectRelation", spec := "fnExactProjectRelation", unfollowed := true, recurses := true, plainKeys := false, apart := false, narrowed := true }
def FnExactProjectRelationUptoSaid : Prop := fnExactProjectRelationUptoRow.holds Try.pinned (OpenSpec.upto fnExactProjectRelationSpec)

/-- 'laws.FnRelations', WHERE WHAT IT READS IS OF BULK AT MOST 1048576: true; the input reads as it did. -/
def fnRelationsUptoRow : OpenClaim := { program := "ytmbihfeocfikbab", sum := "8b53c1d66eafc3adc47e0aa9bc513f33ff00434d3ee97f44698399c3089deaf8", func := "loop.example/g00512/laws.FnRelations", spec := "fnRelations", unfollowed := true, recurses := true, plainKeys := false, apart := false, narrowed := true }
def FnRelationsUptoSaid : Prop := fnRelationsUptoRow.holds Try.pinned (OpenSpec.upto fnRelationsSpec)

/-- 'laws.FnPairs', WHERE WHAT IT READS IS OF BULK AT MOST 1048576: true; the input reads as it did. -/
def fnPairsUptoRow : OpenClaim := { program := "ytmbihfeocfikbab", sum := "8b53c1d66eafc3adc47e0aa9bc513f33ff00434d3ee97f44698399c3089deaf8", func := "loop.example/g00512/laws.FnPairs", spec := "fnPairs", unfollowed := true, recurses := true, plainKeys := false, apart := false, narrowed := true }
def FnPairsUptoSaid : Prop := fnPairsUptoRow.holds Try.pinned (OpenSpec.upto fnPairsSpec)

/-- 'laws.FnExactLastUse', WHERE WHAT IT READS IS OF BULK AT MOST 1048576: true; the input reads as it did. -/
def fnExactLastUseUptoRow : OpenClaim := { program := "ytmbihfeocfikbab", sum := "8b53c1d66eafc3adc47e0aa9bc513f33ff00434d3ee97f44698399c3089deaf8", func := "loop.example/g00512/laws.FnExactLastUse", spec := "fnExactLastUse", inPlace := ["sync/atomic.LoadUint32", "(*internal/sync.Mutex).Lock", "internal/race.Disable", "sync/atomic.CompareAndSwapInt32", "internal/race.Enable", "internal/race.Acquire", "(*internal/sync.Mutex).lockSlow", "internal/sync.runtime_canSpin", "internal/sync.runtime_doSpin", "internal/sync.throw", "internal/sync.runtime_nanotime", "internal/sync.runtime_SemacquireMutex", "sync/atomic.AddInt32", "(*internal/sync.Mutex).Unlock", "internal/race.ReleaseMerge", "(*internal/sync.Mutex).unlockSlow", "internal/sync.fatal", "internal/sync.runtime_Semrelease", "sync/atomic.StoreUint32"], unfollowed := true, recurses := true, plainKeys := false, apart := false, narrowed := true }
def FnExactLastUseUptoSaid : Prop := fnExactLastUseUptoRow.holds Try.pinned (OpenSpec.upto fnExactLastUseSpec)

/-- 'laws.FnExactCheckSlots', WHERE WHAT IT READS IS OF BULK AT MOST 1048576: true; the input reads as it did. -/
def fnExactCheckSlotsUptoRow : OpenClaim := { program := "ytmbihfeocfikbab", sum := "8b53c1d66eafc3adc47e0aa9bc513f33ff00434d3ee97f44698399c3089deaf8", func := "loop.example/g00512/laws.FnExactCheckSlots", spec := "fnExactCheckSlots", inPlace := ["sync/atomic.LoadUint32", "(*internal/sync.Mutex).Lock", "internal/race.Disable", "sync/atomic.CompareAndSwapInt32", "internal/race.Enable", "internal/race.Acquire", "(*internal/sync.Mutex).lockSlow", "internal/sync.runtime_canSpin", "internal/sync.runtime_doSpin", "internal/sync.throw", "internal/sync.runtime_nanotime", "internal/sync.runtime_SemacquireMutex", "sync/atomic.AddInt32", "(*internal/sync.Mutex).Unlock", "internal/race.ReleaseMerge", "(*internal/sync.Mutex).unlockSlow", "internal/sync.fatal", "internal/sync.runtime_Semrelease", "sync/atomic.StoreUint32"], unfollowed := true, recurses := true, plainKeys := false, apart := false, narrowed := true }
def FnExactCheckSlotsUptoSaid : Prop := fnExactCheckSlotsUptoRow.holds Try.pinned (OpenSpec.upto fnExactCheckSlotsSpec)

end Rows
end Go.Proofs.Ytmbihfeocfikbab
