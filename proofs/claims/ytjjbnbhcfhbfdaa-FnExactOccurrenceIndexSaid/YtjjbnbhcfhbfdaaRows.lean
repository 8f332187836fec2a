/-
  No cell of these rows narrows 'for every input' (looked for: loops, veiled, ifaces, maps, wideKeys, modest, calm, conditions, laid).
  DERIVED. THE GIVEN ROWS OF THIS SEAT. 12 by the template 'for every input the law returns true; each argument reads behind the call as it read before'; 0 by the template 'total and deterministic' (their statements: YtjjbnbhcfhbfdaaTotals.lean).
  GIVEN WITH THE SEED: the statements are not yours to turn. If you find one false, say at which input.
  Laid BY PROGRAM, IN A SANDBOX (cutbox-rows.mjs): the forced cells as the released guide's own fill.sh prints them over the translation ad67272920651bb9… (all of the seat's roots in one cut). By AI agents, Wed Nov 11 2026. No macro, syntax, notation, axiom, sorry.
-/
import Derived.Test.YtjjbnbhcfhbfdaaChecked
import GoSem.Claim
import GoSem.ClaimJoined
import GoSem.ClaimMapViews
import Derived.JoinedTies
import Derived.KernelRfl
namespace Go.Proofs.Ytjjbnbhcfhbfdaa
/- THE CELL 'sum', in the pinned program and in every row, IS THE sha256 OF THE DUMP (.gsa) THAT YtjjbnbhcfhbfdaaProg.lean LOADS. Nothing in Lean hashes anything: it is a label: what it is worth is what the hold of that sum in a sandbox is worth. -/
noncomputable def Try.pinned : Pinned := { name := "ytjjbnbhcfhbfdaa", sum := "ad67272920651bb9fcbbfed6bcce24027a22d2981ce2fb92aa6be83bcbfec1ae", checked := Try.checked }
namespace Rows
def none {H : Type} : Left H := { results := [], args := [] }

/-- 'laws.FnExactInstanceIndex': WHATEVER THE INPUT: true; the input reads as it did. -/
def fnExactInstanceIndexSpec : ChangeSpec := { name := "fnExactInstanceIndex", fn := fun _ => fun
  | [d1, d2] => { results := [.lit (.bool true)], args := [d1, d2] }
  | _ => none }
def fnExactInstanceIndexRow : OpenClaim := { program := "ytjjbnbhcfhbfdaa", sum := "ad67272920651bb9fcbbfed6bcce24027a22d2981ce2fb92aa6be83bcbfec1ae", func := "loop.example/g00512/laws.FnExactInstanceIndex", spec := "fnExactInstanceIndex", apart := false }
def FnExactInstanceIndexSaid : Prop := fnExactInstanceIndexRow.holds Try.pinned (OpenSpec.ofChange fnExactInstanceIndexSpec)

/-- ITS FALSE NEIGHBOUR: 'it returns false'. Refute it at one input. -/
def fnExactInstanceIndexWrong : ChangeSpec := { name := "fnExactInstanceIndex", fn := fun _ => fun
  | [d1, d2] => { results := [.lit (.bool false)], args := [d1, d2] }
  | _ => none }
def FnExactInstanceIndexWrongFalsely : Prop := fnExactInstanceIndexRow.holds Try.pinned (OpenSpec.ofChange fnExactInstanceIndexWrong)

/-- 'laws.FnExactOccurrenceIndex': WHATEVER THE INPUT: true; the input reads as it did. -/
def fnExactOccurrenceIndexSpec : ChangeSpec := { name := "fnExactOccurrenceIndex", fn := fun _ => fun
  | [d1, d2] => { results := [.lit (.bool true)], args := [d1, d2] }
  | _ => none }
def fnExactOccurrenceIndexRow : OpenClaim := { program := "ytjjbnbhcfhbfdaa", sum := "ad67272920651bb9fcbbfed6bcce24027a22d2981ce2fb92aa6be83bcbfec1ae", func := "loop.example/g00512/laws.FnExactOccurrenceIndex", spec := "fnExactOccurrenceIndex", unfollowed := true, recurses := true, apart := false }
def FnExactOccurrenceIndexSaid : Prop := fnExactOccurrenceIndexRow.holds Try.pinned (OpenSpec.ofChange fnExactOccurrenceIndexSpec)

/-- ITS FALSE NEIGHBOUR: 'it returns false'. Refute it at one input. -/
def fnExactOccurrenceIndexWrong : ChangeSpec := { name := "fnExactOccurrenceIndex", fn := fun _ => fun
  | [d1, d2] => { results := [.lit (.bool false)], args := [d1, d2] }
  | _ => none }
def FnExactOccurrenceIndexWrongFalsely : Prop := fnExactOccurrenceIndexRow.holds Try.pinned (OpenSpec.ofChange fnExactOccurrenceIndexWrong)

/-- 'laws.FnExactEmptyRelation': WHATEVER THE INPUT: true; the input reads as it did. -/
def fnExactEmptyRelationSpec : ChangeSpec := { name := "fnExactEmptyRelation", fn := fun _ => fun
  | [d] => { results := [.lit (.bool true)], args := [d] }
  | _ => none }
def fnExactEmptyRelationRow : OpenClaim := { program := "ytjjbnbhcfhbfdaa", sum := "ad67272920651bb9fcbbfed6bcce24027a22d2981ce2fb92aa6be83bcbfec1ae", func := "loop.example/g00512/laws.FnExactEmptyRelation", spec := "fnExactEmptyRelation", apart := false }
def FnExactEmptyRelationSaid : Prop := fnExactEmptyRelationRow.holds Try.pinned (OpenSpec.ofChange fnExactEmptyRelationSpec)

/-- ITS FALSE NEIGHBOUR: 'it returns false'. Refute it at one input. -/
def fnExactEmptyRelationWrong : ChangeSpec := { name := "fnExactEmptyRelation", fn := fun _ => fun
  | [d] => { results := [.lit (.bool false)], args := [d] }
  | _ => none }
def FnExactEmptyRelationWrongFalsely : Prop := fnExactEmptyRelationRow.holds Try.pinned (OpenSpec.ofChange fnExactEmptyRelationWrong)

/-- 'laws.FnExactIsValidRelation': WHATEVER THE INPUT: true; the input reads as it did. -/
def fnExactIsValidRelationSpec : ChangeSpec := { name := "fnExactIsValidRelation", fn := fun _ => fun
  | [d] => { results := [.lit (.bool true)], args := [d] }
  | _ => none }
def fnExactIsValidRelationRow : OpenClaim := { program := "ytjjbnbhcfhbfdaa", sum := "ad67272920651bb9fcbbfed6bcce24027a22d2981ce2fb92aa6be83bcbfec1ae", func := "loop.example/g00512/laws.FnExactIsValidRelation", spec := "fnExactIsValidRelation", unfollowed := true, recurses := true, apart := false }
def FnExactIsValidRelationSaid : Prop := fnExactIsValidRelationRow.holds Try.pinned (OpenSpec.ofChange fnExactIsValidRelationSpec)

/-- ITS FALSE NEIGHBOUR: 'it returns false'. Refute it at one input. -/
def fnExactIsValidRelationWrong : ChangeSpec := { name := "fnExactIsValidRelation", fn := fun _ => fun
  | [d] => { results := [.lit (.bool false)], args := [d] }
  | _ => none }
def FnExactIsValidRelationWrongFalsely : Prop := fnExactIsValidRelationRow.holds Try.pinned (OpenSpec.ofChange fnExactIsValidRelationWrong)

/-- 'laws.FnExactHasPair': WHATEVER THE INPUT: true; the input reads as it did. -/
def fnExactHasPairSpec : ChangeSpec := { name := "fnExactHasPair", fn := fun _ => fun
  | [d1, d2, d3] => { results := [.lit (.bool true)], args := [d1, d2, d3] }
  | _ => none }
def fnExactHasPairRow : OpenClaim := { program := "ytjjbnbhcfhbfdaa", sum := "ad67272920651bb9fcbbfed6bcce24027a22d2981ce2fb92aa6be83bcbfec1ae", func := "loop.example/g00512/laws.FnExactHasPair", spec := "fnExactHasPair", unfollowed := true, recurses := true, apart := false }
def FnExactHasPairSaid : Prop := fnExactHasPairRow.holds Try.pinned (OpenSpec.ofChange fnExactHasPairSpec)

/-- ITS FALSE NEIGHBOUR: 'it returns false'. Refute it at one input. -/
def fnExactHasPairWrong : ChangeSpec := { name := "fnExactHasPair", fn := fun _ => fun
  | [d1, d2, d3] => { results := [.lit (.bool false)], args := [d1, d2, d3] }
  | _ => none }
def FnExactHasPairWrongFalsely : Prop := fnExactHasPairRow.holds Try.pinned (OpenSpec.ofChange fnExactHasPairWrong)

/-- 'laws.FnExactEqualRelation': WHATEVER THE INPUT: true; the input reads as it did. -/
def fnExactEqualRelationSpec : ChangeSpec := { name := "fnExactEqualRelation", fn := fun _ => fun
  | [d1, d2] => { results := [.lit (.bool true)], args := [d1, d2] }
  | _ => none }
def fnExactEqualRelationRow : OpenClaim := { program := "ytjjbnbhcfhbfdaa", sum := "ad67272920651bb9fcbbfed6bcce24027a22d2981ce2fb92aa6be83bcbfec1ae", func := "loop.example/g00512/laws.FnExactEqualRelation", spec := "fnExactEqualRelation", apart := false }
def FnExactEqualRelationSaid : Prop := fnExactEqualRelationRow.holds Try.pinned (OpenSpec.ofChange fnExactEqualRelationSpec)

/-- ITS FALSE NEIGHBOUR: 'it returns false'. Refute it at one input. -/
def fnExactEqualRelationWrong : ChangeSpec := { name := "fnExactEqualRelation", fn := fun _ => fun
  | [d1, d2] => { results := [.lit (.bool false)], args := [d1, d2] }
  | _ => none }
def FnExactEqualRelationWrongFalsely : Prop := fnExactEqualRelationRow.holds Try.pinned (OpenSpec.ofChange fnExactEqualRelationWrong)

/-- 'laws.FnExactNodeIndex': WHATEVER THE INPUT: true; the input reads as it did. -/
def fnExactNodeIndexSpec : ChangeSpec := { name := "fnExactNodeIndex", fn := fun _ => fun
  | [d1, d2] => { results := [.lit (.bool true)], args := [d1, d2] }
  | _ => none }
def fnExactNodeIndexRow : OpenClaim := { program := "ytjjbnbhcfhbfdaa", sum := "ad67272920651bb9fcbbfed6bcce24027a22d2981ce2fb92aa6be83bcbfec1ae", func := "loop.example/g00512/laws.FnExactNodeIndex", spec := "fnExactNodeIndex", unfollowed := true, recurses := true, apart := false }
def FnExactNodeIndexSaid : Prop := fnExactNodeIndexRow.holds Try.pinned (OpenSpec.ofChange fnExactNodeIndexSpec)

/-- ITS FALSE NEIGHBOUR: 'it returns false'. Refute it at one input. -/
def fnExactNodeIndexWrong : ChangeSpec := { name := "fnExactNodeIndex", fn := fun _ => fun
  | [d1, d2] => { results := [.lit (.bool false)], args := [d1, d2] }
  | _ => none }
def FnExactNodeIndexWrongFalsely : Prop := fnExactNodeIndexRow.holds Try.pinned (OpenSpec.ofChange fnExactNodeIndexWrong)

/-- 'laws.FnExactSubtreeSize': WHATEVER THE INPUT: true; the input reads as it did. -/
def fnExactSubtreeSizeSpec : ChangeSpec := { name := "fnExactSubtreeSize", fn := fun _ => fun
  | [d1, d2] => { results := [.lit (.bool true)], args := [d1, d2] }
  | _ => none }
def fnExactSubtreeSizeRow : OpenClaim := { program := "ytjjbnbhcfhbfdaa", sum := "ad67272920651bb9fcbbfed6bcce24027a22d2981ce2fb92aa6be83bcbfec1ae", func := "loop.example/g00512/laws.FnExactSubtreeSize", spec := "fnExactSubtreeSize", apart := false }
def FnExactSubtreeSizeSaid : Prop := fnExactSubtreeSizeRow.holds Try.pinned (OpenSpec.ofChange fnExactSubtreeSizeSpec)

/-- ITS FALSE NEIGHBOUR: 'it returns false'. Refute it at one input. -/
def fnExactSubtreeSizeWrong : ChangeSpec := { name := "fnExactSubtreeSize", fn := fun _ => fun
  | [d1, d2] => { results := [.lit (.bool false)], args := [d1, d2] }
  | _ => none }
def FnExactSubtreeSizeWrongFalsely : Prop := fnExactSubtreeSizeRow.holds Try.pinned (OpenSpec.ofChange fnExactSubtreeSizeWrong)

/-- 'laws.FnExactSameShape': WHATEVER THE INPUT: true; the input reads as it did. -/
def fnExactSameShapeSpec : ChangeSpec := { name := "fnExactSameShape", fn := fun _ => fun
  | [d1, d2] => { results := [.lit (.bool true)], args := [d1, d2] }
  | _ => none }
def fnExactSameShapeRow : OpenClaim := { program := "ytjjbnbhcfhbfdaa", sum := "ad67272920651bb9fcbbfed6bcce24027a22d2981ce2fb92aa6be83bcbfec1ae", func := "loop.example/g00512/laws.FnExactSameShape", spec := "fnExactSameShape", unfollowed := true, recurses := true, apart := false }
def FnExactSameShapeSaid : Prop := fnExactSameShapeRow.holds Try.pinned (OpenSpec.ofChange fnExactSameShapeSpec)

/-- ITS FALSE NEIGHBOUR: 'it returns false'. Refute it at one input. -/
def fnExactSameShapeWrong : ChangeSpec := { name := "fnExactSameShape", fn := fun _ => fun
  | [d1, d2] => { results := [.lit (.bool false)], args := [d1, d2] }
  | _ => none }
def FnExactSameShapeWrongFalsely : Prop := fnExactSameShapeRow.holds Try.pinned (OpenSpec.ofChange fnExactSameShapeWrong)

/-- 'laws.FnExactEqualTree': WHATEVER THE INPUT: true; the input reads as it did. -/
def fnExactEqualTreeSpec : ChangeSpec := { name := "fnExactEqualTree", fn := fun _ => fun
  | [d1, d2] => { results := [.lit (.bool true)], args := [d1, d2] }
  | _ => none }
def fnExactEqualTreeRow : OpenClaim := { program := "ytjjbnbhcfhbfdaa", sum := "ad67272920651bb9fcbbfed6bcce24027a22d2981ce2fb92aa6be83bcbfec1ae", func := "loop.example/g00512/laws.FnExactEqualTree", spec := "fnExactEqualTree", unfollowed := true, recurses := true, apart := false }
def FnExactEqualTreeSaid : Prop := fnExactEqualTreeRow.holds Try.pinned (OpenSpec.ofChange fnExactEqualTreeSpec)

/-- ITS FALSE NEIGHBOUR: 'it returns false'. Refute it at one input. -/
def fnExactEqualTreeWrong : ChangeSpec := { name := "fnExactEqualTree", fn := fun _ => fun
  | [d1, d2] => { results := [.lit (.bool false)], args := [d1, d2] }
  | _ => none }
def FnExactEqualTreeWrongFalsely : Prop := fnExactEqualTreeRow.holds Try.pinned (OpenSpec.ofChange fnExactEqualTreeWrong)

/-- 'laws.FnExactFindAttribute': WHATEVER THE INPUT: true; the input reads as it did. -/
def fnExactFindAttributeSpec : ChangeSpec := { name := "fnExactFindAttribute", fn := fun _ => fun
  | [d1, d2] => { results := [.lit (.bool true)], args := [d1, d2] }
  | _ => none }
def fnExactFindAttributeRow : OpenClaim := { program := "ytjjbnbhcfhbfdaa", sum := "ad67272920651bb9fcbbfed6bcce24027a22d2981ce2fb92aa6be83bcbfec1ae", func := "loop.example/g00512/laws.FnExactFindAttribute", spec := "fnExactFindAttribute", apart := false }
def FnExactFindAttributeSaid : Prop := fnExactFindAttributeRow.holds Try.pinned (OpenSpec.ofChange fnExactFindAttributeSpec)

/-- ITS FALSE NEIGHBOUR: 'it returns false'. Refute it at one input. -/
def fnExactFindAttributeWrong : ChangeSpec := { name := "fnExactFindAttribute", fn := fun _ => fun
  | [d1, d2] => { results := [.lit (.bool false)], args := [d1, d2] }
  | _ => none }
def FnExactFindAttributeWrongFalsely : Prop := fnExactFindAttributeRow.holds Try.pinned (OpenSpec.ofChange fnExactFindAttributeWrong)

/-- 'laws.FnExactSlotValue': WHATEVER THE INPUT: true; the input reads as it did. -/
def fnExactSlotValueSpec : ChangeSpec := { name := "fnExactSlotValue", fn := fun _ => fun
  | [d1, d2] => { results := [.lit (.bool true)], args := [d1, d2] }
  | _ => none }
def fnExactSlotValueRow : OpenClaim := { program := "ytjjbnbhcfhbfdaa", sum := "ad67272920651bb9fcbbfed6bcce24027a22d2981ce2fb92aa6be83bcbfec1ae", func := "loop.example/g00512/laws.FnExactSlotValue", spec := "fnExactSlotValue", unfollowed := true, recurses := true, apart := false }
def FnExactSlotValueSaid : Prop := fnExactSlotValueRow.holds Try.pinned (OpenSpec.ofChange fnExactSlotValueSpec)

/-- ITS FALSE NEIGHBOUR: 'it returns false'. Refute it at one input. -/
def fnExactSlotValueWrong : ChangeSpec := { name := "fnExactSlotValue", fn := fun _ => fun
  | [d1, d2] => { results := [.lit (.bool false)], args := [d1, d2] }
  | _ => none }
def FnExactSlotValueWrongFalsely : Prop := fnExactSlotValueRow.holds Try.pinned (OpenSpec.ofChange fnExactSlotValueWrong)

/- THE SECOND FORM. 'bulk': how many values and letters a reading holds, each counted each time it is reached (what is shared counts as often as it is met; a slice's spare places count too). A statement '..UptoSaid' is the law's where the arguments, and the package variables that the reading takes, are together of bulk at most 1048576: NARROWER than '..Said'. Prove '..Said' where nothing that the law and all that it calls make is longer than what came in: it says more and counts as full. Else prove '..UptoSaid'. A law counts once. -/
mutual
def uptoBulk {H : Type} : DataW H → Nat
  | .lit (.string bytes) => bytes.length + 1
  | .lit _ => 1
  | .nil => 1
  | .ptr d => uptoBulk d + 1
  | .slice elems spare => uptoBulkAll elems + uptoBulkAll spare + 1
  | .agg parts => uptoBulkAll parts + 1
  | .iface _ d => uptoBulk d + 1
  | .map entries => uptoBulkEntries entries + 1
  | .held _ => 1
def uptoBulkAll {H : Type} : List (DataW H) → Nat
  | [] => 0
  | d :: r => uptoBulk d + uptoBulkAll r
def uptoBulkEntries {H : Type} : List (Lit × DataW H) → Nat
  | [] => 0
  | x :: r => uptoBulkEntry x + uptoBulkEntries r
def uptoBulkEntry {H : Type} : Lit × DataW H → Nat
  | (.string bytes, d) => bytes.length + uptoBulk d + 1
  | (_, d) => uptoBulk d + 1
 end
def uptoSmall : (H : Type) → List (DataW H) → Bool := fun _ ds => decide (uptoBulkAll ds ≤ 1048576)
def OpenSpec.upto (s : _root_.Go.ChangeSpec) : _root_.Go.OpenSpec := { _root_.Go.OpenSpec.ofChange s with cond := some uptoSmall }

/-- 'laws.FnExactInstanceIndex', WHERE WHAT IT READS IS OF BULK AT MOST 1048576: true; the input reads as it did. -/
def fnExactInstanceIndexUptoRow : OpenClaim := { program := "ytjjbnbhcfhbfdaa", sum := "ad67272920651bb9fcbbfed6bcce24027a22d2981ce2fb92aa6be83bcbfec1ae", func := "loop.example/g00512/laws.FnExactInstanceIndex", spec := "fnExactInstanceIndex", apart := false, narrowed := true }
def FnExactInstanceIndexUptoSaid : Prop := fnExactInstanceIndexUptoRow.holds Try.pinned (OpenSpec.upto fnExactInstanceIndexSpec)

/-- 'laws.FnExactOccurrenceIndex', WHERE WHAT IT READS IS OF BULK AT MOST 1048576: true; the input reads as it did. -/
def fnExactOccurrenceIndexUptoRow : OpenClaim := { program := "ytjjbnbhcfhbfdaa", sum := "ad67272920651bb9fcbbfed6bcce24027a22d2981ce2fb92aa6be83bcbfec1ae", func := "loop.example/g00512/laws.FnExactOccurrenceIndex", spec := "fnExactOccurrenceIndex", unfollowed := true, recurses := true, apart := false, narrowed := true }
def FnExactOccurrenceIndexUptoSaid : Prop := fnExactOccurrenceIndexUptoRow.holds Try.pinned (OpenSpec.upto fnExactOccurrenceIndexSpec)

/-- 'laws.FnExactEmptyRelation', WHERE WHAT IT READS IS OF BULK AT MOST 1048576: true; the input reads as it did. -/
def fnExactEmptyRelationUptoRow : OpenClaim := { program := "ytjjbnbhcfhbfdaa", sum := "ad67272920651bb9fcbbfed6bcce24027a22d2981ce2fb92aa6be83bcbfec1ae", func := "loop.example/g00512/laws.FnExactEmptyRelation", spec := "fnExactEmptyRelation", apart := false, narrowed := true }
def FnExactEmptyRelationUptoSaid : Prop := fnExactEmptyRelationUptoRow.holds Try.pinned (OpenSpec.upto fnExactEmptyRelationSpec)

/-- 'laws.FnExactIsValidRelation', WHERE WHAT IT READS IS OF BULK AT MOST 1048576: true; the input reads as it did. -/
def fnExactIsValidRelationUptoRow : OpenClaim := { program := "ytjjbnbhcfhbfdaa", sum := "ad67272920651bb9fcbbfed6bcce24027a22d2981ce2fb92aa6be83bcbfec1ae", func := "loop.example/g00512/laws.FnExactIsValidRelation", spec := "fnExactIsValidRelation", unfollowed := true, recurses := true, apart := false, narrowed := true }
def FnExactIsValidRelationUptoSaid : Prop := fnExactIsValidRelationUptoRow.holds Try.pinned (OpenSpec.upto fnExactIsValidRelationSpec)

/-- 'laws.FnExactHasPair', WHERE WHAT IT READS IS OF BULK AT MOST 1048576: true; the input reads as it did. -/
def fnExactHasPairUptoRow : OpenClaim := { program := "ytjjbnbhcfhbfdaa", sum := "ad67272920651bb9fcbbfed6bcce24027a22d2981ce2fb92aa6be83bcbfec1ae", func := "loop.example/g00512/laws.FnExactHasPair", spec := "fnExactHasPair", unfollowed := true, recurses := true, apart := false, narrowed := true }
def FnExactHasPairUptoSaid : Prop := fnExactHasPairUptoRow.holds Try.pinned (OpenSpec.upto fnExactHasPairSpec)

/-- 'laws.FnExactEqualRelation', WHERE WHAT IT READS IS OF BULK AT MOST 1048576: true; the input reads as it did. -/
def fnExactEqualRelationUptoRow : OpenClaim := { program := "ytjjbnbhcfhbfdaa", sum := "ad67272920651bb9fcbbfed6bcce24027a22d2981ce2fb92aa6be83bcbfec1ae", func := "loop.example/g00512/laws.FnExactEqualRelation", spec := "fnExactEqualRelation", apart := false, narrowed := true }
def FnExactEqualRelationUptoSaid : Prop := fnExactEqualRelationUptoRow.holds Try.pinned (OpenSpec.upto fnExactEqualRelationSpec)

/-- 'laws.FnExactNodeIndex', WHERE WHAT IT READS IS OF BULK AT MOST 1048576: true; the input reads as it did. -/
def fnExactNodeIndexUptoRow : OpenClaim := { program := "ytjjbnbhcfhbfdaa", sum := "ad67272920651bb9fcbbfed6bcce24027a22d2981ce2fb92aa6be83bcbfec1ae", func := "loop.example/g00512/laws.FnExactNodeIndex", spec := "fnExactNodeIndex", unfollowed := true, recurses := true, apart := false, narrowed := true }
def FnExactNodeIndexUptoSaid : Prop := fnExactNodeIndexUptoRow.holds Try.pinned (OpenSpec.upto fnExactNodeIndexSpec)

/-- 'laws.FnExactSubtreeSize', WHERE WHAT IT READS IS OF BULK AT MOST 1048576: true; the input reads as it did. -/
def fnExactSubtreeSizeUptoRow : OpenClaim := { program := "ytjjbnbhcfhbfdaa", sum := "ad67272920651bb9fcbbfed6bcce24027a22d2981ce2fb92aa6be83bcbfec1ae", func := "loop.example/g00512/laws.FnExactSubtreeSize", spec := "fnExactSubtreeSize", apart := false, narrowed := true }
def FnExactSubtreeSizeUptoSaid : Prop := fnExactSubtreeSizeUptoRow.holds Try.pinned (OpenSpec.upto fnExactSubtreeSizeSpec)

/-- 'laws.FnExactSameShape', WHERE WHAT IT READS IS OF BULK AT MOST 1048576: true; the input reads as it did. -/
def fnExactSameShapeUptoRow : OpenClaim := { program := "ytjjbnbhcfhbfdaa", sum := "ad67272920651bb9fcbbfed6bcce24027a22d2981ce2fb92aa6be83bcbfec1ae", func := "loop.example/g00512/laws.FnExactSameShape", spec := "fnExactSameShape", unfollowed := true, recurses := true, apart := false, narrowed := true }
def FnExactSameShapeUptoSaid : Prop := fnExactSameShapeUptoRow.holds Try.pinned (OpenSpec.upto fnExactSameShapeSpec)

/-- 'laws.FnExactEqualTree', WHERE WHAT IT READS IS OF BULK AT MOST 1048576: true; the input reads as it did. -/
def fnExactEqualTreeUptoRow : OpenClaim := { program := "ytjjbnbhcfhbfdaa", sum := "ad67272920651bb9fcbbfed6bcce24027a22d2981ce2fb92aa6be83bcbfec1ae", func := "loop.example/g00512/laws.FnExactEqualTree", spec := "fnExactEqualTree", unfollowed := true, recurses := true, apart := false, narrowed := true }
def FnExactEqualTreeUptoSaid : Prop := fnExactEqualTreeUptoRow.holds Try.pinned (OpenSpec.upto fnExactEqualTreeSpec)

/-- 'laws.FnExactFindAttribute', WHERE WHAT IT READS IS OF BULK AT MOST 1048576: true; the input reads as it did. -/
def fnExactFindAttributeUptoRow : OpenClaim := { program := "ytjjbnbhcfhbfdaa", sum := "ad67272920651bb9fcbbfed6bcce24027a22d2981ce2fb92aa6be83bcbfec1ae", func := "loop.example/g00512/laws.FnExactFindAttribute", spec := "fnExactFindAttribute", apart := false, narrowed := true }
def FnExactFindAttributeUptoSaid : Prop := fnExactFindAttributeUptoRow.holds Try.pinned (OpenSpec.upto fnExactFindAttributeSpec)

/-- 'laws.FnExactSlotValue', WHERE WHAT IT READS IS OF BULK AT MOST 1048576: true; the input reads as it did. -/
def fnExactSlotValueUptoRow : OpenClaim := { program := "ytjjbnbhcfhbfdaa", sum := "ad67272920651bb9fcbbfed6bcce24027a22d2981ce2fb92aa6be83bcbfec1ae", func := "loop.example/g00512/laws.FnExactSlotValue", spec := "fnExactSlotValue", unfollowed := true, recurses := true, apart := false, narrowed := true }
def FnExactSlotValueUptoSaid : Prop := fnExactSlotValueUptoRow.holds Try.pinned (OpenSpec.upto fnExactSlotValueSpec)

end Rows
end Go.Proofs.Ytjjbnbhcfhbfdaa
