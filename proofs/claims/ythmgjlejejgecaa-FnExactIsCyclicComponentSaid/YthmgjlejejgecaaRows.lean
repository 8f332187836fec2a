/-
  No cell of these rows narrows 'for every input' (looked for: loops, veiled, ifaces, maps, wideKeys, modest, calm, conditions, laid).
  DERIVED. THE GIVEN ROWS OF THIS SEAT. 12 by the template 'for every input the law returns true; each argument reads behind the call as it read before'; 0 by the template 'total and deterministic' (their statements: YthmgjlejejgecaaTotals.lean).
  GIVEN WITH THE SEED: the statements are not yours to turn. If you find one false, say at which input.
  Laid BY PROGRAM, IN A SANDBOX (cutbox-rows.mjs): the forced cells as the released guide's own fill.sh prints them over the translation 4319f1229fe49492… (all of the seat's roots in one cut). By AI agents, Wed Nov 11 2026. No macro, syntax, notation, axiom, sorry.
-/
import Derived.Test.YthmgjlejejgecaaChecked
import GoSem.Claim
import GoSem.ClaimJoined
import GoSem.ClaimMapViews
import Derived.JoinedTies
import Derived.KernelRfl
namespace Go.Proofs.Ythmgjlejejgecaa
/- THE CELL 'sum', in the pinned program and in every row, IS THE sha256 OF THE DUMP (.gsa) THAT YthmgjlejejgecaaProg.lean LOADS. Nothing in Lean hashes anything: it is a label: what it is worth is what the hold of that sum in a sandbox is worth. -/
noncomputable def Try.pinned : Pinned := { name := "ythmgjlejejgecaa", sum := "4319f1229fe4949254d17a7d71e5cd4d2a33dddaed09a593726f06d8a9328746", checked := Try.checked }
namespace Rows
def none {H : Type} : Left H := { results := [], args := [] }

/-- 'laws.FnExactEditName': WHATEVER THE INPUT: true; the input reads as it did. -/
def fnExactEditNameSpec : ChangeSpec := { name := "fnExactEditName", fn := fun _ => fun
  | [d] => { results := [.lit (.bool true)], args := [d] }
  | _ => none }
def fnExactEditNameRow : OpenClaim := { program := "ythmgjlejejgecaa", sum := "4319f1229fe4949254d17a7d71e5cd4d2a33dddaed09a593726f06d8a9328746", func := "loop.example/g00512/laws.FnExactEditName", spec := "fnExactEditName", apart := false }
def FnExactEditNameSaid : Prop := fnExactEditNameRow.holds Try.pinned (OpenSpec.ofChange fnExactEditNameSpec)

/-- ITS FALSE NEIGHBOUR: 'it returns false'. Refute it at one input. -/
def fnExactEditNameWrong : ChangeSpec := { name := "fnExactEditName", fn := fun _ => fun
  | [d] => { results := [.lit (.bool false)], args := [d] }
  | _ => none }
def FnExactEditNameWrongFalsely : Prop := fnExactEditNameRow.holds Try.pinned (OpenSpec.ofChange fnExactEditNameWrong)

/-- 'laws.FnExactExampleTree': WHATEVER THE INPUT: true; the input reads as it did. -/
def fnExactExampleTreeSpec : ChangeSpec := { name := "fnExactExampleTree", fn := fun _ => fun
  | [d] => { results := [.lit (.bool true)], args := [d] }
  | _ => none }
def fnExactExampleTreeRow : OpenClaim := { program := "ythmgjlejejgecaa", sum := "4319f1229fe4949254d17a7d71e5cd4d2a33dddaed09a593726f06d8a9328746", func := "loop.example/g00512/laws.FnExactExampleTree", spec := "fnExactExampleTree", apart := false }
def FnExactExampleTreeSaid : Prop := fnExactExampleTreeRow.holds Try.pinned (OpenSpec.ofChange fnExactExampleTreeSpec)

/-- ITS FALSE NEIGHBOUR: 'it returns false'. Refute it at one input. -/
def fnExactExampleTreeWrong : ChangeSpec := { name := "fnExactExampleTree", fn := fun _ => fun
  | [d] => { results := [.lit (.bool false)], args := [d] }
  | _ => none }
def FnExactExampleTreeWrongFalsely : Prop := fnExactExampleTreeRow.holds Try.pinned (OpenSpec.ofChange fnExactExampleTreeWrong)

/-- 'laws.FnExactIsCyclicComponent': WHATEVER THE INPUT: true; the input reads as it did. -/
def fnExactIsCyclicComponentSpec : ChangeSpec := { name := "fnExactIsCyclicComponent", fn := fun _ => fun
  | [d1, d2] => { results := [.lit (.bool true)], args := [d1, d2] }
  | _ => none }
def fnExactIsCyclicComponentRow : OpenClaim := { program := "ythmgjlejejgecaa", sum := "4319f1229fe4949254d17a7d71e5cd4d2a33dddaed09a593726f06d8a9328746", func := "loop.example/g00512/laws.FnExactIsCyclicComponent", spec := "fnExactIsCyclicComponent", apart := false }
def FnExactIsCyclicComponentSaid : Prop := fnExactIsCyclicComponentRow.holds Try.pinned (OpenSpec.ofChange fnExactIsCyclicComponentSpec)

/-- ITS FALSE NEIGHBOUR: 'it returns false'. Refute it at one input. -/
def fnExactIsCyclicComponentWrong : ChangeSpec := { name := "fnExactIsCyclicComponent", fn := fun _ => fun
  | [d1, d2] => { results := [.lit (.bool false)], args := [d1, d2] }
  | _ => none }
def FnExactIsCyclicComponentWrongFalsely : Prop := fnExactIsCyclicComponentRow.holds Try.pinned (OpenSpec.ofChange fnExactIsCyclicComponentWrong)

/-- 'laws.FnExactCountSteps': WHATEVER THE INPUT: true; the input reads as it did. -/
def fnExactCountStepsSpec : ChangeSpec := { name := "fnExactCountSteps", fn := fun _ => fun
  | [d1, d2] => { results := [.lit (.bool true)], args := [d1, d2] }
  | _ => none }
def fnExactCountStepsRow : OpenClaim := { program := "ythmgjlejejgecaa", sum := "4319f1229fe4949254d17a7d71e5cd4d2a33dddaed09a593726f06d8a9328746", func := "loop.example/g00512/laws.FnExactCountSteps", spec := "fnExactCountSteps", apart := false }
def FnExactCountStepsSaid : Prop := fnExactCountStepsRow.holds Try.pinned (OpenSpec.ofChange fnExactCountStepsSpec)

/-- ITS FALSE NEIGHBOUR: 'it returns false'. Refute it at one input. -/
def fnExactCountStepsWrong : ChangeSpec := { name := "fnExactCountSteps", fn := fun _ => fun
  | [d1, d2] => { results := [.lit (.bool false)], args := [d1, d2] }
  | _ => none }
def FnExactCountStepsWrongFalsely : Prop := fnExactCountStepsRow.holds Try.pinned (OpenSpec.ofChange fnExactCountStepsWrong)

/-- 'laws.FnExactSameSource': WHATEVER THE INPUT: true; the input reads as it did. -/
def fnExactSameSourceSpec : ChangeSpec := { name := "fnExactSameSource", fn := fun _ => fun
  | [d1, d2] => { results := [.lit (.bool true)], args := [d1, d2] }
  | _ => none }
def fnExactSameSourceRow : OpenClaim := { program := "ythmgjlejejgecaa", sum := "4319f1229fe4949254d17a7d71e5cd4d2a33dddaed09a593726f06d8a9328746", func := "loop.example/g00512/laws.FnExactSameSource", spec := "fnExactSameSource", apart := false }
def FnExactSameSourceSaid : Prop := fnExactSameSourceRow.holds Try.pinned (OpenSpec.ofChange fnExactSameSourceSpec)

/-- ITS FALSE NEIGHBOUR: 'it returns false'. Refute it at one input. -/
def fnExactSameSourceWrong : ChangeSpec := { name := "fnExactSameSource", fn := fun _ => fun
  | [d1, d2] => { results := [.lit (.bool false)], args := [d1, d2] }
  | _ => none }
def FnExactSameSourceWrongFalsely : Prop := fnExactSameSourceRow.holds Try.pinned (OpenSpec.ofChange fnExactSameSourceWrong)

/-- 'laws.FnExactStepsOf': WHATEVER THE INPUT: true; the input reads as it did. -/
def fnExactStepsOfSpec : ChangeSpec := { name := "fnExactStepsOf", fn := fun _ => fun
  | [d1, d2] => { results := [.lit (.bool true)], args := [d1, d2] }
  | _ => none }
def fnExactStepsOfRow : OpenClaim := { program := "ythmgjlejejgecaa", sum := "4319f1229fe4949254d17a7d71e5cd4d2a33dddaed09a593726f06d8a9328746", func := "loop.example/g00512/laws.FnExactStepsOf", spec := "fnExactStepsOf", apart := false }
def FnExactStepsOfSaid : Prop := fnExactStepsOfRow.holds Try.pinned (OpenSpec.ofChange fnExactStepsOfSpec)

/-- ITS FALSE NEIGHBOUR: 'it returns false'. Refute it at one input. -/
def fnExactStepsOfWrong : ChangeSpec := { name := "fnExactStepsOf", fn := fun _ => fun
  | [d1, d2] => { results := [.lit (.bool false)], args := [d1, d2] }
  | _ => none }
def FnExactStepsOfWrongFalsely : Prop := fnExactStepsOfRow.holds Try.pinned (OpenSpec.ofChange fnExactStepsOfWrong)

/-- 'laws.FnExactEqualRelation': WHATEVER THE INPUT: true; the input reads as it did. -/
def fnExactEqualRelationSpec : ChangeSpec := { name := "fnExactEqualRelation", fn := fun _ => fun
  | [d1, d2] => { results := [.lit (.bool true)], args := [d1, d2] }
  | _ => none }
def fnExactEqualRelationRow : OpenClaim := { program := "ythmgjlejejgecaa", sum := "4319f1229fe4949254d17a7d71e5cd4d2a33dddaed09a593726f06d8a9328746", func := "loop.example/g00512/laws.FnExactEqualRelation", spec := "fnExactEqualRelation", apart := false }
def FnExactEqualRelationSaid : Prop := fnExactEqualRelationRow.holds Try.pinned (OpenSpec.ofChange fnExactEqualRelationSpec)

/-- ITS FALSE NEIGHBOUR: 'it returns false'. Refute it at one input. -/
def fnExactEqualRelationWrong : ChangeSpec := { name := "fnExactEqualRelation", fn := fun _ => fun
  | [d1, d2] => { results := [.lit (.bool false)], args := [d1, d2] }
  | _ => none }
def FnExactEqualRelationWrongFalsely : Prop := fnExactEqualRelationRow.holds Try.pinned (OpenSpec.ofChange fnExactEqualRelationWrong)

/-- 'laws.FnExactUnionRelation': WHATEVER THE INPUT: true; the input reads as it did. -/
def fnExactUnionRelationSpec : ChangeSpec := { name := "fnExactUnionRelation", fn := fun _ => fun
  | [d1, d2] => { results := [.lit (.bool true)], args := [d1, d2] }
  | _ => none }
def fnExactUnionRelationRow : OpenClaim := { program := "ythmgjlejejgecaa", sum := "4319f1229fe4949254d17a7d71e5cd4d2a33dddaed09a593726f06d8a9328746", func := "loop.example/g00512/laws.FnExactUnionRelation", spec := "fnExactUnionRelation", unfollowed := true, recurses := true, apart := false }
def FnExactUnionRelationSaid : Prop := fnExactUnionRelationRow.holds Try.pinned (OpenSpec.ofChange fnExactUnionRelationSpec)

/-- ITS FALSE NEIGHBOUR: 'it returns false'. Refute it at one input. -/
def fnExactUnionRelationWrong : ChangeSpec := { name := "fnExactUnionRelation", fn := fun _ => fun
  | [d1, d2] => { results := [.lit (.bool false)], args := [d1, d2] }
  | _ => none }
def FnExactUnionRelationWrongFalsely : Prop := fnExactUnionRelationRow.holds Try.pinned (OpenSpec.ofChange fnExactUnionRelationWrong)

/-- 'laws.FnExactProjectRelation': WHATEVER THE INPUT: true; the input reads as it did. -/
def fnExactProjectRelationSpec : ChangeSpec := { name := "fnExactProjectRelation", fn := fun _ => fun
  | [d1, d2] => { results := [.lit (.bool true)], args := [d1, d2] }
  | _ => none }
def fnExactProjectRelationRow : OpenClaim := { program := "ythmgjlejejgecaa", sum := "4319f1229fe4949254d17a7d71e5cd4d2a33dddaed09a593726f06d8a9328746", func := "loop.example/g00512/laws.FnExactProjectRelation", spec := "fnExactProjectRelation", unfollowed := true, recurses := true, apart := false }
def FnExactProjectRelationSaid : Prop := fnExactProjectRelationRow.holds Try.pinned (OpenSpec.ofChange fnExactProjectRelationSpec)

/-- ITS FALSE NEIGHBOUR: 'it returns false'. Refute it at one input. -/
def fnExactProjectRelationWrong : ChangeSpec := { name := "fnExactProjectRelation", fn := fun _ => fun
  | [d1, d2] => { results := [.lit (.bool false)], args := [d1, d2] }
  | _ => none }
def FnExactProjectRelationWrongFalsely : Prop := fnExactProjectRelationRow.holds Try.pinned (OpenSpec.ofChange fnExactProjectRelationWrong)

/-- 'laws.FnRelations': WHATEVER THE INPUT: true; the input reads as it did. -/
def fnRelationsSpec : ChangeSpec := { name := "fnRelations", fn := fun _ => fun
  | [d] => { results := [.lit (.bool true)], args := [d] }
  | _ => none }
def fnRelationsRow : OpenClaim := { program := "ythmgjlejejgecaa", sum := "4319f1229fe4949254d17a7d71e5cd4d2a33dddaed09a593726f06d8a9328746", func := "loop.example/g00512/laws.FnRelations", spec := "fnRelations", unfollowed := true, recurses := true, apart := false }
def FnRelationsSaid : Prop := fnRelationsRow.holds Try.pinned (OpenSpec.ofChange fnRelationsSpec)

/-- ITS FALSE NEIGHBOUR: 'it returns false'. Refute it at one input. -/
def fnRelationsWrong : ChangeSpec := { name := "fnRelations", fn := fun _ => fun
  | [d] => { results := [.lit (.bool false)], args := [d] }
  | _ => none }
def FnRelationsWrongFalsely : Prop := fnRelationsRow.holds Try.pinned (OpenSpec.ofChange fnRelationsWrong)

/-- 'laws.FnExactNodeIds': WHATEVER THE INPUT: true; the input reads as it did. -/
def fnExactNodeIdsSpec : ChangeSpec := { name := "fnExactNodeIds", fn := fun _ => fun
  | [d1, d2] => { results := [.lit (.bool true)], args := [d1, d2] }
  | _ => none }
def fnExactNodeIdsRow : OpenClaim := { program := "ythmgjlejejgecaa", sum := "4319f1229fe4949254d17a7d71e5cd4d2a33dddaed09a593726f06d8a9328746", func := "loop.example/g00512/laws.FnExactNodeIds", spec := "fnExactNodeIds", apart := false }
def FnExactNodeIdsSaid : Prop := fnExactNodeIdsRow.holds Try.pinned (OpenSpec.ofChange fnExactNodeIdsSpec)

/-- ITS FALSE NEIGHBOUR: 'it returns false'. Refute it at one input. -/
def fnExactNodeIdsWrong : ChangeSpec := { name := "fnExactNodeIds", fn := fun _ => fun
  | [d1, d2] => { results := [.lit (.bool false)], args := [d1, d2] }
  | _ => none }
def FnExactNodeIdsWrongFalsely : Prop := fnExactNodeIdsRow.holds Try.pinned (OpenSpec.ofChange fnExactNodeIdsWrong)

/-- 'laws.FnExactSameShape': WHATEVER THE INPUT: true; the input reads as it did. -/
def fnExactSameShapeSpec : ChangeSpec := { name := "fnExactSameShape", fn := fun _ => fun
  | [d1, d2] => { results := [.lit (.bool true)], args := [d1, d2] }
  | _ => none }
def fnExactSameShapeRow : OpenClaim := { program := "ythmgjlejejgecaa", sum := "4319f1229fe4949254d17a7d71e5cd4d2a33dddaed09a593726f06d8a9328746", func := "loop.example/g00512/laws.FnExactSameShape", spec := "fnExactSameShape", unfollowed := true, recurses := true, apart := false }
def FnExactSameShapeSaid : Prop := fnExactSameShapeRow.holds Try.pinned (OpenSpec.ofChange fnExactSameShapeSpec)

/-- ITS FALSE NEIGHBOUR: 'it returns false'. Refute it at one input. -/
def fnExactSameShapeWrong : ChangeSpec := { name := "fnExactSameShape", fn := fun _ => fun
  | [d1, d2] => { results := [.lit (.bool false)], args := [d1, d2] }
  | _ => none }
def FnExactSameShapeWrongFalsely : Prop := fnExactSameShapeRow.holds Try.pinned (OpenSpec.ofChange fnExactSameShapeWrong)

/- THE SECOND FORM. 'bulk': how many values and letters a reading holds, each counted each time it is reached (what is shared counts as often as it is met; a slice's spare places count too). A statement '..UptoSaid' is the law's where the arguments, and the package variables that the reading takes, are together of bulk at most 1048576: NARROWER than '..Said'. Prove '..Said' where nothing that the law and all that it calls make is longer than what came in: it says more and counts as full. Else prove '..UptoSaid'. A law counts once. -/
mutual
def uptoBulk {H : Type} : DataW H → Nat
  | .lit (.string bytes) => bytes.length + 1
  | .lit _ => 1
  | .nil => 1
  | .ptr d => uptoBulk d + 1
  | .slice elems spare => uptoBulkAll elems + uptoBulkAll spare + 1
  | .agg parts => uptoBulkAll parts + 1
  | .iface _ d => uptoBulk d + 1
  | .map entries => uptoBulkEntries entries + 1
  | .held _ => 1
def uptoBulkAll {H : Type} : List (DataW H) → Nat
  | [] => 0
  | d :: r => uptoBulk d + uptoBulkAll r
def uptoBulkEntries {H : Type} : List (Lit × DataW H) → Nat
  | [] => 0
  | x :: r => uptoBulkEntry x + uptoBulkEntries r
def uptoBulkEntry {H : Type} : Lit × DataW H → Nat
  | (.string bytes, d) => bytes.length + uptoBulk d + 1
  | (_, d) => uptoBulk d + 1
 end
def uptoSmall : (H : Type) → List (DataW H) → Bool := fun _ ds => decide (uptoBulkAll ds ≤ 1048576)
def OpenSpec.upto (s : _root_.Go.ChangeSpec) : _root_.Go.OpenSpec := { _root_.Go.OpenSpec.ofChange s with cond := some uptoSmall }

/-- 'laws.FnExactEditName', WHERE WHAT IT READS IS OF BULK AT MOST 1048576: true; the input reads as it did. -/
def fnExactEditNameUptoRow : OpenClaim := { program := "ythmgjlejejgecaa", sum := "4319f1229fe4949254d17a7d71e5cd4d2a33dddaed09a593726f06d8a9328746", func := "loop.example/g00512/laws.FnExactEditName", spec := "fnExactEditName", apart := false, narrowed := true }
def FnExactEditNameUptoSaid : Prop := fnExactEditNameUptoRow.holds Try.pinned (OpenSpec.upto fnExactEditNameSpec)

/-- 'laws.FnExactExampleTree', WHERE WHAT IT READS IS OF BULK AT MOST 1048576: true; the input reads as it did. -/
def fnExactExampleTreeUptoRow : OpenClaim := { program := "ythmgjlejejgecaa", sum := "4319f1229fe4949254d17a7d71e5cd4d2a33dddaed09a593726f06d8a9328746", func := "loop.example/g00512/laws.FnExactExampleTree", spec := "fnExactExampleTree", apart := false, narrowed := true }
def FnExactExampleTreeUptoSaid : Prop := fnExactExampleTreeUptoRow.holds Try.pinned (OpenSpec.upto fnExactExampleTreeSpec)

/-- 'laws.FnExactIsCyclicComponent', WHERE WHAT IT READS IS OF BULK AT MOST 1048576: true; the input reads as it did. -/
def fnExactIsCyclicComponentUptoRow : OpenClaim := { program := "ythmgjlejejgecaa", sum := "4319f1229fe4949254d17a7d71e5cd4d2a33dddaed09a593726f06d8a9328746", func := "loop.example/g00512/laws.FnExactIsCyclicComponent", spec := "fnExactIsCyclicComponent", apart := false, narrowed := true }
def FnExactIsCyclicComponentUptoSaid : Prop := fnExactIsCyclicComponentUptoRow.holds Try.pinned (OpenSpec.upto fnExactIsCyclicComponentSpec)

/-- 'laws.FnExactCountSteps', WHERE WHAT IT READS IS OF BULK AT MOST 1048576: true; the input reads as it did. -/
def fnExactCountStepsUptoRow : OpenClaim := { program := "ythmgjlejejgecaa", sum := "4319f1229fe4949254d17a7d71e5cd4d2a33dddaed09a593726f06d8a9328746", func := "loop.example/g00512/laws.FnExactCountSteps", spec := "fnExactCountSteps", apart := false, narrowed := true }
def FnExactCountStepsUptoSaid : Prop := fnExactCountStepsUptoRow.holds Try.pinned (OpenSpec.upto fnExactCountStepsSpec)

/-- 'laws.FnExactSameSource', WHERE WHAT IT READS IS OF BULK AT MOST 1048576: true; the input reads as it did. -/
def fnExactSameSourceUptoRow : OpenClaim := { program := "ythmgjlejejgecaa", sum := "4319f1229fe4949254d17a7d71e5cd4d2a33dddaed09a593726f06d8a9328746", func := "loop.example/g00512/laws.FnExactSameSource", spec := "fnExactSameSource", apart := false, narrowed := true }
def FnExactSameSourceUptoSaid : Prop := fnExactSameSourceUptoRow.holds Try.pinned (OpenSpec.upto fnExactSameSourceSpec)

/-- 'laws.FnExactStepsOf', WHERE WHAT IT READS IS OF BULK AT MOST 1048576: true; the input reads as it did. -/
def fnExactStepsOfUptoRow : OpenClaim := { program := "ythmgjlejejgecaa", sum := "4319f1229fe4949254d17a7d71e5cd4d2a33dddaed09a593726f06d8a9328746", func := "loop.example/g00512/laws.FnExactStepsOf", spec := "fnExactStepsOf", apart := false, narrowed := true }
def FnExactStepsOfUptoSaid : Prop := fnExactStepsOfUptoRow.holds Try.pinned (OpenSpec.upto fnExactStepsOfSpec)

/-- 'laws.FnExactEqualRelation', WHERE WHAT IT READS IS OF BULK AT MOST 1048576: true; the input reads as it did. -/
def fnExactEqualRelationUptoRow : OpenClaim := { program := "ythmgjlejejgecaa", sum := "4319f1229fe4949254d17a7d71e5cd4d2a33dddaed09a593726f06d8a9328746", func := "loop.example/g00512/laws.FnExactEqualRelation", spec := "fnExactEqualRelation", apart := false, narrowed := true }
def FnExactEqualRelationUptoSaid : Prop := fnExactEqualRelationUptoRow.holds Try.pinned (OpenSpec.upto fnExactEqualRelationSpec)

/-- 'laws.FnExactUnionRelation', WHERE WHAT IT READS IS OF BULK AT MOST 1048576: true; the input reads as it did. -/
def fnExactUnionRelationUptoRow : OpenClaim := { program := "ythmgjlejejgecaa", sum := "4319f1229fe4949254d17a7d71e5cd4d2a33dddaed09a593726f06d8a9328746", func := "loop.example/g00512/laws.FnExactUnionRelation", spec := "fnExactUnionRelation", unfollowed := true, recurses := true, apart := false, narrowed := true }
def FnExactUnionRelationUptoSaid : Prop := fnExactUnionRelationUptoRow.holds Try.pinned (OpenSpec.upto fnExactUnionRelationSpec)

/-- 'laws.FnExactProjectRelation', WHERE WHAT IT READS IS OF BULK AT MOST 1048576: true; the input reads as it did. -/
def fnExactProjectRelationUptoRow : OpenClaim := { program := "ythmgjlejejgecaa", sum := "4319f1229fe4949254d17a7d71e5cd4d2a33dddaed09a593726f06d8a9328746", func := "loop.example/g00512/laws.FnExactProjectRelation", spec := "fnExactProjectRelation", unfollowed := true, recurses := true, apart := false, narrowed := true }
def FnExactProjectRelationUptoSaid : Prop := fnExactProjectRelationUptoRow.holds Try.pinned (OpenSpec.upto fnExactProjectRelationSpec)

/-- 'laws.FnRelations', WHERE WHAT IT READS IS OF BULK AT MOST 1048576: true; the input reads as it did. -/
def fnRelationsUptoRow : OpenClaim := { program := "ythmgjlejejgecaa", sum := "4319f1229fe4949254d17a7d71e5cd4d2a33dddaed09a593726f06d8a9328746", func := "loop.example/g00512/laws.FnRelations", spec := "fnRelations", unfollowed := true, recurses := true, apart := false, narrowed := true }
def FnRelationsUptoSaid : Prop := fnRelationsUptoRow.holds Try.pinned (OpenSpec.upto fnRelationsSpec)

/-- 'laws.FnExactNodeIds', WHERE WHAT IT READS IS OF BULK AT MOST 1048576: true; the input reads as it did. -/
def fnExactNodeIdsUptoRow : OpenClaim := { program := "ythmgjlejejgecaa", sum := "4319f1229fe4949254d17a7d71e5cd4d2a33dddaed09a593726f06d8a9328746", func := "loop.example/g00512/laws.FnExactNodeIds", spec := "fnExactNodeIds", apart := false, narrowed := true }
def FnExactNodeIdsUptoSaid : Prop := fnExactNodeIdsUptoRow.holds Try.pinned (OpenSpec.upto fnExactNodeIdsSpec)

/-- 'laws.FnExactSameShape', WHERE WHAT IT READS IS OF BULK AT MOST 1048576: true; the input reads as it did. -/
def fnExactSameShapeUptoRow : OpenClaim := { program := "ythmgjlejejgecaa", sum := "4319f1229fe4949254d17a7d71e5cd4d2a33dddaed09a593726f06d8a9328746", func := "loop.example/g00512/laws.FnExactSameShape", spec := "fnExactSameShape", unfollowed := true, recurses := true, apart := false, narrowed := true }
def FnExactSameShapeUptoSaid : Prop := fnExactSameShapeUptoRow.holds Try.pinned (OpenSpec.upto fnExactSameShapeSpec)

end Rows
end Go.Proofs.Ythmgjlejejgecaa
