/-
  NARROWER THAN 'FOR EVERY INPUT', by the rows' own cells (each row's printed sentence says how): FnExactUsesAny: loops · FnExactIsMonotone: loops · FnExactFindEquation: loops.
  DERIVED. THE GIVEN ROWS OF THIS SEAT. 3 by the template 'for every input the law returns true; each argument reads behind the call as it read before'; 0 by the template 'total and deterministic' (their statements: YtamilmhnkiepmaaTotals.lean).
  GIVEN WITH THE SEED: the statements are not yours to turn. If you find one false, say at which input.
  Laid BY PROGRAM, IN A SANDBOX (cutbox-rows.mjs): the forced cells as the released guide's own fill.sh prints them over the translation 45447e09f8ebfceb… (all of the seat's roots in one cut). By AI agents, Wed Nov 11 2026. No macro, syntax, notation, axiom, sorry.
-/
import Derived.Test.YtamilmhnkiepmaaChecked
import GoSem.Claim
import GoSem.ClaimJoined
import GoSem.ClaimMapViews
import Derived.JoinedTies
import Derived.KernelRfl
namespace Go.Proofs.Ytamilmhnkiepmaa
/- THE CELL 'sum', in the pinned program and in every row, IS THE sha256 OF THE DUMP (.gsa) THAT YtamilmhnkiepmaaProg.lean LOADS. Nothing in Lean hashes anything: it is a label: what it is worth is what the hold of that sum in a sandbox is worth. -/
noncomputable def Try.pinned : Pinned := { name := "ytamilmhnkiepmaa", sum := "45447e09f8ebfceb3f724752e218d9dfe503cab0d13dd3a8801877fd69d6e49a", checked := Try.checked }
namespace Rows
def none {H : Type} : Left H := { results := [], args := [] }

/-- 'laws.FnExactUsesAny': WHATEVER THE INPUT: true; the input reads as it did. -/
def fnExactUsesAnySpec : ChangeSpec := { name := "fnExactUsesAny", fn := fun _ => fun
  | [d1, d2] => { results := [.lit (.bool true)], args := [d1, d2] }
  | _ => none }
def fnExactUsesAnyRow : OpenClaim := { program := "ytamilmhnkiepmaa", sum := "45447e09f8ebfceb3f724752e218d9dfe503cab0d13dd3a8801877fd69d6e49a", func := "loop.example/g00512/laws.FnExactUsesAny", spec := "fnExactUsesAny", unfollowed := true, recurses := true, loops := true, apart := false }
def FnExactUsesAnySaid : Prop := fnExactUsesAnyRow.holds Try.pinned (OpenSpec.ofChange fnExactUsesAnySpec)

/-- ITS FALSE NEIGHBOUR: 'it returns false'. Refute it at one input. -/
def fnExactUsesAnyWrong : ChangeSpec := { name := "fnExactUsesAny", fn := fun _ => fun
  | [d1, d2] => { results := [.lit (.bool false)], args := [d1, d2] }
  | _ => none }
def FnExactUsesAnyWrongFalsely : Prop := fnExactUsesAnyRow.holds Try.pinned (OpenSpec.ofChange fnExactUsesAnyWrong)

/-- 'laws.FnExactIsMonotone': WHATEVER THE INPUT: true; the input reads as it did. -/
def fnExactIsMonotoneSpec : ChangeSpec := { name := "fnExactIsMonotone", fn := fun _ => fun
  | [d1, d2] => { results := [.lit (.bool true)], args := [d1, d2] }
  | _ => none }
def fnExactIsMonotoneRow : OpenClaim := { program := "ytamilmhnkiepmaa", sum := "45447e09f8ebfceb3f724752e218d9dfe503cab0d13dd3a8801877fd69d6e49a", func := "loop.example/g00512/laws.FnExactIsMonotone", spec := "fnExactIsMonotone", unfollowed := true, recurses := true, loops := true, apart := false }
def FnExactIsMonotoneSaid : Prop := fnExactIsMonotoneRow.holds Try.pinned (OpenSpec.ofChange fnExactIsMonotoneSpec)

/-- ITS FALSE NEIGHBOUR: 'it returns false'. Refute it at one input. -/
def fnExactIsMonotoneWrong : ChangeSpec := { name := "fnExactIsMonotone", fn := fun _ => fun
  | [d1, d2] => { results := [.lit (.bool false)], args := [d1, d2] }
  | _ => none }
def FnExactIsMonotoneWrongFalsely : Prop := fnExactIsMonotoneRow.holds Try.pinned (OpenSpec.ofChange fnExactIsMonotoneWrong)

/-- 'laws.FnExactFindEquation': WHATEVER THE INPUT: true; the input reads as it did. -/
def fnExactFindEquationSpec : ChangeSpec := { name := "fnExactFindEquation", fn := fun _ => fun
  | [d1, d2] => { results := [.lit (.bool true)], args := [d1, d2] }
  | _ => none }
def fnExactFindEquationRow : OpenClaim := { program := "ytamilmhnkiepmaa", sum := "45447e09f8ebfceb3f724752e218d9dfe503cab0d13dd3a8801877fd69d6e49a", func := "loop.example/g00512/laws.FnExactFindEquation", spec := "fnExactFindEquation", unfollowed := true, recurses := true, loops := true, apart := false }
def FnExactFindEquationSaid : Prop := fnExactFindEquationRow.holds Try.pinned (OpenSpec.ofChange fnExactFindEquationSpec)

/-- ITS FALSE NEIGHBOUR: 'it returns false'. Refute it at one input. -/
def fnExactFindEquationWrong : ChangeSpec := { name := "fnExactFindEquation", fn := fun _ => fun
  | [d1, d2] => { results := [.lit (.bool false)], args := [d1, d2] }
  | _ => none }
def FnExactFindEquationWrongFalsely : Prop := fnExactFindEquationRow.holds Try.pinned (OpenSpec.ofChange fnExactFindEquationWrong)

/- THE SECOND FORM. 'bulk': how many values and letters a reading holds, each counted each time it is reached (what is shared counts as often as it is met; a slice's spare places count too). A statement '..UptoSaid' is the law's where the arguments, and the package variables that the reading takes, are together of bulk at most 1048576: NARROWER than '..Said'. Prove '..Said' where nothing that the law and all that it calls make is longer than what came in: it says more and counts as full. Else prove '..UptoSaid'. A law counts once. -/
mutual
def uptoBulk {H : Type} : DataW H → Nat
  | .lit (.string bytes) => bytes.length + 1
  | .lit _ => 1
  | .nil => 1
  | .ptr d => uptoBulk d + 1
  | .slice elems spare => uptoBulkAll elems + uptoBulkAll spare + 1
  | .agg parts => uptoBulkAll parts + 1
  | .iface _ d => uptoBulk d + 1
  | .map entries => uptoBulkEntries entries + 1
  | .held _ => 1
def uptoBulkAll {H : Type} : List (DataW H) → Nat
  | [] => 0
  | d :: r => uptoBulk d + uptoBulkAll r
def uptoBulkEntries {H : Type} : List (Lit × DataW H) → Nat
  | [] => 0
  | x :: r => uptoBulkEntry x + uptoBulkEntries r
def uptoBulkEntry {H : Type} : Lit × DataW H → Nat
  | (.string bytes, d) => bytes.length + uptoBulk d + 1
  | (_, d) => uptoBulk d + 1
 end
def uptoSmall : (H : Type) → List (DataW H) → Bool := fun _ ds => decide (uptoBulkAll ds ≤ 1048576)
def OpenSpec.upto (s : _root_.Go.ChangeSpec) : _root_.Go.OpenSpec := { _root_.Go.OpenSpec.ofChange s with cond := some uptoSmall }

/-- 'laws.FnExactUsesAny', WHERE WHAT IT READS IS OF BULK AT MOST 1048576: true; the input reads as it did. -/
def fnExactUsesAnyUptoRow : OpenClaim := { program := "ytamilmhnkiepmaa", sum := "45447e09f8ebfceb3f724752e218d9dfe503cab0d13dd3a8801877fd69d6e49a", func := "loop.example/g00512/laws.FnExactUsesAny", spec := "fnExactUsesAny", unfollowed := true, recurses := true, loops := true, apart := false, narrowed := true }
def FnExactUsesAnyUptoSaid : Prop := fnExactUsesAnyUptoRow.holds Try.pinned (OpenSpec.upto fnExactUsesAnySpec)

/-- 'laws.FnExactIsMonotone', WHERE WHAT IT READS IS OF BULK AT MOST 1048576: true; the input reads as it did. -/
def fnExactIsMonotoneUptoRow : OpenClaim := { program := "ytamilmhnkiepmaa", sum := "45447e09f8ebfceb3f724752e218d9dfe503cab0d13dd3a8801877fd69d6e49a", func := "loop.example/g00512/laws.FnExactIsMonotone", spec := "fnExactIsMonotone", unfollowed := true, recurses := true, loops := true, apart := false, narrowed := true }
def FnExactIsMonotoneUptoSaid : Prop := fnExactIsMonotoneUptoRow.holds Try.pinned (OpenSpec.upto fnExactIsMonotoneSpec)

/-- 'laws.FnExactFindEquation', WHERE WHAT IT READS IS OF BULK AT MOST 1048576: true; the input reads as it did. -/
def fnExactFindEquationUptoRow : OpenClaim := { program := "ytamilmhnkiepmaa", sum := "45447e09f8ebfceb3f724752e218d9dfe503cab0d13dd3a8801877fd69d6e49a", func := "loop.example/g00512/laws.FnExactFindEquation", spec := "fnExactFindEquation", unfollowed := true, recurses := true, loops := true, apart := false, narrowed := true }
def FnExactFindEquationUptoSaid : Prop := fnExactFindEquationUptoRow.holds Try.pinned (OpenSpec.upto fnExactFindEquationSpec)

end Rows
end Go.Proofs.Ytamilmhnkiepmaa
