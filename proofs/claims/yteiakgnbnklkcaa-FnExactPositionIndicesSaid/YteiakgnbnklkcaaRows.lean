/-
  NARROWER THAN 'FOR EVERY INPUT', by the rows' own cells (each row's printed sentence says how): FnExactRequiredOccurrences: loops · FnExactOccurrencesOf: loops · FnExactPositionIndices: loops.
  DERIVED. THE GIVEN ROWS OF THIS SEAT. 3 by the template 'for every input the law returns true; each argument reads behind the call as it read before'; 0 by the template 'total and deterministic' (their statements: YteiakgnbnklkcaaTotals.lean).
  GIVEN WITH THE SEED: the statements are not yours to turn. If you find one false, say at which input.
  Laid BY PROGRAM, IN A SANDBOX (cutbox-rows.mjs): the forced cells as the released guide's own fill.sh prints them over the translation a67aeb3648c0df09… (all of the seat's roots in one cut). By AI agents, Wed Nov 11 2026. No macro, syntax, notation, axiom, sorry.
-/
import Derived.Test.YteiakgnbnklkcaaChecked
import GoSem.Claim
import GoSem.ClaimJoined
import GoSem.ClaimMapViews
import Derived.JoinedTies
import Derived.KernelRfl
namespace Go.Proofs.Yteiakgnbnklkcaa
/- THE CELL 'sum', in the pinned program and in every row, IS THE sha256 OF THE DUMP (.gsa) THAT YteiakgnbnklkcaaProg.lean LOADS. Nothing in Lean hashes anything: it is a label: what it is worth is what the hold of that sum in a sandbox is worth. -/
noncomputable def Try.pinned : Pinned := { name := "yteiakgnbnklkcaa", sum := "a67aeb3648c0df096dbec7be696949f798f944b06008c2996b88178ba8df0e34", checked := Try.checked }
namespace Rows
def none {H : Type} : Left H := { results := [], args := [] }

/-- 'laws.FnExactRequiredOccurrences': WHATEVER THE INPUT: true; the input reads as it did. -/
def fnExactRequiredOccurrencesSpec : ChangeSpec := { name := "fnExactRequiredOccurrences", fn := fun _ => fun
  | [d1, d2] => { results := [.lit (.bool true)], args := [d1, d2] }
  | _ => none }
def fnExactRequiredOccurrencesRow : OpenClaim := { program := "yteiakgnbnklkcaa", sum := "a67aeb3648c0df096dbec7be696949f798f944b06008c2996b88178ba8df0e34", func := "loop.example/g00512/laws.FnExactRequiredOccurrences", spec := "fnExactRequiredOccurrences", recurses := true, loops := true, apart := false }
def FnExactRequiredOccurrencesSaid : Prop := fnExactRequiredOccurrencesRow.holds Try.pinned (OpenSpec.ofChange fnExactRequiredOccurrencesSpec)

/-- ITS FALSE NEIGHBOUR: 'it returns false'. Refute it at one input. -/
def fnExactRequiredOccurrencesWrong : ChangeSpec := { name := "fnExactRequiredOccurrences", fn := fun _ => fun
  | [d1, d2] => { results := [.lit (.bool false)], args := [d1, d2] }
  | _ => none }
def FnExactRequiredOccurrencesWrongFalsely : Prop := fnExactRequiredOccurrencesRow.holds Try.pinned (OpenSpec.ofChange fnExactRequiredOccurrencesWrong)

/-- 'laws.FnExactOccurrencesOf': WHATEVER THE INPUT: true; the input reads as it did. -/
def fnExactOccurrencesOfSpec : ChangeSpec := { name := "fnExactOccurrencesOf", fn := fun _ => fun
  | [d1, d2] => { results := [.lit (.bool true)], args := [d1, d2] }
  | _ => none }
def fnExactOccurrencesOfRow : OpenClaim := { program := "yteiakgnbnklkcaa", sum := "a67aeb3648c0df096dbec7be696949f798f944b06008c2996b88178ba8df0e34", func := "loop.example/g00512/laws.FnExactOccurrencesOf", spec := "fnExactOccurrencesOf", unfollowed := true, recurses := true, loops := true, apart := false }
def FnExactOccurrencesOfSaid : Prop := fnExactOccurrencesOfRow.holds Try.pinned (OpenSpec.ofChange fnExactOccurrencesOfSpec)

/-- ITS FALSE NEIGHBOUR: 'it returns false'. Refute it at one input. -/
def fnExactOccurrencesOfWrong : ChangeSpec := { name := "fnExactOccurrencesOf", fn := fun _ => fun
  | [d1, d2] => { results := [.lit (.bool false)], args := [d1, d2] }
  | _ => none }
def FnExactOccurrencesOfWrongFalsely : Prop := fnExactOccurrencesOfRow.holds Try.pinned (OpenSpec.ofChange fnExactOccurrencesOfWrong)

/-- 'laws.FnExactPositionIndices': WHATEVER THE INPUT: true; the input reads as it did. -/
def fnExactPositionIndicesSpec : ChangeSpec := { name := "fnExactPositionIndices", fn := fun _ => fun
  | [d1, d2, d3] => { results := [.lit (.bool true)], args := [d1, d2, d3] }
  | _ => none }
def fnExactPositionIndicesRow : OpenClaim := { program := "yteiakgnbnklkcaa", sum := "a67aeb3648c0df096dbec7be696949f798f944b06008c2996b88178ba8df0e34", func := "loop.example/g00512/laws.FnExactPositionIndices", spec := "fnExactPositionIndices", unfollowed := true, recurses := true, loops := true, apart := false }
def FnExactPositionIndicesSaid : Prop := fnExactPositionIndicesRow.holds Try.pinned (OpenSpec.ofChange fnExactPositionIndicesSpec)

/-- ITS FALSE NEIGHBOUR: 'it returns false'. Refute it at one input. -/
def fnExactPositionIndicesWrong : ChangeSpec := { name := "fnExactPositionIndices", fn := fun _ => fun
  | [d1, d2, d3] => { results := [.lit (.bool false)], args := [d1, d2, d3] }
  | _ => none }
def FnExactPositionIndicesWrongFalsely : Prop := fnExactPositionIndicesRow.holds Try.pinned (OpenSpec.ofChange fnExactPositionIndicesWrong)

/- THE SECOND FORM. 'bulk': how many values and letters a reading holds, each counted each time it is reached (what is shared counts as often as it is met; a slice's spare places count too). A statement '..UptoSaid' is the law's where the arguments, and the package variables that the reading takes, are together of bulk at most 1048576: NARROWER than '..Said'. Prove '..Said' where nothing that the law and all that it calls make is longer than what came in: it says more and counts as full. Else prove '..UptoSaid'. A law counts once. -/
mutual
def uptoBulk {H : Type} : DataW H → Nat
  | .lit (.string bytes) => bytes.length + 1
  | .lit _ => 1
  | .nil => 1
  | .ptr d => uptoBulk d + 1
  | .slice elems spare => uptoBulkAll elems + uptoBulkAll spare + 1
  | .agg parts => uptoBulkAll parts + 1
  | .iface _ d => uptoBulk d + 1
  | .map entries => uptoBulkEntries entries + 1
  | .held _ => 1
def uptoBulkAll {H : Type} : List (DataW H) → Nat
  | [] => 0
  | d :: r => uptoBulk d + uptoBulkAll r
def uptoBulkEntries {H : Type} : List (Lit × DataW H) → Nat
  | [] => 0
  | x :: r => uptoBulkEntry x + uptoBulkEntries r
def uptoBulkEntry {H : Type} : Lit × DataW H → Nat
  | (.string bytes, d) => bytes.length + uptoBulk d + 1
  | (_, d) => uptoBulk d + 1
 end
def uptoSmall : (H : Type) → List (DataW H) → Bool := fun _ ds => decide (uptoBulkAll ds ≤ 1048576)
def OpenSpec.upto (s : _root_.Go.ChangeSpec) : _root_.Go.OpenSpec := { _root_.Go.OpenSpec.ofChange s with cond := some uptoSmall }

/-- 'laws.FnExactRequiredOccurrences', WHERE WHAT IT READS IS OF BULK AT MOST 1048576: true; the input reads as it did. -/
def fnExactRequiredOccurrencesUptoRow : OpenClaim := { program := "yteiakgnbnklkcaa", sum := "a67aeb3648c0df096dbec7be696949f798f944b06008c2996b88178ba8df0e34", func := "loop.example/g00512/laws.FnExactRequiredOccurrences", spec := "fnExactRequiredOccurrences", recurses := true, loops := true, apart := false, narrowed := true }
def FnExactRequiredOccurrencesUptoSaid : Prop := fnExactRequiredOccurrencesUptoRow.holds Try.pinned (OpenSpec.upto fnExactRequiredOccurrencesSpec)

/-- 'laws.FnExactOccurrencesOf', WHERE WHAT IT READS IS OF BULK AT MOST 1048576: true; the input reads as it did. -/
def fnExactOccurrencesOfUptoRow : OpenClaim := { program := "yteiakgnbnklkcaa", sum := "a67aeb3648c0df096dbec7be696949f798f944b06008c2996b88178ba8df0e34", func := "loop.example/g00512/laws.FnExactOccurrencesOf", spec := "fnExactOccurrencesOf", unfollowed := true, recurses := true, loops := true, apart := false, narrowed := true }
def FnExactOccurrencesOfUptoSaid : Prop := fnExactOccurrencesOfUptoRow.holds Try.pinned (OpenSpec.upto fnExactOccurrencesOfSpec)

/-- 'laws.FnExactPositionIndices', WHERE WHAT IT READS IS OF BULK AT MOST 1048576: true; the input reads as it did. -/
def fnExactPositionIndicesUptoRow : OpenClaim := { program := "yteiakgnbnklkcaa", sum := "a67aeb3648c0df096dbec7be696949f798f944b06008c2996b88178ba8df0e34", func := "loop.example/g00512/laws.FnExactPositionIndices", spec := "fnExactPositionIndices", unfollowed := true, recurses := true, loops := true, apart := false, narrowed := true }
def FnExactPositionIndicesUptoSaid : Prop := fnExactPositionIndicesUptoRow.holds Try.pinned (OpenSpec.upto fnExactPositionIndicesSpec)

end Rows
end Go.Proofs.Yteiakgnbnklkcaa
