/-
  NARROWER THAN 'FOR EVERY INPUT', by the rows' own cells (each row's printed sentence says how): FnExactMinHeight: loops · FnExactIsProductive: loops.
  DERIVED. THE GIVEN ROWS OF THIS SEAT. 2 by the template 'for every input the law returns true; each argument reads behind the call as it read before'; 0 by the template 'total and deterministic' (their statements: YtakajfhkgjhnpaaTotals.lean).
  GIVEN WITH THE SEED: the statements are not yours to turn. If you find one false, say at which input.
  Laid BY PROGRAM, IN A SANDBOX (cutbox-rows.mjs): the forced cells as the released guide's own fill.sh prints them over the translation 80e56d9ac2736e74… (all of the seat's roots in one cut). By AI agents, Wed Nov 11 2026. No macro, syntax, notation, axiom, sorry.
-/
import Derived.Test.YtakajfhkgjhnpaaChecked
import GoSem.Claim
import GoSem.ClaimJoined
import GoSem.ClaimMapViews
import Derived.JoinedTies
import Derived.KernelRfl
namespace Go.Proofs.Ytakajfhkgjhnpaa
/- THE CELL 'sum', in the pinned program and in every row, IS THE sha256 OF THE DUMP (.gsa) THAT YtakajfhkgjhnpaaProg.lean LOADS. Nothing in Lean hashes anything: it is a label: what it is worth is what the hold of that sum in a sandbox is worth. -/
noncomputable def Try.pinned : Pinned := { name := "ytakajfhkgjhnpaa", sum := "80e56d9ac2736e742e3ab5f0a3da18bab1167509a6e390bc164c5c0d2c3e37e2", checked := Try.checked }
namespace Rows
def none {H : Type} : Left H := { results := [], args := [] }

/-- 'laws.FnExactMinHeight': WHATEVER THE INPUT: true; the input reads as it did. -/
def fnExactMinHeightSpec : ChangeSpec := { name := "fnExactMinHeight", fn := fun _ => fun
  | [d1, d2] => { results := [.lit (.bool true)], args := [d1, d2] }
  | _ => none }
def fnExactMinHeightRow : OpenClaim := { program := "ytakajfhkgjhnpaa", sum := "80e56d9ac2736e742e3ab5f0a3da18bab1167509a6e390bc164c5c0d2c3e37e2", func := "loop.example/g00512/laws.FnExactMinHeight", spec := "fnExactMinHeight", unfollowed := true, recurses := true, loops := true, apart := false }
def FnExactMinHeightSaid : Prop := fnExactMinHeightRow.holds Try.pinned (OpenSpec.ofChange fnExactMinHeightSpec)

/-- ITS FALSE NEIGHBOUR: 'it returns false'. Refute it at one input. -/
def fnExactMinHeightWrong : ChangeSpec := { name := "fnExactMinHeight", fn := fun _ => fun
  | [d1, d2] => { results := [.lit (.bool false)], args := [d1, d2] }
  | _ => none }
def FnExactMinHeightWrongFalsely : Prop := fnExactMinHeightRow.holds Try.pinned (OpenSpec.ofChange fnExactMinHeightWrong)

/-- 'laws.FnExactIsProductive': WHATEVER THE INPUT: true; the input reads as it did. -/
def fnExactIsProductiveSpec : ChangeSpec := { name := "fnExactIsProductive", fn := fun _ => fun
  | [d1, d2] => { results := [.lit (.bool true)], args := [d1, d2] }
  | _ => none }
def fnExactIsProductiveRow : OpenClaim := { program := "ytakajfhkgjhnpaa", sum := "80e56d9ac2736e742e3ab5f0a3da18bab1167509a6e390bc164c5c0d2c3e37e2", func := "loop.example/g00512/laws.FnExactIsProductive", spec := "fnExactIsProductive", unfollowed := true, recurses := true, loops := true, apart := false }
def FnExactIsProductiveSaid : Prop := fnExactIsProductiveRow.holds Try.pinned (OpenSpec.ofChange fnExactIsProductiveSpec)

/-- ITS FALSE NEIGHBOUR: 'it returns false'. Refute it at one input. -/
def fnExactIsProductiveWrong : ChangeSpec := { name := "fnExactIsProductive", fn := fun _ => fun
  | [d1, d2] => { results := [.lit (.bool false)], args := [d1, d2] }
  | _ => none }
def FnExactIsProductiveWrongFalsely : Prop := fnExactIsProductiveRow.holds Try.pinned (OpenSpec.ofChange fnExactIsProductiveWrong)

/- THE SECOND FORM. 'bulk': how many values and letters a reading holds, each counted each time it is reached (what is shared counts as often as it is met; a slice's spare places count too). A statement '..UptoSaid' is the law's where the arguments, and the package variables that the reading takes, are together of bulk at most 1048576: NARROWER than '..Said'. Prove '..Said' where nothing that the law and all that it calls make is longer than what came in: it says more and counts as full. Else prove '..UptoSaid'. A law counts once. -/
mutual
def uptoBulk {H : Type} : DataW H → Nat
  | .lit (.string bytes) => bytes.length + 1
  | .lit _ => 1
  | .nil => 1
  | .ptr d => uptoBulk d + 1
  | .slice elems spare => uptoBulkAll elems + uptoBulkAll spare + 1
  | .agg parts => uptoBulkAll parts + 1
  | .iface _ d => uptoBulk d + 1
  | .map entries => uptoBulkEntries entries + 1
  | .held _ => 1
def uptoBulkAll {H : Type} : List (DataW H) → Nat
  | [] => 0
  | d :: r => uptoBulk d + uptoBulkAll r
def uptoBulkEntries {H : Type} : List (Lit × DataW H) → Nat
  | [] => 0
  | x :: r => uptoBulkEntry x + uptoBulkEntries r
def uptoBulkEntry {H : Type} : Lit × DataW H → Nat
  | (.string bytes, d) => bytes.length + uptoBulk d + 1
  | (_, d) => uptoBulk d + 1
 end
def uptoSmall : (H : Type) → List (DataW H) → Bool := fun _ ds => decide (uptoBulkAll ds ≤ 1048576)
def OpenSpec.upto (s : _root_.Go.ChangeSpec) : _root_.Go.OpenSpec := { _root_.Go.OpenSpec.ofChange s with cond := some uptoSmall }

/-- 'laws.FnExactMinHeight', WHERE WHAT IT READS IS OF BULK AT MOST 1048576: true; the input reads as it did. -/
def fnExactMinHeightUptoRow : OpenClaim := { program := "ytakajfhkgjhnpaa", sum := "80e56d9ac2736e742e3ab5f0a3da18bab1167509a6e390bc164c5c0d2c3e37e2", func := "loop.example/g00512/laws.FnExactMinHeight", spec := "fnExactMinHeight", unfollowed := true, recurses := true, loops := true, apart := false, narrowed := true }
def FnExactMinHeightUptoSaid : Prop := fnExactMinHeightUptoRow.holds Try.pinned (OpenSpec.upto fnExactMinHeightSpec)

/-- 'laws.FnExactIsProductive', WHERE WHAT IT READS IS OF BULK AT MOST 1048576: true; the input reads as it did. -/
def fnExactIsProductiveUptoRow : OpenClaim := { program := "ytakajfhkgjhnpaa", sum := "80e56d9ac2736e742e3ab5f0a3da18bab1167509a6e390bc164c5c0d2c3e37e2", func := "loop.example/g00512/laws.FnExactIsProductive", spec := "fnExactIsProductive", unfollowed := true, recurses := true, loops := true, apart := false, narrowed := true }
def FnExactIsProductiveUptoSaid : Prop := fnExactIsProductiveUptoRow.holds Try.pinned (OpenSpec.upto fnExactIsProductiveSpec)

end Rows
end Go.Proofs.Ytakajfhkgjhnpaa
