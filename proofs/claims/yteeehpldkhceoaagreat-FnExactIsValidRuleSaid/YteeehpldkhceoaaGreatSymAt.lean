/-
  SymbolAt, in the model and in the program.
-/
import Derived.Test.YteeehpldkhceoaaGreatTRule
import Derived.Test.YteeehpldkhceoaaGreatInR
namespace Go.Proofs.YteeehpldkhceoaaGreat
open Go.ChangeShapes Go.WideShapes Go.ChangeAt Go.RowKit Go.Deep

/-- The symbol at a position of a rule. -/
def symbolAt (x : DRule) (pos : Int) : ByteArray := if pos = 0 then x.fLeft else if 1 ≤ pos ∧ pos ≤ x.fRight.length then x.fRight.getD (pos.toNat - 1) default else ⟨#[]⟩
theorem ret_str {a b : ByteArray} (h : a = b) : Ending.returned (Value.string a) = .returned (.string b) := by rw [h]

set_option maxHeartbeats 1600000 in
set_option maxRecDepth 100000 in
theorem impl_hasPosition {a2 a4 a5 : Option Addr} {c0_0 c0_1 c0_2 : Nat} (x : DRule) (hn : x.fRight.length ≤ 1048576) (pos : Int) (w : World) :
    Calls Tryz.prog 44 #[.agg #[.string x.fName, .string x.fLeft, .slice a2 x.fRight.length c0_0, .bool x.fLiteral, .slice a4 x.fEquations.length c0_1, .slice a5 x.fContributions.length c0_2], .int .i64 pos] w fun e w' => e = .returned (.bool (inR pos 0 x.fRight.length)) ∧ Below w.heap.size w w' := by
  have HB := Lib.hid ((Below.refl w.heap.size w).alloc (Nat.le_refl _) (.cells #[.string x.fName, .string x.fLeft, .slice a2 x.fRight.length c0_0, .bool x.fLiteral, .slice a4 x.fEquations.length c0_1, .slice a5 x.fContributions.length c0_2] 32))
  by_cases h0 : 0 ≤ pos
  · have FIN := Lib.hid (show decide (pos ≤ (x.fRight.length : Int)) = inR pos 0 x.fRight.length by unfold inR; rw [decide_eq_true h0, Bool.true_and])
    go_enter Tryz.func44, Tryz.ntmps44
    go_wp2
    go_ret
    exact ⟨ret_b FIN.out, HB.out⟩
  · have FIN := Lib.hid (inR_no (n := pos) (a := 0) (b := x.fRight.length) (Or.inl (by omega)))
    have h1 : pos < 0 := by omega
    clear h0
    go_enter Tryz.func44, Tryz.ntmps44
    go_wp2
    go_ret
    exact ⟨ret_b FIN.out.symm, HB.out⟩
end Go.Proofs.YteeehpldkhceoaaGreat
