/-
  IsValidExpr: what a valid node is; isValidNode.
-/
import Derived.Test.YthpnghbhfbiljaaECount
import Derived.Test.YthpnghbhfbiljaaNam
import Derived.Test.YthpnghbhfbiljaaApply
import Derived.BigRegion
import Derived.Laws.EntriesVeiled
namespace Go.Proofs.Ythpnghbhfbiljaa
open Go.ChangeShapes Go.WideShapes Go.ChangeAt Go.RowKit Go.Deep

/-- How many args a kind has. -/
def argsOf (k : Int) : Nat := if k = 4 then 2 else if k = 5 then 3 else if k = 8 then 1 else 0
/-- The fields that the kind does not use are zero. -/
def Bare (n : ENode) : Prop := n.fArgs = argsOf n.fKind ∧ (n.fKind = 3 ∨ n.fKind = 6 ∨ n.fPos = 0) ∧ (n.fKind = 3 ∨ n.fKind = 8 ∨ n.fName.toList = []) ∧ (n.fKind = 1 ∨ n.fKind = 4 ∨ n.fN = 0) ∧ (n.fKind = 1 ∨ n.fType = 0) ∧ (n.fKind = 8 ∨ n.fSymbol.toList = [])
def okN (n : ENode) : Bool :=
  if n.fKind = 1 then inR n.fType 1 3 && isOf n.fN n.fType && decide (0 ≤ n.fN) else if n.fKind = 3 then inR n.fPos 0 3 && validName n.fName
  else if n.fKind = 6 then inR n.fPos 0 3 else if n.fKind = 4 then inR n.fN 1 12 else if n.fKind = 8 then validName n.fSymbol && validName n.fName else true
open Classical in
noncomputable def validN (n : ENode) : Bool := inR n.fKind 1 8 && decide (Bare n) && okN n
theorem validN_kind {n : ENode} (h : inR n.fKind 1 8 = false) : validN n = false := by unfold validN; rw [h]; rfl
theorem validN_bare {n : ENode} (h : ¬ Bare n) : validN n = false := by classical unfold validN; rw [decide_eq_false h, Bool.and_false]; rfl
theorem validN_ok {n : ENode} (h : okN n = false) : validN n = false := by unfold validN; rw [h, Bool.and_false]
theorem validN_of {n : ENode} (h : inR n.fKind 1 8 = true) (hb : Bare n) : validN n = okN n := by classical unfold validN; rw [h, decide_eq_true hb]; simp
theorem okN_1 {n : ENode} (h : n.fKind = 1) : okN n = (inR n.fType 1 3 && isOf n.fN n.fType && decide (0 ≤ n.fN)) := by unfold okN; rw [if_pos h]
theorem okN_2 {n : ENode} (h : n.fKind = 2) : okN n = (true) := by unfold okN; rw [if_neg (by omega), if_neg (by omega), if_neg (by omega), if_neg (by omega), if_neg (by omega)]
theorem okN_3 {n : ENode} (h : n.fKind = 3) : okN n = (inR n.fPos 0 3 && validName n.fName) := by unfold okN; rw [if_neg (by omega), if_pos h]
theorem okN_4 {n : ENode} (h : n.fKind = 4) : okN n = (inR n.fN 1 12) := by unfold okN; rw [if_neg (by omega), if_neg (by omega), if_neg (by omega), if_pos h]
theorem okN_5 {n : ENode} (h : n.fKind = 5) : okN n = (true) := by unfold okN; rw [if_neg (by omega), if_neg (by omega), if_neg (by omega), if_neg (by omega), if_neg (by omega)]
theorem okN_6 {n : ENode} (h : n.fKind = 6) : okN n = (inR n.fPos 0 3) := by unfold okN; rw [if_neg (by omega), if_neg (by omega), if_pos h]
theorem okN_7 {n : ENode} (h : n.fKind = 7) : okN n = (true) := by unfold okN; rw [if_neg (by omega), if_neg (by omega), if_neg (by omega), if_neg (by omega), if_neg (by omega)]
theorem okN_8 {n : ENode} (h : n.fKind = 8) : okN n = (validName n.fSymbol && validName n.fName) := by unfold okN; rw [if_neg (by omega), if_neg (by omega), if_neg (by omega), if_neg (by omega), if_pos h]


set_option maxHeartbeats 1600000 in
set_option maxRecDepth 100000 in
theorem impl_isPosition (p : Int) (w : World) : Calls Try.prog 63 #[.int .i64 p] w fun e w' => e = .returned (.bool (inR p 0 3)) ∧ w = w' := by
  by_cases h : 0 ≤ p
  · have FIN := Lib.hid (show decide (p ≤ 3) = inR p 0 3 by unfold inR; rw [decide_eq_true h, Bool.true_and])
    go_enter Try.func63, Try.ntmps63
    go_wp2
    go_ret
    exact ⟨ret_b FIN.out, rfl⟩
  · have FIN := Lib.hid (inR_no (n := p) (a := 0) (b := 3) (Or.inl (by omega)))
    have h1 : p < 0 := by omega
    clear h
    go_enter Try.func63, Try.ntmps63
    go_wp2
    go_ret
    exact ⟨ret_b FIN.out.symm, rfl⟩

set_option maxHeartbeats 1600000 in
set_option maxRecDepth 100000 in
theorem impl_isConstant (a t : Int) (w : World) : Calls Try.prog 62 #[.int .i64 a, .int .i64 t] w fun e w' => e = .returned (.bool (inR t 1 3 && isOf a t && decide (0 ≤ a))) ∧ w = w' := by
  by_cases h : 0 ≤ a
  · by_cases h4 : t = 4
    · have FIN := Lib.hid (show (inR t 1 3 && isOf a t && decide (0 ≤ a)) = false by rw [inR_no (by omega)]; rfl)
      subst h4
      generalize (inR 4 1 3 && isOf a 4 && decide (0 ≤ a)) = r at *
      go_enter Try.func62, Try.ntmps62
      go_wp2
      go_ret
      exact ⟨ret_b FIN.out.symm, rfl⟩
    · have FIN := Lib.hid (show isOf a t = (inR t 1 3 && isOf a t && decide (0 ≤ a)) by
        rw [decide_eq_true h, Bool.and_true]
        cases hr : inR t 1 3
        · rw [Bool.false_and]
          refine isOf_no (inR_no ?_)
          rcases (by omega : t < 1 ∨ 4 < t ∨ (1 ≤ t ∧ t ≤ 3)) with g | g | g
          · exact Or.inl g
          · exact Or.inr g
          · rw [inR_yes g.1 g.2] at hr; cases hr
        · rw [Bool.true_and])
      have e4 : (t == 4) = false := beq_eq_false_iff_ne.2 h4
      have e5 : (t != 4) = true := by rw [bne, e4]; rfl
      have HI := Lib.hid (fun W => impl_IsOfType a t W)
      generalize (inR t 1 3 && isOf a t && decide (0 ≤ a)) = r at *
      generalize isOf a t = r1 at *
      clear h4
      go_enter Try.func62, Try.ntmps62
      go_wp2_with fail
      refine (HI.out _).mono ?_
      rintro e w1 ⟨rfl, rfl⟩
      go_wp2
      go_ret
      exact ⟨ret_b FIN.out, rfl⟩
  · have FIN := Lib.hid (show (inR t 1 3 && isOf a t && decide (0 ≤ a)) = false by rw [decide_eq_false h, Bool.and_false])
    have h1 : a < 0 := by omega
    clear h
    generalize (inR t 1 3 && isOf a t && decide (0 ≤ a)) = r at *
    go_enter Try.func62, Try.ntmps62
    go_wp2
    go_ret
    exact ⟨ret_b FIN.out.symm, rfl⟩

theorem neq_nil_nil (w : World) : (binOp .neq 103 .nilFunc .nilFunc).run Try.prog w = .ok (.bool false) w := by kernel_rfl
theorem neq_fn_nil (f : Nat) (w : World) : (binOp .neq 103 (.func (.func f) #[] #[]) .nilFunc).run Try.prog w = .ok (.bool true) w := by kernel_rfl
theorem field_nil (w : World) : (Instr.field 120 (.agg #[.int .i64 0, .int .i64 0, .int .i64 0, .nilFunc]) 3).run Try.prog w = .ok .nilFunc w := by kernel_rfl
theorem field_fn (l r o : Int) (f : Nat) (w : World) : (Instr.field 120 (.agg #[.int .i64 l, .int .i64 r, .int .i64 o, .func (.func f) #[] #[]]) 3).run Try.prog w = .ok (.func (.func f) #[] #[]) w := by kernel_rfl
theorem operatorOf_no {k : Int} (h : inR k 1 12 = false) : ∀ W, Calls Try.prog 65 #[.int .i64 k] W fun e w' => e = .returned (.agg #[.int .i64 0, .int .i64 0, .int .i64 0, .nilFunc]) ∧ Below W.heap.size W w' := by
  refine impl_operatorOf_no k ?_
  rcases (by omega : k < 1 ∨ 12 < k ∨ (1 ≤ k ∧ k ≤ 12)) with g | g | g
  · exact Or.inl g
  · exact Or.inr g
  · rw [inR_yes g.1 g.2] at h; cases h
theorem operatorOf_yes {k : Int} (h : inR k 1 12 = true) : ∃ (l r o : Int) (f : Nat), ∀ W, Calls Try.prog 65 #[.int .i64 k] W fun e w' => e = .returned (.agg #[.int .i64 l, .int .i64 r, .int .i64 o, .func (.func f) #[] #[]]) ∧ Below W.heap.size W w' := by
  have h1 := inR_iff.1 h
  rcases (twelve (k := k)) with g | rfl | rfl | rfl | rfl | rfl | rfl | rfl | rfl | rfl | rfl | rfl | rfl
  · omega
  · exact ⟨_, _, _, _, impl_operatorOf_1⟩
  · exact ⟨_, _, _, _, impl_operatorOf_2⟩
  · exact ⟨_, _, _, _, impl_operatorOf_3⟩
  · exact ⟨_, _, _, _, impl_operatorOf_4⟩
  · exact ⟨_, _, _, _, impl_operatorOf_5⟩
  · exact ⟨_, _, _, _, impl_operatorOf_6⟩
  · exact ⟨_, _, _, _, impl_operatorOf_7⟩
  · exact ⟨_, _, _, _, impl_operatorOf_8⟩
  · exact ⟨_, _, _, _, impl_operatorOf_9⟩
  · exact ⟨_, _, _, _, impl_operatorOf_10⟩
  · exact ⟨_, _, _, _, impl_operatorOf_11⟩
  · exact ⟨_, _, _, _, impl_operatorOf_12⟩
end Go.Proofs.Ythpnghbhfbiljaa
