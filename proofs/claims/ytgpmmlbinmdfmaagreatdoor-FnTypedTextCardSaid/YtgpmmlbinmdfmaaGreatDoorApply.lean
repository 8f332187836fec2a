/-
  Chapter 3: OperandTypes and ApplyOp, in the program and in the model.
-/
import Derived.Test.YtgpmmlbinmdfmaaGreatDoorOpF
import Derived.Deep.QuietTactic
import Derived.Deep.RegionWith
import Derived.BigQuiet
import Derived.Laws.EntriesVeiled
namespace Go.Proofs.YtgpmmlbinmdfmaaGreatDoor
open Go.ChangeShapes Go.WideShapes Go.ChangeAt Go.RowKit

theorem mx_ge {y : Int} (h : 0 ≤ y) : mx y 0 = y := by unfold mx; split <;> omega
theorem below_setRow {B : Nat} {a w : World} (h : Below B a w) {g : Nat} (hg : B ≤ g) (cs : Array Value) : Below B a (w.setRow g cs) :=
  ⟨h.os, h.tape, h.output, by have := h.size; simp [World.setRow]; omega, fun k hk => (setRow_other w g k cs (by omega)).trans (h.block k hk)⟩

/-- The types of an operator's operands and of its result. -/
def oL (k : Int) : Int := if 1 ≤ k ∧ k ≤ 12 then (if (6 ≤ k ∧ k ≤ 8) ∨ 11 ≤ k then 2 else 1) else 0
def oR (k : Int) : Int := if 1 ≤ k ∧ k ≤ 12 then (if 6 ≤ k ∧ k ≤ 8 then 2 else 1) else 0
def oO (k : Int) : Int := if 1 ≤ k ∧ k ≤ 12 then (if (6 ≤ k ∧ k ≤ 8) ∨ 12 ≤ k then 2 else if 9 ≤ k then 3 else 1) else 0
theorem oL_no {k : Int} (h : k < 1 ∨ 12 < k) : oL k = 0 := by unfold oL; rw [if_neg (by omega)]
theorem oR_no {k : Int} (h : k < 1 ∨ 12 < k) : oR k = 0 := by unfold oR; rw [if_neg (by omega)]
theorem oO_no {k : Int} (h : k < 1 ∨ 12 < k) : oO k = 0 := by unfold oO; rw [if_neg (by omega)]
theorem twelve {k : Int} : (k < 1 ∨ 12 < k) ∨ k = 1 ∨ k = 2 ∨ k = 3 ∨ k = 4 ∨ k = 5 ∨ k = 6 ∨ k = 7 ∨ k = 8 ∨ k = 9 ∨ k = 10 ∨ k = 11 ∨ k = 12 := by omega
/-- ApplyOp. -/
def apl (k a b : Int) : Int := opF k (coe a (oL k)) (coe b (oR k))
theorem opF_no {k : Int} (h : k < 1 ∨ 12 < k) (x y : Int) : opF k x y = 0 := by
  unfold opF
  rw [if_neg (by omega), if_neg (by omega), if_neg (by omega), if_neg (by omega), if_neg (by omega), if_neg (by omega), if_neg (by omega), if_neg (by omega), if_neg (by omega), if_neg (by omega), if_neg (by omega), if_neg (by omega)]
theorem apl_no {k : Int} (h : k < 1 ∨ 12 < k) (a b : Int) : apl k a b = 0 := opF_no h _ _

theorem coeQ (v k : Int) (w : World) : Calls Tryz.prog 36 #[.int .i64 v, .int .i64 k] w fun e w' => e = .returned (.int .i64 (coe v k)) ∧ w' = w :=
  (impl_Coerce v k w).mono fun _ _ h => ⟨h.1, h.2.symm⟩
end Go.Proofs.YtgpmmlbinmdfmaaGreatDoor
