/-
  Chapter 3: OperandTypes and ApplyOp, in the program and in the model.
-/
import Derived.Test.YteeehpldkhceoaaGreatOpF
import Derived.Deep.QuietTactic
import Derived.Deep.RegionWith
import Derived.BigQuiet
import Derived.Laws.EntriesVeiled
namespace Go.Proofs.YteeehpldkhceoaaGreat
open Go.ChangeShapes Go.WideShapes Go.ChangeAt Go.RowKit

theorem mx_ge {y : Int} (h : 0 ≤ y) : mx y 0 = y := by unfold mx; split <;> omega
theorem below_setRow {B : Nat} {a w : World} (h : Below B a w) {g : Nat} (hg : B ≤ g) (cs : Array Value) : Below B a (w.setRow g cs) :=
  ⟨h.os, h.tape, h.output, by have := h.size; simp [World.setRow]; omega, fun k hk => (setRow_other w g k cs (by omega)).trans (h.block k hk)⟩

/-- The types of an operator's operands and of its result. -/
def oL (k : Int) : Int := if 1 ≤ k ∧ k ≤ 12 then (if (6 ≤ k ∧ k ≤ 8) ∨ 11 ≤ k then 2 else 1) else 0
def oR (k : Int) : Int := if 1 ≤ k ∧ k ≤ 12 then (if 6 ≤ k ∧ k ≤ 8 then 2 else 1) else 0
def oO (k : Int) : Int := if 1 ≤ k ∧ k ≤ 12 then (if (6 ≤ k ∧ k ≤ 8) ∨ 12 ≤ k then 2 else if 9 ≤ k then 3 else 1) else 0
theorem oL_no {k : Int} (h : k < 1 ∨ 12 < k) : oL k = 0 := by unfold oL; rw [if_neg (by omega)]
theorem oR_no {k : Int} (h : k < 1 ∨ 12 < k) : oR k = 0 := by unfold oR; rw [if_neg (by omega)]
theorem oO_no {k : Int} (h : k < 1 ∨ 12 < k) : oO k = 0 := by unfold oO; rw [if_neg (by omega)]
theorem twelve {k : Int} : (k < 1 ∨ 12 < k) ∨ k = 1 ∨ k = 2 ∨ k = 3 ∨ k = 4 ∨ k = 5 ∨ k = 6 ∨ k = 7 ∨ k = 8 ∨ k = 9 ∨ k = 10 ∨ k = 11 ∨ k = 12 := by omega
/-- ApplyOp. -/
def apl (k a b : Int) : Int := opF k (coe a (oL k)) (coe b (oR k))
theorem opF_no {k : Int} (h : k < 1 ∨ 12 < k) (x y : Int) : opF k x y = 0 := by
  unfold opF
  rw [if_neg (by omega), if_neg (by omega), if_neg (by omega), if_neg (by omega), if_neg (by omega), if_neg (by omega), if_neg (by omega), if_neg (by omega), if_neg (by omega), if_neg (by omega), if_neg (by omega), if_neg (by omega)]
theorem apl_no {k : Int} (h : k < 1 ∨ 12 < k) (a b : Int) : apl k a b = 0 := opF_no h _ _

set_option maxHeartbeats 800000 in
set_option maxRecDepth 100000 in
theorem impl_operatorOf_no (k : Int) (hk : k < 1 ∨ 12 < k) (w : World) :
    Calls Tryz.prog 85 #[.int .i64 k] w fun e w' => e = .returned (.agg #[.int .i64 0, .int .i64 0, .int .i64 0, .nilFunc]) ∧ Below w.heap.size w w' := by
  rcases (by omega : k < 1 ∨ (1 ≤ k ∧ 12 < k)) with h | ⟨h, h'⟩
  all_goals
    clear hk
    go_enter Tryz.func85, Tryz.ntmps85
    go_wp2_with (first
      | (refine wpList_buildTo rfl 121 _ rfl (some 9) rfl #[.int .i64 0, .int .i64 0, .int .i64 0, .nilFunc] (by kernel_rfl) ?_)
      | (refine wpList_store_rowTo rfl 121 (.tmp 2) (.tmp 9) rfl rfl w.heap.size #[.int .i64 0, .int .i64 0, .int .i64 0, .nilFunc] rfl rfl 121 _ (heap_alloc_last w _) (by kernel_rfl) (by kernel_rfl) (by kernel_rfl) ?_; rw [World.setRow_alloc_new]))
    exact bodyPost_ret (v := .agg #[.int .i64 0, .int .i64 0, .int .i64 0, .nilFunc]) (results_cell_row rfl _ _ w.heap.size 121 #[.int .i64 0, .int .i64 0, .int .i64 0, .nilFunc] (0, 0) _ rfl (heap_alloc_last w _) Tryz.underlying121 rfl (by kernel_rfl)) rfl ⟨rfl, (Below.refl _ _).alloc (Nat.le_refl _) _⟩

set_option maxHeartbeats 800000 in
set_option maxRecDepth 100000 in
theorem impl_operatorOf_in (k : Int) (h1 : 1 ≤ k) (h12 : k ≤ 12) (cs : Array Value) (hcs : cs.size = 4) (hone : cs.all (·.oneCell') = true) (hidx : ∀ w, (Instr.index 124 (.agg opsArr) (.int .i64 k)).run Tryz.prog w = .ok (.agg cs) w) (w : World) :
    Calls Tryz.prog 85 #[.int .i64 k] w fun e w' => e = .returned (.agg cs) ∧ Below w.heap.size w w' := by
  have hsz : (Tryz.prog.info? 121).map (·.size) = some cs.size := by rw [hcs]; kernel_rfl
  have HSZ := Lib.hid hsz
  have HCS := Lib.hid hcs
  have HONE := Lib.hid hone
  clear hsz hcs hone
  go_enter Tryz.func85, Tryz.ntmps85
  go_wp2_with fail
  refine (impl_operators _).mono ?_
  rintro e w1 ⟨rfl, hb⟩
  have hg : w1.heap[w.heap.size]? = some (.cells #[.int .i64 0, .int .i64 0, .int .i64 0, .nilFunc] 121 (0, 0)) := (hb.block w.heap.size (by simp)).trans (heap_alloc_last w _)
  have HB := Lib.hid (((Below.refl w.heap.size w).alloc (Nat.le_refl _) _).trans (hb.mono (by simp)))
  have HG := Lib.hid hg
  clear hb hg
  go_wp2_with (refine wpList_store_rowTo rfl 121 (.tmp 2) (.tmp 12) rfl rfl w.heap.size cs rfl rfl 121 _ HG.out HSZ.out HCS.out.symm HONE.out ?_)
  exact bodyPost_ret (v := .agg cs) (results_cell_row rfl _ _ w.heap.size 121 cs (0, 0) _ rfl (setRow_heap _ _ _ _ _ _ HG.out) Tryz.underlying121 rfl HSZ.out) rfl ⟨rfl, below_setRow HB.out (Nat.le_refl _) cs⟩

theorem impl_operatorOf_1 (w : World) :
    Calls Tryz.prog 85 #[.int .i64 1] w fun e w' => e = .returned (.agg #[.int .i64 1, .int .i64 1, .int .i64 1, .func (.func 93) #[] #[]]) ∧ Below w.heap.size w w' :=
  impl_operatorOf_in 1 (by decide) (by decide) _ rfl (by kernel_rfl) (fun w => by kernel_rfl) w

theorem impl_operatorOf_2 (w : World) :
    Calls Tryz.prog 85 #[.int .i64 2] w fun e w' => e = .returned (.agg #[.int .i64 1, .int .i64 1, .int .i64 1, .func (.func 95) #[] #[]]) ∧ Below w.heap.size w w' :=
  impl_operatorOf_in 2 (by decide) (by decide) _ rfl (by kernel_rfl) (fun w => by kernel_rfl) w

theorem impl_operatorOf_3 (w : World) :
    Calls Tryz.prog 85 #[.int .i64 3] w fun e w' => e = .returned (.agg #[.int .i64 1, .int .i64 1, .int .i64 1, .func (.func 96) #[] #[]]) ∧ Below w.heap.size w w' :=
  impl_operatorOf_in 3 (by decide) (by decide) _ rfl (by kernel_rfl) (fun w => by kernel_rfl) w

theorem impl_operatorOf_4 (w : World) :
    Calls Tryz.prog 85 #[.int .i64 4] w fun e w' => e = .returned (.agg #[.int .i64 1, .int .i64 1, .int .i64 1, .func (.func 97) #[] #[]]) ∧ Below w.heap.size w w' :=
  impl_operatorOf_in 4 (by decide) (by decide) _ rfl (by kernel_rfl) (fun w => by kernel_rfl) w

theorem impl_operatorOf_5 (w : World) :
    Calls Tryz.prog 85 #[.int .i64 5] w fun e w' => e = .returned (.agg #[.int .i64 1, .int .i64 1, .int .i64 1, .func (.func 98) #[] #[]]) ∧ Below w.heap.size w w' :=
  impl_operatorOf_in 5 (by decide) (by decide) _ rfl (by kernel_rfl) (fun w => by kernel_rfl) w

theorem impl_operatorOf_6 (w : World) :
    Calls Tryz.prog 85 #[.int .i64 6] w fun e w' => e = .returned (.agg #[.int .i64 2, .int .i64 2, .int .i64 2, .func (.func 99) #[] #[]]) ∧ Below w.heap.size w w' :=
  impl_operatorOf_in 6 (by decide) (by decide) _ rfl (by kernel_rfl) (fun w => by kernel_rfl) w

theorem impl_operatorOf_7 (w : World) :
    Calls Tryz.prog 85 #[.int .i64 7] w fun e w' => e = .returned (.agg #[.int .i64 2, .int .i64 2, .int .i64 2, .func (.func 100) #[] #[]]) ∧ Below w.heap.size w w' :=
  impl_operatorOf_in 7 (by decide) (by decide) _ rfl (by kernel_rfl) (fun w => by kernel_rfl) w

theorem impl_operatorOf_8 (w : World) :
    Calls Tryz.prog 85 #[.int .i64 8] w fun e w' => e = .returned (.agg #[.int .i64 2, .int .i64 2, .int .i64 2, .func (.func 101) #[] #[]]) ∧ Below w.heap.size w w' :=
  impl_operatorOf_in 8 (by decide) (by decide) _ rfl (by kernel_rfl) (fun w => by kernel_rfl) w

theorem impl_operatorOf_9 (w : World) :
    Calls Tryz.prog 85 #[.int .i64 9] w fun e w' => e = .returned (.agg #[.int .i64 1, .int .i64 1, .int .i64 3, .func (.func 102) #[] #[]]) ∧ Below w.heap.size w w' :=
  impl_operatorOf_in 9 (by decide) (by decide) _ rfl (by kernel_rfl) (fun w => by kernel_rfl) w

theorem impl_operatorOf_10 (w : World) :
    Calls Tryz.prog 85 #[.int .i64 10] w fun e w' => e = .returned (.agg #[.int .i64 1, .int .i64 1, .int .i64 3, .func (.func 104) #[] #[]]) ∧ Below w.heap.size w w' :=
  impl_operatorOf_in 10 (by decide) (by decide) _ rfl (by kernel_rfl) (fun w => by kernel_rfl) w

theorem impl_operatorOf_11 (w : World) :
    Calls Tryz.prog 85 #[.int .i64 11] w fun e w' => e = .returned (.agg #[.int .i64 2, .int .i64 1, .int .i64 3, .func (.func 105) #[] #[]]) ∧ Below w.heap.size w w' :=
  impl_operatorOf_in 11 (by decide) (by decide) _ rfl (by kernel_rfl) (fun w => by kernel_rfl) w

theorem impl_operatorOf_12 (w : World) :
    Calls Tryz.prog 85 #[.int .i64 12] w fun e w' => e = .returned (.agg #[.int .i64 2, .int .i64 1, .int .i64 2, .func (.func 107) #[] #[]]) ∧ Below w.heap.size w w' :=
  impl_operatorOf_in 12 (by decide) (by decide) _ rfl (by kernel_rfl) (fun w => by kernel_rfl) w

theorem coeQ (v k : Int) (w : World) : Calls Tryz.prog 92 #[.int .i64 v, .int .i64 k] w fun e w' => e = .returned (.int .i64 (coe v k)) ∧ w' = w :=
  (impl_Coerce v k w).mono fun _ _ h => ⟨h.1, h.2.symm⟩
end Go.Proofs.YteeehpldkhceoaaGreat
