/-
  Chapter 3: OperandTypes and ApplyOp, in the program and in the model.
-/
import Derived.Test.YthpnghbhfbiljaaOpF
import Derived.Deep.QuietTactic
import Derived.Deep.RegionWith
import Derived.BigQuiet
import Derived.Laws.EntriesVeiled
namespace Go.Proofs.Ythpnghbhfbiljaa
open Go.ChangeShapes Go.WideShapes Go.ChangeAt Go.RowKit

theorem mx_ge {y : Int} (h : 0 ≤ y) : mx y 0 = y := by unfold mx; split <;> omega
theorem below_setRow {B : Nat} {a w : World} (h : Below B a w) {g : Nat} (hg : B ≤ g) (cs : Array Value) : Below B a (w.setRow g cs) :=
  ⟨h.os, h.tape, h.output, by have := h.size; simp [World.setRow]; omega, fun k hk => (setRow_other w g k cs (by omega)).trans (h.block k hk)⟩

/-- The types of an operator's operands and of its result. -/
def oL (k : Int) : Int := if 1 ≤ k ∧ k ≤ 12 then (if (6 ≤ k ∧ k ≤ 8) ∨ 11 ≤ k then 2 else 1) else 0
def oR (k : Int) : Int := if 1 ≤ k ∧ k ≤ 12 then (if 6 ≤ k ∧ k ≤ 8 then 2 else 1) else 0
def oO (k : Int) : Int := if 1 ≤ k ∧ k ≤ 12 then (if (6 ≤ k ∧ k ≤ 8) ∨ 12 ≤ k then 2 else if 9 ≤ k then 3 else 1) else 0
theorem oL_no {k : Int} (h : k < 1 ∨ 12 < k) : oL k = 0 := by unfold oL; rw [if_neg (by omega)]
theorem oR_no {k : Int} (h : k < 1 ∨ 12 < k) : oR k = 0 := by unfold oR; rw [if_neg (by omega)]
theorem oO_no {k : Int} (h : k < 1 ∨ 12 < k) : oO k = 0 := by unfold oO; rw [if_neg (by omega)]
theorem twelve {k : Int} : (k < 1 ∨ 12 < k) ∨ k = 1 ∨ k = 2 ∨ k = 3 ∨ k = 4 ∨ k = 5 ∨ k = 6 ∨ k = 7 ∨ k = 8 ∨ k = 9 ∨ k = 10 ∨ k = 11 ∨ k = 12 := by omega
/-- ApplyOp. -/
def apl (k a b : Int) : Int := opF k (coe a (oL k)) (coe b (oR k))
theorem opF_no {k : Int} (h : k < 1 ∨ 12 < k) (x y : Int) : opF k x y = 0 := by
  unfold opF
  rw [if_neg (by omega), if_neg (by omega), if_neg (by omega), if_neg (by omega), if_neg (by omega), if_neg (by omega), if_neg (by omega), if_neg (by omega), if_neg (by omega), if_neg (by omega), if_neg (by omega), if_neg (by omega)]
theorem apl_no {k : Int} (h : k < 1 ∨ 12 < k) (a b : Int) : apl k a b = 0 := opF_no h _ _

set_option maxHeartbeats 800000 in
set_option maxRecDepth 100000 in
theorem impl_operatorOf_no (k : Int) (hk : k < 1 ∨ 12 < k) (w : World) :
    Calls Try.prog 65 #[.int .i64 k] w fun e w' => e = .returned (.agg #[.int .i64 0, .int .i64 0, .int .i64 0, .nilFunc]) ∧ Below w.heap.size w w' := by
  rcases (by omega : k < 1 ∨ (1 ≤ k ∧ 12 < k)) with h | ⟨h, h'⟩
  all_goals
    clear hk
    go_enter Try.func65, Try.ntmps65
    go_wp2_with (first
      | (refine wpList_buildTo rfl 120 _ rfl (some 9) rfl #[.int .i64 0, .int .i64 0, .int .i64 0, .nilFunc] (by kernel_rfl) ?_)
      | (refine wpList_store_rowTo rfl 120 (.tmp 2) (.tmp 9) rfl rfl w.heap.size #[.int .i64 0, .int .i64 0, .int .i64 0, .nilFunc] rfl rfl 120 _ (heap_alloc_last w _) (by kernel_rfl) (by kernel_rfl) (by kernel_rfl) ?_; rw [World.setRow_alloc_new]))
    exact bodyPost_ret (v := .agg #[.int .i64 0, .int .i64 0, .int .i64 0, .nilFunc]) (results_cell_row rfl _ _ w.heap.size 120 #[.int .i64 0, .int .i64 0, .int .i64 0, .nilFunc] (0, 0) _ rfl (heap_alloc_last w _) Try.underlying120 rfl (by kernel_rfl)) rfl ⟨rfl, (Below.refl _ _).alloc (Nat.le_refl _) _⟩

set_option maxHeartbeats 800000 in
set_option maxRecDepth 100000 in
theorem impl_operatorOf_in (k : Int) (h1 : 1 ≤ k) (h12 : k ≤ 12) (cs : Array Value) (hcs : cs.size = 4) (hone : cs.all (·.oneCell') = true) (hidx : ∀ w, (Instr.index 129 (.agg opsArr) (.int .i64 k)).run Try.prog w = .ok (.agg cs) w) (w : World) :
    Calls Try.prog 65 #[.int .i64 k] w fun e w' => e = .returned (.agg cs) ∧ Below w.heap.size w w' := by
  have hsz : (Try.prog.info? 120).map (·.size) = some cs.size := by rw [hcs]; kernel_rfl
  have HSZ := Lib.hid hsz
  have HCS := Lib.hid hcs
  have HONE := Lib.hid hone
  clear hsz hcs hone
  go_enter Try.func65, Try.ntmps65
  go_wp2_with fail
  refine (impl_operators _).mono ?_
  rintro e w1 ⟨rfl, hb⟩
  have hg : w1.heap[w.heap.size]? = some (.cells #[.int .i64 0, .int .i64 0, .int .i64 0, .nilFunc] 120 (0, 0)) := (hb.block w.heap.size (by simp)).trans (heap_alloc_last w _)
  have HB := Lib.hid (((Below.refl w.heap.size w).alloc (Nat.le_refl _) _).trans (hb.mono (by simp)))
  have HG := Lib.hid hg
  clear hb hg
  go_wp2_with (refine wpList_store_rowTo rfl 120 (.tmp 2) (.tmp 12) rfl rfl w.heap.size cs rfl rfl 120 _ HG.out HSZ.out HCS.out.symm HONE.out ?_)
  exact bodyPost_ret (v := .agg cs) (results_cell_row rfl _ _ w.heap.size 120 cs (0, 0) _ rfl (setRow_heap _ _ _ _ _ _ HG.out) Try.underlying120 rfl HSZ.out) rfl ⟨rfl, below_setRow HB.out (Nat.le_refl _) cs⟩

theorem impl_operatorOf_1 (w : World) :
    Calls Try.prog 65 #[.int .i64 1] w fun e w' => e = .returned (.agg #[.int .i64 1, .int .i64 1, .int .i64 1, .func (.func 85) #[] #[]]) ∧ Below w.heap.size w w' :=
  impl_operatorOf_in 1 (by decide) (by decide) _ rfl (by kernel_rfl) (fun w => by kernel_rfl) w

theorem impl_operatorOf_2 (w : World) :
    Calls Try.prog 65 #[.int .i64 2] w fun e w' => e = .returned (.agg #[.int .i64 1, .int .i64 1, .int .i64 1, .func (.func 86) #[] #[]]) ∧ Below w.heap.size w w' :=
  impl_operatorOf_in 2 (by decide) (by decide) _ rfl (by kernel_rfl) (fun w => by kernel_rfl) w

theorem impl_operatorOf_3 (w : World) :
    Calls Try.prog 65 #[.int .i64 3] w fun e w' => e = .returned (.agg #[.int .i64 1, .int .i64 1, .int .i64 1, .func (.func 87) #[] #[]]) ∧ Below w.heap.size w w' :=
  impl_operatorOf_in 3 (by decide) (by decide) _ rfl (by kernel_rfl) (fun w => by kernel_rfl) w

theorem impl_operatorOf_4 (w : World) :
    Calls Try.prog 65 #[.int .i64 4] w fun e w' => e = .returned (.agg #[.int .i64 1, .int .i64 1, .int .i64 1, .func (.func 88) #[] #[]]) ∧ Below w.heap.size w w' :=
  impl_operatorOf_in 4 (by decide) (by decide) _ rfl (by kernel_rfl) (fun w => by kernel_rfl) w

theorem impl_operatorOf_5 (w : World) :
    Calls Try.prog 65 #[.int .i64 5] w fun e w' => e = .returned (.agg #[.int .i64 1, .int .i64 1, .int .i64 1, .func (.func 89) #[] #[]]) ∧ Below w.heap.size w w' :=
  impl_operatorOf_in 5 (by decide) (by decide) _ rfl (by kernel_rfl) (fun w => by kernel_rfl) w

theorem impl_operatorOf_6 (w : World) :
    Calls Try.prog 65 #[.int .i64 6] w fun e w' => e = .returned (.agg #[.int .i64 2, .int .i64 2, .int .i64 2, .func (.func 90) #[] #[]]) ∧ Below w.heap.size w w' :=
  impl_operatorOf_in 6 (by decide) (by decide) _ rfl (by kernel_rfl) (fun w => by kernel_rfl) w

theorem impl_operatorOf_7 (w : World) :
    Calls Try.prog 65 #[.int .i64 7] w fun e w' => e = .returned (.agg #[.int .i64 2, .int .i64 2, .int .i64 2, .func (.func 91) #[] #[]]) ∧ Below w.heap.size w w' :=
  impl_operatorOf_in 7 (by decide) (by decide) _ rfl (by kernel_rfl) (fun w => by kernel_rfl) w

theorem impl_operatorOf_8 (w : World) :
    Calls Try.prog 65 #[.int .i64 8] w fun e w' => e = .returned (.agg #[.int .i64 2, .int .i64 2, .int .i64 2, .func (.func 92) #[] #[]]) ∧ Below w.heap.size w w' :=
  impl_operatorOf_in 8 (by decide) (by decide) _ rfl (by kernel_rfl) (fun w => by kernel_rfl) w

theorem impl_operatorOf_9 (w : World) :
    Calls Try.prog 65 #[.int .i64 9] w fun e w' => e = .returned (.agg #[.int .i64 1, .int .i64 1, .int .i64 3, .func (.func 93) #[] #[]]) ∧ Below w.heap.size w w' :=
  impl_operatorOf_in 9 (by decide) (by decide) _ rfl (by kernel_rfl) (fun w => by kernel_rfl) w

theorem impl_operatorOf_10 (w : World) :
    Calls Try.prog 65 #[.int .i64 10] w fun e w' => e = .returned (.agg #[.int .i64 1, .int .i64 1, .int .i64 3, .func (.func 94) #[] #[]]) ∧ Below w.heap.size w w' :=
  impl_operatorOf_in 10 (by decide) (by decide) _ rfl (by kernel_rfl) (fun w => by kernel_rfl) w

theorem impl_operatorOf_11 (w : World) :
    Calls Try.prog 65 #[.int .i64 11] w fun e w' => e = .returned (.agg #[.int .i64 2, .int .i64 1, .int .i64 3, .func (.func 95) #[] #[]]) ∧ Below w.heap.size w w' :=
  impl_operatorOf_in 11 (by decide) (by decide) _ rfl (by kernel_rfl) (fun w => by kernel_rfl) w

theorem impl_operatorOf_12 (w : World) :
    Calls Try.prog 65 #[.int .i64 12] w fun e w' => e = .returned (.agg #[.int .i64 2, .int .i64 1, .int .i64 2, .func (.func 97) #[] #[]]) ∧ Below w.heap.size w w' :=
  impl_operatorOf_in 12 (by decide) (by decide) _ rfl (by kernel_rfl) (fun w => by kernel_rfl) w

set_option maxHeartbeats 1600000 in
set_option maxRecDepth 100000 in
theorem impl_ApplyOp_no (k a b : Int) (hk : k < 1 ∨ 12 < k) (w : World) :
    Calls Try.prog 47 #[.int .i64 k, .int .i64 a, .int .i64 b] w fun e w' => e = .returned (.int .i64 (apl k a b)) ∧ Below w.heap.size w w' := by
  have HC := Lib.hid (impl_operatorOf_no k hk w)
  have fin := Lib.hid (apl_no hk a b)
  have hq : ∀ w, (binOp .eql 103 .nilFunc .nilFunc).run Try.prog w = .ok (.bool true) w := fun w => by kernel_rfl
  clear hk
  go_enter Try.func47, Try.ntmps47
  go_wp2_with fail
  refine HC.out.mono ?_
  rintro e w1 ⟨rfl, hb⟩
  have HB := Lib.hid hb
  clear hb
  go_wp2
  go_ret
  exact ⟨ret_i64 fin.out.symm, by repeat (first | exact HB.out.alloc HB.out.size _ | refine Below.setCell ?_ HB.out.size _)⟩

theorem coeQ (v k : Int) (w : World) : Calls Try.prog 66 #[.int .i64 v, .int .i64 k] w fun e w' => e = .returned (.int .i64 (coe v k)) ∧ w' = w :=
  (impl_Coerce v k w).mono fun _ _ h => ⟨h.1, h.2.symm⟩

set_option maxHeartbeats 1600000 in
set_option maxRecDepth 100000 in
theorem impl_ApplyOp_1 (a b : Int) (w : World) :
    Calls Try.prog 47 #[.int .i64 1, .int .i64 a, .int .i64 b] w fun e w' => e = .returned (.int .i64 (apl 1 a b)) ∧ Below w.heap.size w w' := by
  have HF := Lib.hid (fun w => (impl_op1 (coe a 1) (coe b 1) (coe_num a).1 (coe_num a).2 (coe_num b).1 (coe_num b).2 w).mono fun _ _ h => And.intro h.1 h.2.symm)
  have hq : ∀ w, (binOp .eql 103 (.func (.func 85) #[] #[]) .nilFunc).run Try.prog w = .ok (.bool false) w := fun w => by kernel_rfl
  go_enter Try.func47, Try.ntmps47
  go_wp2_with fail
  refine (impl_operatorOf_1 _).mono ?_
  rintro e w1 ⟨rfl, hb⟩
  have HB := Lib.hid hb
  clear hb
  go_wp2_with fail
  go_quiet ((first | (go_at_call 66; exact Calls.quiet_of_same (coeQ _ _ _)) | (go_at_call 85; exact Calls.quiet_of_same (HF.out _))))
  all_goals
    go_wp2
    go_ret
    exact ⟨rfl, by
      repeat (first | refine below_drewN ?_ _ | refine Below.drew ?_ | exact HB.out.alloc HB.out.size _ | refine Below.setCell ?_ HB.out.size _)⟩

set_option maxHeartbeats 1600000 in
set_option maxRecDepth 100000 in
theorem impl_ApplyOp_2 (a b : Int) (w : World) :
    Calls Try.prog 47 #[.int .i64 2, .int .i64 a, .int .i64 b] w fun e w' => e = .returned (.int .i64 (apl 2 a b)) ∧ Below w.heap.size w w' := by
  have HF := Lib.hid (fun w => (impl_op2 (coe a 1) (coe b 1) (coe_num a).1 (coe_num a).2 (coe_num b).1 (coe_num b).2 w).mono fun _ _ h => And.intro h.1 h.2.symm)
  have hq : ∀ w, (binOp .eql 103 (.func (.func 86) #[] #[]) .nilFunc).run Try.prog w = .ok (.bool false) w := fun w => by kernel_rfl
  go_enter Try.func47, Try.ntmps47
  go_wp2_with fail
  refine (impl_operatorOf_2 _).mono ?_
  rintro e w1 ⟨rfl, hb⟩
  have HB := Lib.hid hb
  clear hb
  go_wp2_with fail
  go_quiet ((first | (go_at_call 66; exact Calls.quiet_of_same (coeQ _ _ _)) | (go_at_call 86; exact Calls.quiet_of_same (HF.out _))))
  all_goals
    go_wp2
    go_ret
    exact ⟨rfl, by
      repeat (first | refine below_drewN ?_ _ | refine Below.drew ?_ | exact HB.out.alloc HB.out.size _ | refine Below.setCell ?_ HB.out.size _)⟩

set_option maxHeartbeats 1600000 in
set_option maxRecDepth 100000 in
theorem impl_ApplyOp_3 (a b : Int) (w : World) :
    Calls Try.prog 47 #[.int .i64 3, .int .i64 a, .int .i64 b] w fun e w' => e = .returned (.int .i64 (apl 3 a b)) ∧ Below w.heap.size w w' := by
  have HF := Lib.hid (fun w => (impl_op3 (coe a 1) (coe b 1) (coe_num a).1 (coe_num a).2 (coe_num b).1 (coe_num b).2 w).mono fun _ _ h => And.intro h.1 h.2.symm)
  have hq : ∀ w, (binOp .eql 103 (.func (.func 87) #[] #[]) .nilFunc).run Try.prog w = .ok (.bool false) w := fun w => by kernel_rfl
  go_enter Try.func47, Try.ntmps47
  go_wp2_with fail
  refine (impl_operatorOf_3 _).mono ?_
  rintro e w1 ⟨rfl, hb⟩
  have HB := Lib.hid hb
  clear hb
  go_wp2_with fail
  go_quiet ((first | (go_at_call 66; exact Calls.quiet_of_same (coeQ _ _ _)) | (go_at_call 87; exact Calls.quiet_of_same (HF.out _))))
  all_goals
    go_wp2
    go_ret
    exact ⟨rfl, by
      repeat (first | refine below_drewN ?_ _ | refine Below.drew ?_ | exact HB.out.alloc HB.out.size _ | refine Below.setCell ?_ HB.out.size _)⟩

set_option maxHeartbeats 1600000 in
set_option maxRecDepth 100000 in
theorem impl_ApplyOp_4 (a b : Int) (w : World) :
    Calls Try.prog 47 #[.int .i64 4, .int .i64 a, .int .i64 b] w fun e w' => e = .returned (.int .i64 (apl 4 a b)) ∧ Below w.heap.size w w' := by
  have HF := Lib.hid (fun w => (impl_op4 (coe a 1) (coe b 1) w).mono fun _ _ h => And.intro h.1 h.2.symm)
  have hq : ∀ w, (binOp .eql 103 (.func (.func 88) #[] #[]) .nilFunc).run Try.prog w = .ok (.bool false) w := fun w => by kernel_rfl
  go_enter Try.func47, Try.ntmps47
  go_wp2_with fail
  refine (impl_operatorOf_4 _).mono ?_
  rintro e w1 ⟨rfl, hb⟩
  have HB := Lib.hid hb
  clear hb
  go_wp2_with fail
  go_quiet ((first | (go_at_call 66; exact Calls.quiet_of_same (coeQ _ _ _)) | (go_at_call 88; exact Calls.quiet_of_same (HF.out _))))
  all_goals
    go_wp2
    go_ret
    exact ⟨rfl, by
      repeat (first | refine below_drewN ?_ _ | refine Below.drew ?_ | exact HB.out.alloc HB.out.size _ | refine Below.setCell ?_ HB.out.size _)⟩

set_option maxHeartbeats 1600000 in
set_option maxRecDepth 100000 in
theorem impl_ApplyOp_5 (a b : Int) (w : World) :
    Calls Try.prog 47 #[.int .i64 5, .int .i64 a, .int .i64 b] w fun e w' => e = .returned (.int .i64 (apl 5 a b)) ∧ Below w.heap.size w w' := by
  have HF := Lib.hid (fun w => (impl_op5 (coe a 1) (coe b 1) w).mono fun _ _ h => And.intro h.1 h.2.symm)
  have hq : ∀ w, (binOp .eql 103 (.func (.func 89) #[] #[]) .nilFunc).run Try.prog w = .ok (.bool false) w := fun w => by kernel_rfl
  go_enter Try.func47, Try.ntmps47
  go_wp2_with fail
  refine (impl_operatorOf_5 _).mono ?_
  rintro e w1 ⟨rfl, hb⟩
  have HB := Lib.hid hb
  clear hb
  go_wp2_with fail
  go_quiet ((first | (go_at_call 66; exact Calls.quiet_of_same (coeQ _ _ _)) | (go_at_call 89; exact Calls.quiet_of_same (HF.out _))))
  all_goals
    go_wp2
    go_ret
    exact ⟨rfl, by
      repeat (first | refine below_drewN ?_ _ | refine Below.drew ?_ | exact HB.out.alloc HB.out.size _ | refine Below.setCell ?_ HB.out.size _)⟩

set_option maxHeartbeats 1600000 in
set_option maxRecDepth 100000 in
theorem impl_ApplyOp_6 (a b : Int) (w : World) :
    Calls Try.prog 47 #[.int .i64 6, .int .i64 a, .int .i64 b] w fun e w' => e = .returned (.int .i64 (apl 6 a b)) ∧ Below w.heap.size w w' := by
  have HF := Lib.hid (fun w => (impl_op6 (coe a 2) (coe b 2) w).mono fun _ _ h => And.intro h.1 h.2.symm)
  have hq : ∀ w, (binOp .eql 103 (.func (.func 90) #[] #[]) .nilFunc).run Try.prog w = .ok (.bool false) w := fun w => by kernel_rfl
  go_enter Try.func47, Try.ntmps47
  go_wp2_with fail
  refine (impl_operatorOf_6 _).mono ?_
  rintro e w1 ⟨rfl, hb⟩
  have HB := Lib.hid hb
  clear hb
  go_wp2_with fail
  go_quiet ((first | (go_at_call 66; exact Calls.quiet_of_same (coeQ _ _ _)) | (go_at_call 90; exact Calls.quiet_of_same (HF.out _))))
  all_goals
    go_wp2
    go_ret
    exact ⟨rfl, by
      repeat (first | refine below_drewN ?_ _ | refine Below.drew ?_ | exact HB.out.alloc HB.out.size _ | refine Below.setCell ?_ HB.out.size _)⟩

set_option maxHeartbeats 1600000 in
set_option maxRecDepth 100000 in
theorem impl_ApplyOp_7 (a b : Int) (w : World) :
    Calls Try.prog 47 #[.int .i64 7, .int .i64 a, .int .i64 b] w fun e w' => e = .returned (.int .i64 (apl 7 a b)) ∧ Below w.heap.size w w' := by
  have HF := Lib.hid (fun w => (impl_op7 (coe a 2) (coe b 2) w).mono fun _ _ h => And.intro h.1 h.2.symm)
  have hq : ∀ w, (binOp .eql 103 (.func (.func 91) #[] #[]) .nilFunc).run Try.prog w = .ok (.bool false) w := fun w => by kernel_rfl
  go_enter Try.func47, Try.ntmps47
  go_wp2_with fail
  refine (impl_operatorOf_7 _).mono ?_
  rintro e w1 ⟨rfl, hb⟩
  have HB := Lib.hid hb
  clear hb
  go_wp2_with fail
  go_quiet ((first | (go_at_call 66; exact Calls.quiet_of_same (coeQ _ _ _)) | (go_at_call 91; exact Calls.quiet_of_same (HF.out _))))
  all_goals
    go_wp2
    go_ret
    exact ⟨rfl, by
      repeat (first | refine below_drewN ?_ _ | refine Below.drew ?_ | exact HB.out.alloc HB.out.size _ | refine Below.setCell ?_ HB.out.size _)⟩

set_option maxHeartbeats 1600000 in
set_option maxRecDepth 100000 in
theorem impl_ApplyOp_8 (a b : Int) (w : World) :
    Calls Try.prog 47 #[.int .i64 8, .int .i64 a, .int .i64 b] w fun e w' => e = .returned (.int .i64 (apl 8 a b)) ∧ Below w.heap.size w w' := by
  have HF := Lib.hid (fun w => (impl_op8 (coe a 2) (coe b 2) w).mono fun _ _ h => And.intro h.1 h.2.symm)
  have hq : ∀ w, (binOp .eql 103 (.func (.func 92) #[] #[]) .nilFunc).run Try.prog w = .ok (.bool false) w := fun w => by kernel_rfl
  go_enter Try.func47, Try.ntmps47
  go_wp2_with fail
  refine (impl_operatorOf_8 _).mono ?_
  rintro e w1 ⟨rfl, hb⟩
  have HB := Lib.hid hb
  clear hb
  go_wp2_with fail
  go_quiet ((first | (go_at_call 66; exact Calls.quiet_of_same (coeQ _ _ _)) | (go_at_call 92; exact Calls.quiet_of_same (HF.out _))))
  all_goals
    go_wp2
    go_ret
    exact ⟨rfl, by
      repeat (first | refine below_drewN ?_ _ | refine Below.drew ?_ | exact HB.out.alloc HB.out.size _ | refine Below.setCell ?_ HB.out.size _)⟩

set_option maxHeartbeats 1600000 in
set_option maxRecDepth 100000 in
theorem impl_ApplyOp_9 (a b : Int) (w : World) :
    Calls Try.prog 47 #[.int .i64 9, .int .i64 a, .int .i64 b] w fun e w' => e = .returned (.int .i64 (apl 9 a b)) ∧ Below w.heap.size w w' := by
  have HF := Lib.hid (fun w => (impl_op9 (coe a 1) (coe b 1) w).mono fun _ _ h => And.intro h.1 h.2.symm)
  have hq : ∀ w, (binOp .eql 103 (.func (.func 93) #[] #[]) .nilFunc).run Try.prog w = .ok (.bool false) w := fun w => by kernel_rfl
  go_enter Try.func47, Try.ntmps47
  go_wp2_with fail
  refine (impl_operatorOf_9 _).mono ?_
  rintro e w1 ⟨rfl, hb⟩
  have HB := Lib.hid hb
  clear hb
  go_wp2_with fail
  go_quiet ((first | (go_at_call 66; exact Calls.quiet_of_same (coeQ _ _ _)) | (go_at_call 93; exact Calls.quiet_of_same (HF.out _))))
  all_goals
    go_wp2
    go_ret
    exact ⟨rfl, by
      repeat (first | refine below_drewN ?_ _ | refine Below.drew ?_ | exact HB.out.alloc HB.out.size _ | refine Below.setCell ?_ HB.out.size _)⟩

set_option maxHeartbeats 1600000 in
set_option maxRecDepth 100000 in
theorem impl_ApplyOp_10 (a b : Int) (w : World) :
    Calls Try.prog 47 #[.int .i64 10, .int .i64 a, .int .i64 b] w fun e w' => e = .returned (.int .i64 (apl 10 a b)) ∧ Below w.heap.size w w' := by
  have HF := Lib.hid (fun w => (impl_op10 (coe a 1) (coe b 1) w).mono fun _ _ h => And.intro h.1 h.2.symm)
  have hq : ∀ w, (binOp .eql 103 (.func (.func 94) #[] #[]) .nilFunc).run Try.prog w = .ok (.bool false) w := fun w => by kernel_rfl
  go_enter Try.func47, Try.ntmps47
  go_wp2_with fail
  refine (impl_operatorOf_10 _).mono ?_
  rintro e w1 ⟨rfl, hb⟩
  have HB := Lib.hid hb
  clear hb
  go_wp2_with fail
  go_quiet ((first | (go_at_call 66; exact Calls.quiet_of_same (coeQ _ _ _)) | (go_at_call 94; exact Calls.quiet_of_same (HF.out _))))
  all_goals
    go_wp2
    go_ret
    exact ⟨rfl, by
      repeat (first | refine below_drewN ?_ _ | refine Below.drew ?_ | exact HB.out.alloc HB.out.size _ | refine Below.setCell ?_ HB.out.size _)⟩

set_option maxHeartbeats 1600000 in
set_option maxRecDepth 100000 in
theorem impl_ApplyOp_11 (a b : Int) (w : World) :
    Calls Try.prog 47 #[.int .i64 11, .int .i64 a, .int .i64 b] w fun e w' => e = .returned (.int .i64 (apl 11 a b)) ∧ Below w.heap.size w w' := by
  have HF := Lib.hid (fun w => (impl_op11 (coe a 2) (coe b 1) w).mono fun _ _ h => And.intro h.1 h.2.symm)
  have hq : ∀ w, (binOp .eql 103 (.func (.func 95) #[] #[]) .nilFunc).run Try.prog w = .ok (.bool false) w := fun w => by kernel_rfl
  go_enter Try.func47, Try.ntmps47
  go_wp2_with fail
  refine (impl_operatorOf_11 _).mono ?_
  rintro e w1 ⟨rfl, hb⟩
  have HB := Lib.hid hb
  clear hb
  go_wp2_with fail
  go_quiet ((first | (go_at_call 66; exact Calls.quiet_of_same (coeQ _ _ _)) | (go_at_call 95; exact Calls.quiet_of_same (HF.out _))))
  all_goals
    go_wp2
    go_ret
    exact ⟨rfl, by
      repeat (first | refine below_drewN ?_ _ | refine Below.drew ?_ | exact HB.out.alloc HB.out.size _ | refine Below.setCell ?_ HB.out.size _)⟩

set_option maxHeartbeats 1600000 in
set_option maxRecDepth 100000 in
theorem impl_ApplyOp_12 (a b : Int) (w : World) :
    Calls Try.prog 47 #[.int .i64 12, .int .i64 a, .int .i64 b] w fun e w' => e = .returned (.int .i64 (apl 12 a b)) ∧ Below w.heap.size w w' := by
  have HF := Lib.hid (fun w => (impl_op12 (coe a 2) (coe b 1) w).mono fun _ _ h => And.intro h.1 h.2.symm)
  have hq : ∀ w, (binOp .eql 103 (.func (.func 97) #[] #[]) .nilFunc).run Try.prog w = .ok (.bool false) w := fun w => by kernel_rfl
  go_enter Try.func47, Try.ntmps47
  go_wp2_with fail
  refine (impl_operatorOf_12 _).mono ?_
  rintro e w1 ⟨rfl, hb⟩
  have HB := Lib.hid hb
  clear hb
  go_wp2_with fail
  go_quiet ((first | (go_at_call 66; exact Calls.quiet_of_same (coeQ _ _ _)) | (go_at_call 97; exact Calls.quiet_of_same (HF.out _))))
  all_goals
    go_wp2
    go_ret
    exact ⟨rfl, by
      repeat (first | refine below_drewN ?_ _ | refine Below.drew ?_ | exact HB.out.alloc HB.out.size _ | refine Below.setCell ?_ HB.out.size _)⟩

theorem impl_ApplyOp (k a b : Int) (w : World) :
    Calls Try.prog 47 #[.int .i64 k, .int .i64 a, .int .i64 b] w fun e w' => e = .returned (.int .i64 (apl k a b)) ∧ Below w.heap.size w w' := by
  rcases twelve (k := k) with h | rfl | rfl | rfl | rfl | rfl | rfl | rfl | rfl | rfl | rfl | rfl | rfl
  · exact impl_ApplyOp_no k a b h w
  · exact impl_ApplyOp_1 a b w
  · exact impl_ApplyOp_2 a b w
  · exact impl_ApplyOp_3 a b w
  · exact impl_ApplyOp_4 a b w
  · exact impl_ApplyOp_5 a b w
  · exact impl_ApplyOp_6 a b w
  · exact impl_ApplyOp_7 a b w
  · exact impl_ApplyOp_8 a b w
  · exact impl_ApplyOp_9 a b w
  · exact impl_ApplyOp_10 a b w
  · exact impl_ApplyOp_11 a b w
  · exact impl_ApplyOp_12 a b w

set_option maxHeartbeats 1600000 in
set_option maxRecDepth 100000 in
theorem spec_OperandTypes (k : Int) (w : World) :
    Calls Try.prog 55 #[.int .i64 k] w fun e w' => e = .returned (.tuple #[.int .i64 (oL k), .int .i64 (oR k), .int .i64 (oO k)]) ∧ w = w' := by
  rcases twelve (k := k) with h | rfl | rfl | rfl | rfl | rfl | rfl | rfl | rfl | rfl | rfl | rfl | rfl
  · have hF : Hid (oL k = 0 ∧ oR k = 0 ∧ oO k = 0) := ⟨oL_no h, oR_no h, oO_no h⟩
    have t1 : inR k 1 5 = false := inR_no (by omega)
    have t2 : inR k 6 8 = false := inR_no (by omega)
    have e1 : (k == 9) = false := beq_eq_false_iff_ne.2 (by omega)
    have e2 : (k == 10) = false := beq_eq_false_iff_ne.2 (by omega)
    have e3 : (k == 11) = false := beq_eq_false_iff_ne.2 (by omega)
    have e4 : (k == 12) = false := beq_eq_false_iff_ne.2 (by omega)
    clear h
    go_enter Try.func55, Try.ntmps55
    go_wp2_with fail
    refine (spec_l1In _ _ _ _).mono ?_
    rintro e w1 ⟨rfl, rfl⟩
    go_wp2_with fail
    refine (spec_l1In _ _ _ _).mono ?_
    rintro e w1 ⟨rfl, rfl⟩
    go_wp2
    go_ret3
    exact ⟨by rw [hF.out.1, hF.out.2.1, hF.out.2.2]; rfl, rfl⟩
  · have t1 : inR 1 1 5 = true := rfl
    go_enter Try.func55, Try.ntmps55
    go_wp2_with fail
    refine (spec_l1In _ _ _ _).mono ?_
    rintro e w1 ⟨rfl, rfl⟩
    go_wp2
    go_ret3
    exact ⟨rfl, rfl⟩
  · have t1 : inR 2 1 5 = true := rfl
    go_enter Try.func55, Try.ntmps55
    go_wp2_with fail
    refine (spec_l1In _ _ _ _).mono ?_
    rintro e w1 ⟨rfl, rfl⟩
    go_wp2
    go_ret3
    exact ⟨rfl, rfl⟩
  · have t1 : inR 3 1 5 = true := rfl
    go_enter Try.func55, Try.ntmps55
    go_wp2_with fail
    refine (spec_l1In _ _ _ _).mono ?_
    rintro e w1 ⟨rfl, rfl⟩
    go_wp2
    go_ret3
    exact ⟨rfl, rfl⟩
  · have t1 : inR 4 1 5 = true := rfl
    go_enter Try.func55, Try.ntmps55
    go_wp2_with fail
    refine (spec_l1In _ _ _ _).mono ?_
    rintro e w1 ⟨rfl, rfl⟩
    go_wp2
    go_ret3
    exact ⟨rfl, rfl⟩
  · have t1 : inR 5 1 5 = true := rfl
    go_enter Try.func55, Try.ntmps55
    go_wp2_with fail
    refine (spec_l1In _ _ _ _).mono ?_
    rintro e w1 ⟨rfl, rfl⟩
    go_wp2
    go_ret3
    exact ⟨rfl, rfl⟩
  · have t1 : inR 6 1 5 = false := rfl
    have t2 : inR 6 6 8 = true := rfl
    go_enter Try.func55, Try.ntmps55
    go_wp2_with fail
    refine (spec_l1In _ _ _ _).mono ?_
    rintro e w1 ⟨rfl, rfl⟩
    go_wp2_with fail
    refine (spec_l1In _ _ _ _).mono ?_
    rintro e w1 ⟨rfl, rfl⟩
    go_wp2
    go_ret3
    exact ⟨rfl, rfl⟩
  · have t1 : inR 7 1 5 = false := rfl
    have t2 : inR 7 6 8 = true := rfl
    go_enter Try.func55, Try.ntmps55
    go_wp2_with fail
    refine (spec_l1In _ _ _ _).mono ?_
    rintro e w1 ⟨rfl, rfl⟩
    go_wp2_with fail
    refine (spec_l1In _ _ _ _).mono ?_
    rintro e w1 ⟨rfl, rfl⟩
    go_wp2
    go_ret3
    exact ⟨rfl, rfl⟩
  · have t1 : inR 8 1 5 = false := rfl
    have t2 : inR 8 6 8 = true := rfl
    go_enter Try.func55, Try.ntmps55
    go_wp2_with fail
    refine (spec_l1In _ _ _ _).mono ?_
    rintro e w1 ⟨rfl, rfl⟩
    go_wp2_with fail
    refine (spec_l1In _ _ _ _).mono ?_
    rintro e w1 ⟨rfl, rfl⟩
    go_wp2
    go_ret3
    exact ⟨rfl, rfl⟩
  · have t1 : inR 9 1 5 = false := rfl
    have t2 : inR 9 6 8 = false := rfl
    go_enter Try.func55, Try.ntmps55
    go_wp2_with fail
    refine (spec_l1In _ _ _ _).mono ?_
    rintro e w1 ⟨rfl, rfl⟩
    go_wp2_with fail
    refine (spec_l1In _ _ _ _).mono ?_
    rintro e w1 ⟨rfl, rfl⟩
    go_wp2
    go_ret3
    exact ⟨rfl, rfl⟩
  · have t1 : inR 10 1 5 = false := rfl
    have t2 : inR 10 6 8 = false := rfl
    go_enter Try.func55, Try.ntmps55
    go_wp2_with fail
    refine (spec_l1In _ _ _ _).mono ?_
    rintro e w1 ⟨rfl, rfl⟩
    go_wp2_with fail
    refine (spec_l1In _ _ _ _).mono ?_
    rintro e w1 ⟨rfl, rfl⟩
    go_wp2
    go_ret3
    exact ⟨rfl, rfl⟩
  · have t1 : inR 11 1 5 = false := rfl
    have t2 : inR 11 6 8 = false := rfl
    go_enter Try.func55, Try.ntmps55
    go_wp2_with fail
    refine (spec_l1In _ _ _ _).mono ?_
    rintro e w1 ⟨rfl, rfl⟩
    go_wp2_with fail
    refine (spec_l1In _ _ _ _).mono ?_
    rintro e w1 ⟨rfl, rfl⟩
    go_wp2
    go_ret3
    exact ⟨rfl, rfl⟩
  · have t1 : inR 12 1 5 = false := rfl
    have t2 : inR 12 6 8 = false := rfl
    go_enter Try.func55, Try.ntmps55
    go_wp2_with fail
    refine (spec_l1In _ _ _ _).mono ?_
    rintro e w1 ⟨rfl, rfl⟩
    go_wp2_with fail
    refine (spec_l1In _ _ _ _).mono ?_
    rintro e w1 ⟨rfl, rfl⟩
    go_wp2
    go_ret3
    exact ⟨rfl, rfl⟩

set_option maxHeartbeats 3200000 in
set_option maxRecDepth 100000 in
theorem spec_ApplyOp_no (k a b : Int) (h : k < 1 ∨ 12 < k) (w : World) :
    Calls Try.prog 40 #[.int .i64 k, .int .i64 a, .int .i64 b] w fun e w' => e = .returned (.int .i64 (apl k a b)) ∧ w = w' := by
  have fin := Lib.hid (apl_no h a b)
  have e1 : (k == 1) = false := beq_eq_false_iff_ne.2 (by omega)
  have e2 : (k == 2) = false := beq_eq_false_iff_ne.2 (by omega)
  have e3 : (k == 3) = false := beq_eq_false_iff_ne.2 (by omega)
  have e4 : (k == 4) = false := beq_eq_false_iff_ne.2 (by omega)
  have e5 : (k == 5) = false := beq_eq_false_iff_ne.2 (by omega)
  have e6 : (k == 6) = false := beq_eq_false_iff_ne.2 (by omega)
  have e7 : (k == 7) = false := beq_eq_false_iff_ne.2 (by omega)
  have e8 : (k == 8) = false := beq_eq_false_iff_ne.2 (by omega)
  have e9 : (k == 9) = false := beq_eq_false_iff_ne.2 (by omega)
  have e10 : (k == 10) = false := beq_eq_false_iff_ne.2 (by omega)
  have e11 : (k == 11) = false := beq_eq_false_iff_ne.2 (by omega)
  have e12 : (k == 12) = false := beq_eq_false_iff_ne.2 (by omega)
  clear h
  go_enter Try.func40, Try.ntmps40
  go_wp2_with fail
  refine (spec_OperandTypes _ _).mono ?_
  rintro e w1 ⟨rfl, rfl⟩
  go_wp2_with fail
  refine (spec_Coerce _ _ _).mono ?_
  rintro e w1 ⟨rfl, rfl⟩
  go_wp2_with fail
  refine (spec_Coerce _ _ _).mono ?_
  rintro e w1 ⟨rfl, rfl⟩
  go_wp2
  go_ret
  exact ⟨ret_i64 fin.out.symm, rfl⟩

set_option maxHeartbeats 3200000 in
set_option maxRecDepth 100000 in
theorem spec_ApplyOp_1 (a b : Int) (w : World) :
    Calls Try.prog 40 #[.int .i64 1, .int .i64 a, .int .i64 b] w fun e w' => e = .returned (.int .i64 (apl 1 a b)) ∧ w = w' := by
  show Calls _ _ _ _ fun e w' => e = .returned (.int .i64 (opF 1 (coe a 1) (coe b 1))) ∧ w = w'
  have hx := coe_num a
  have hy := coe_num b
  obtain ⟨hx1, hx2⟩ := hx
  obtain ⟨hy1, hy2⟩ := hy
  have HA := Lib.hid (fun w => spec_Coerce a 1 w)
  have HBc := Lib.hid (fun w => spec_Coerce b 1 w)
  generalize coe a 1 = x at hx1 hx2 HA ⊢
  generalize coe b 1 = y at hy1 hy2 HBc ⊢
  go_enter Try.func40, Try.ntmps40
  go_wp2_with fail
  refine (spec_OperandTypes _ _).mono ?_
  rintro e w1 ⟨rfl, rfl⟩
  rw [show oL 1 = 1 from rfl, show oR 1 = 1 from rfl, show oO 1 = 1 from rfl]
  go_wp2_with fail
  refine (HA.out _).mono ?_
  rintro e w1 ⟨rfl, rfl⟩
  go_wp2_with fail
  refine (HBc.out _).mono ?_
  rintro e w1 ⟨rfl, rfl⟩
  go_wp2_with fail
  refine (spec_Saturate _ _).mono ?_
  rintro e w1 ⟨rfl, rfl⟩
  go_wp2
  go_ret
  exact ⟨ret_i64 (opF_1 x y).symm, rfl⟩

set_option maxHeartbeats 3200000 in
set_option maxRecDepth 100000 in
theorem spec_ApplyOp_2 (a b : Int) (w : World) :
    Calls Try.prog 40 #[.int .i64 2, .int .i64 a, .int .i64 b] w fun e w' => e = .returned (.int .i64 (apl 2 a b)) ∧ w = w' := by
  show Calls _ _ _ _ fun e w' => e = .returned (.int .i64 (opF 2 (coe a 1) (coe b 1))) ∧ w = w'
  have hx := coe_num a
  have hy := coe_num b
  obtain ⟨hx1, hx2⟩ := hx
  obtain ⟨hy1, hy2⟩ := hy
  have HA := Lib.hid (fun w => spec_Coerce a 1 w)
  have HBc := Lib.hid (fun w => spec_Coerce b 1 w)
  generalize coe a 1 = x at hx1 hx2 HA ⊢
  generalize coe b 1 = y at hy1 hy2 HBc ⊢
  go_enter Try.func40, Try.ntmps40
  go_wp2_with fail
  refine (spec_OperandTypes _ _).mono ?_
  rintro e w1 ⟨rfl, rfl⟩
  rw [show oL 2 = 1 from rfl, show oR 2 = 1 from rfl, show oO 2 = 1 from rfl]
  go_wp2_with fail
  refine (HA.out _).mono ?_
  rintro e w1 ⟨rfl, rfl⟩
  go_wp2_with fail
  refine (HBc.out _).mono ?_
  rintro e w1 ⟨rfl, rfl⟩
  go_wp2_with fail
  refine (spec_Saturate _ _).mono ?_
  rintro e w1 ⟨rfl, rfl⟩
  go_wp2
  go_ret
  exact ⟨ret_i64 (opF_2 x y).symm, rfl⟩

set_option maxHeartbeats 3200000 in
set_option maxRecDepth 100000 in
theorem spec_ApplyOp_3 (a b : Int) (w : World) :
    Calls Try.prog 40 #[.int .i64 3, .int .i64 a, .int .i64 b] w fun e w' => e = .returned (.int .i64 (apl 3 a b)) ∧ w = w' := by
  show Calls _ _ _ _ fun e w' => e = .returned (.int .i64 (opF 3 (coe a 1) (coe b 1))) ∧ w = w'
  have hx := coe_num a
  have hy := coe_num b
  obtain ⟨hx1, hx2⟩ := hx
  obtain ⟨hy1, hy2⟩ := hy
  have HA := Lib.hid (fun w => spec_Coerce a 1 w)
  have HBc := Lib.hid (fun w => spec_Coerce b 1 w)
  generalize coe a 1 = x at hx1 hx2 HA ⊢
  generalize coe b 1 = y at hy1 hy2 HBc ⊢
  obtain ⟨hm1, hm2⟩ := mul_small hx1 hx2 hy1 hy2
  go_enter Try.func40, Try.ntmps40
  go_wp2_with fail
  refine (spec_OperandTypes _ _).mono ?_
  rintro e w1 ⟨rfl, rfl⟩
  rw [show oL 3 = 1 from rfl, show oR 3 = 1 from rfl, show oO 3 = 1 from rfl]
  go_wp2_with fail
  refine (HA.out _).mono ?_
  rintro e w1 ⟨rfl, rfl⟩
  go_wp2_with fail
  refine (HBc.out _).mono ?_
  rintro e w1 ⟨rfl, rfl⟩
  go_wp2_with fail
  refine (spec_Saturate _ _).mono ?_
  rintro e w1 ⟨rfl, rfl⟩
  go_wp2
  go_ret
  exact ⟨ret_i64 (opF_3 x y).symm, rfl⟩

set_option maxHeartbeats 3200000 in
set_option maxRecDepth 100000 in
theorem spec_ApplyOp_4 (a b : Int) (w : World) :
    Calls Try.prog 40 #[.int .i64 4, .int .i64 a, .int .i64 b] w fun e w' => e = .returned (.int .i64 (apl 4 a b)) ∧ w = w' := by
  show Calls _ _ _ _ fun e w' => e = .returned (.int .i64 (opF 4 (coe a 1) (coe b 1))) ∧ w = w'
  have hx := coe_num a
  have hy := coe_num b
  obtain ⟨hx1, hx2⟩ := hx
  obtain ⟨hy1, hy2⟩ := hy
  have HA := Lib.hid (fun w => spec_Coerce a 1 w)
  have HBc := Lib.hid (fun w => spec_Coerce b 1 w)
  generalize coe a 1 = x at hx1 hx2 HA ⊢
  generalize coe b 1 = y at hy1 hy2 HBc ⊢
  go_enter Try.func40, Try.ntmps40
  go_wp2_with fail
  refine (spec_OperandTypes _ _).mono ?_
  rintro e w1 ⟨rfl, rfl⟩
  rw [show oL 4 = 1 from rfl, show oR 4 = 1 from rfl, show oO 4 = 1 from rfl]
  go_wp2_with fail
  refine (HA.out _).mono ?_
  rintro e w1 ⟨rfl, rfl⟩
  go_wp2_with fail
  refine (HBc.out _).mono ?_
  rintro e w1 ⟨rfl, rfl⟩
  go_wp2_with fail
  refine (spec_l1Max _ _ _).mono ?_
  rintro e w1 ⟨rfl, rfl⟩
  go_wp2
  go_ret
  exact ⟨ret_i64 (opF_4 x y).symm, rfl⟩

set_option maxHeartbeats 3200000 in
set_option maxRecDepth 100000 in
theorem spec_ApplyOp_5 (a b : Int) (w : World) :
    Calls Try.prog 40 #[.int .i64 5, .int .i64 a, .int .i64 b] w fun e w' => e = .returned (.int .i64 (apl 5 a b)) ∧ w = w' := by
  show Calls _ _ _ _ fun e w' => e = .returned (.int .i64 (opF 5 (coe a 1) (coe b 1))) ∧ w = w'
  have hx := coe_num a
  have hy := coe_num b
  obtain ⟨hx1, hx2⟩ := hx
  obtain ⟨hy1, hy2⟩ := hy
  have HA := Lib.hid (fun w => spec_Coerce a 1 w)
  have HBc := Lib.hid (fun w => spec_Coerce b 1 w)
  generalize coe a 1 = x at hx1 hx2 HA ⊢
  generalize coe b 1 = y at hy1 hy2 HBc ⊢
  go_enter Try.func40, Try.ntmps40
  go_wp2_with fail
  refine (spec_OperandTypes _ _).mono ?_
  rintro e w1 ⟨rfl, rfl⟩
  rw [show oL 5 = 1 from rfl, show oR 5 = 1 from rfl, show oO 5 = 1 from rfl]
  go_wp2_with fail
  refine (HA.out _).mono ?_
  rintro e w1 ⟨rfl, rfl⟩
  go_wp2_with fail
  refine (HBc.out _).mono ?_
  rintro e w1 ⟨rfl, rfl⟩
  go_wp2_with fail
  refine (spec_l1Min _ _ _).mono ?_
  rintro e w1 ⟨rfl, rfl⟩
  go_wp2
  go_ret
  exact ⟨ret_i64 (opF_5 x y).symm, rfl⟩

set_option maxHeartbeats 3200000 in
set_option maxRecDepth 100000 in
theorem spec_ApplyOp_6 (a b : Int) (w : World) :
    Calls Try.prog 40 #[.int .i64 6, .int .i64 a, .int .i64 b] w fun e w' => e = .returned (.int .i64 (apl 6 a b)) ∧ w = w' := by
  show Calls _ _ _ _ fun e w' => e = .returned (.int .i64 (opF 6 (coe a 2) (coe b 2))) ∧ w = w'
  have hx := coe_set a
  have hy := coe_set b
  obtain ⟨hx1, hx2⟩ := hx
  obtain ⟨hy1, hy2⟩ := hy
  have HA := Lib.hid (fun w => spec_Coerce a 2 w)
  have HBc := Lib.hid (fun w => spec_Coerce b 2 w)
  generalize coe a 2 = x at hx1 hx2 HA ⊢
  generalize coe b 2 = y at hy1 hy2 HBc ⊢
  go_enter Try.func40, Try.ntmps40
  go_wp2_with fail
  refine (spec_OperandTypes _ _).mono ?_
  rintro e w1 ⟨rfl, rfl⟩
  rw [show oL 6 = 2 from rfl, show oR 6 = 2 from rfl, show oO 6 = 2 from rfl]
  go_wp2_with fail
  refine (HA.out _).mono ?_
  rintro e w1 ⟨rfl, rfl⟩
  go_wp2_with fail
  refine (HBc.out _).mono ?_
  rintro e w1 ⟨rfl, rfl⟩
  go_wp2
  go_ret
  exact ⟨ret_i64 (opF_6 x y).symm, rfl⟩

set_option maxHeartbeats 3200000 in
set_option maxRecDepth 100000 in
theorem spec_ApplyOp_7 (a b : Int) (w : World) :
    Calls Try.prog 40 #[.int .i64 7, .int .i64 a, .int .i64 b] w fun e w' => e = .returned (.int .i64 (apl 7 a b)) ∧ w = w' := by
  show Calls _ _ _ _ fun e w' => e = .returned (.int .i64 (opF 7 (coe a 2) (coe b 2))) ∧ w = w'
  have hx := coe_set a
  have hy := coe_set b
  obtain ⟨hx1, hx2⟩ := hx
  obtain ⟨hy1, hy2⟩ := hy
  have HA := Lib.hid (fun w => spec_Coerce a 2 w)
  have HBc := Lib.hid (fun w => spec_Coerce b 2 w)
  generalize coe a 2 = x at hx1 hx2 HA ⊢
  generalize coe b 2 = y at hy1 hy2 HBc ⊢
  go_enter Try.func40, Try.ntmps40
  go_wp2_with fail
  refine (spec_OperandTypes _ _).mono ?_
  rintro e w1 ⟨rfl, rfl⟩
  rw [show oL 7 = 2 from rfl, show oR 7 = 2 from rfl, show oO 7 = 2 from rfl]
  go_wp2_with fail
  refine (HA.out _).mono ?_
  rintro e w1 ⟨rfl, rfl⟩
  go_wp2_with fail
  refine (HBc.out _).mono ?_
  rintro e w1 ⟨rfl, rfl⟩
  go_wp2
  go_ret
  exact ⟨ret_i64 (opF_7 x y).symm, rfl⟩

set_option maxHeartbeats 3200000 in
set_option maxRecDepth 100000 in
theorem spec_ApplyOp_8 (a b : Int) (w : World) :
    Calls Try.prog 40 #[.int .i64 8, .int .i64 a, .int .i64 b] w fun e w' => e = .returned (.int .i64 (apl 8 a b)) ∧ w = w' := by
  show Calls _ _ _ _ fun e w' => e = .returned (.int .i64 (opF 8 (coe a 2) (coe b 2))) ∧ w = w'
  have hx := coe_set a
  have hy := coe_set b
  obtain ⟨hx1, hx2⟩ := hx
  obtain ⟨hy1, hy2⟩ := hy
  have HA := Lib.hid (fun w => spec_Coerce a 2 w)
  have HBc := Lib.hid (fun w => spec_Coerce b 2 w)
  generalize coe a 2 = x at hx1 hx2 HA ⊢
  generalize coe b 2 = y at hy1 hy2 HBc ⊢
  go_enter Try.func40, Try.ntmps40
  go_wp2_with fail
  refine (spec_OperandTypes _ _).mono ?_
  rintro e w1 ⟨rfl, rfl⟩
  rw [show oL 8 = 2 from rfl, show oR 8 = 2 from rfl, show oO 8 = 2 from rfl]
  go_wp2_with fail
  refine (HA.out _).mono ?_
  rintro e w1 ⟨rfl, rfl⟩
  go_wp2_with fail
  refine (HBc.out _).mono ?_
  rintro e w1 ⟨rfl, rfl⟩
  go_wp2
  go_ret
  exact ⟨ret_i64 (opF_8 x y).symm, rfl⟩

set_option maxHeartbeats 3200000 in
set_option maxRecDepth 100000 in
theorem spec_ApplyOp_9 (a b : Int) (w : World) :
    Calls Try.prog 40 #[.int .i64 9, .int .i64 a, .int .i64 b] w fun e w' => e = .returned (.int .i64 (apl 9 a b)) ∧ w = w' := by
  show Calls _ _ _ _ fun e w' => e = .returned (.int .i64 (opF 9 (coe a 1) (coe b 1))) ∧ w = w'
  have hx := coe_num a
  have hy := coe_num b
  obtain ⟨hx1, hx2⟩ := hx
  obtain ⟨hy1, hy2⟩ := hy
  have HA := Lib.hid (fun w => spec_Coerce a 1 w)
  have HBc := Lib.hid (fun w => spec_Coerce b 1 w)
  generalize coe a 1 = x at hx1 hx2 HA ⊢
  generalize coe b 1 = y at hy1 hy2 HBc ⊢
  go_enter Try.func40, Try.ntmps40
  go_wp2_with fail
  refine (spec_OperandTypes _ _).mono ?_
  rintro e w1 ⟨rfl, rfl⟩
  rw [show oL 9 = 1 from rfl, show oR 9 = 1 from rfl, show oO 9 = 3 from rfl]
  go_wp2_with fail
  refine (HA.out _).mono ?_
  rintro e w1 ⟨rfl, rfl⟩
  go_wp2_with fail
  refine (HBc.out _).mono ?_
  rintro e w1 ⟨rfl, rfl⟩
  by_cases hlt : x < y
  all_goals
    go_wp2_with fail
    refine (spec_l3Truth _ _).mono ?_
    rintro e w1 ⟨rfl, rfl⟩
    go_wp2
    go_ret
    exact ⟨ret_i64 (by rw [opF_9] <;> first | rw [decide_eq_true hlt] | rw [decide_eq_false hlt] | rw [decide_eq_false (by omega)]), rfl⟩

set_option maxHeartbeats 3200000 in
set_option maxRecDepth 100000 in
theorem spec_ApplyOp_10 (a b : Int) (w : World) :
    Calls Try.prog 40 #[.int .i64 10, .int .i64 a, .int .i64 b] w fun e w' => e = .returned (.int .i64 (apl 10 a b)) ∧ w = w' := by
  show Calls _ _ _ _ fun e w' => e = .returned (.int .i64 (opF 10 (coe a 1) (coe b 1))) ∧ w = w'
  have hx := coe_num a
  have hy := coe_num b
  obtain ⟨hx1, hx2⟩ := hx
  obtain ⟨hy1, hy2⟩ := hy
  have HA := Lib.hid (fun w => spec_Coerce a 1 w)
  have HBc := Lib.hid (fun w => spec_Coerce b 1 w)
  generalize coe a 1 = x at hx1 hx2 HA ⊢
  generalize coe b 1 = y at hy1 hy2 HBc ⊢
  go_enter Try.func40, Try.ntmps40
  go_wp2_with fail
  refine (spec_OperandTypes _ _).mono ?_
  rintro e w1 ⟨rfl, rfl⟩
  rw [show oL 10 = 1 from rfl, show oR 10 = 1 from rfl, show oO 10 = 3 from rfl]
  go_wp2_with fail
  refine (HA.out _).mono ?_
  rintro e w1 ⟨rfl, rfl⟩
  go_wp2_with fail
  refine (HBc.out _).mono ?_
  rintro e w1 ⟨rfl, rfl⟩
  go_wp2_with fail
  refine (spec_l3Truth _ _).mono ?_
  rintro e w1 ⟨rfl, rfl⟩
  go_wp2
  go_ret
  exact ⟨ret_i64 (opF_10 x y).symm, rfl⟩

set_option maxHeartbeats 3200000 in
set_option maxRecDepth 100000 in
theorem spec_ApplyOp_11 (a b : Int) (w : World) :
    Calls Try.prog 40 #[.int .i64 11, .int .i64 a, .int .i64 b] w fun e w' => e = .returned (.int .i64 (apl 11 a b)) ∧ w = w' := by
  show Calls _ _ _ _ fun e w' => e = .returned (.int .i64 (opF 11 (coe a 2) (coe b 1))) ∧ w = w'
  have hx := coe_set a
  have hy := coe_num b
  obtain ⟨hx1, hx2⟩ := hx
  obtain ⟨hy1, hy2⟩ := hy
  have HA := Lib.hid (fun w => spec_Coerce a 2 w)
  have HBc := Lib.hid (fun w => spec_Coerce b 1 w)
  generalize coe a 2 = x at hx1 hx2 HA ⊢
  generalize coe b 1 = y at hy1 hy2 HBc ⊢
  go_enter Try.func40, Try.ntmps40
  go_wp2_with fail
  refine (spec_OperandTypes _ _).mono ?_
  rintro e w1 ⟨rfl, rfl⟩
  rw [show oL 11 = 2 from rfl, show oR 11 = 1 from rfl, show oO 11 = 3 from rfl]
  go_wp2_with fail
  refine (HA.out _).mono ?_
  rintro e w1 ⟨rfl, rfl⟩
  go_wp2_with fail
  refine (HBc.out _).mono ?_
  rintro e w1 ⟨rfl, rfl⟩
  cases hn : inR y 0 11
  · have fin := Lib.hid (hasB_no (a := x) hn)
    have HN := Lib.hid hn
    clear hn
    go_wp2_with fail
    refine (spec_l1In _ _ _ _).mono ?_
    rintro e w1 ⟨rfl, rfl⟩
    have hn := HN.out
    go_wp2_with fail
    refine (spec_l3Truth _ _).mono ?_
    rintro e w1 ⟨rfl, rfl⟩
    go_wp2
    go_ret
    exact ⟨ret_i64 (by rw [opF_11, fin.out]), rfl⟩
  · have fin := Lib.hid (hasB_yes (a := x) hn)
    obtain ⟨h0, h1⟩ := inR_iff.1 hn
    have HN := Lib.hid hn
    clear hn
    have hmx : mx y 0 = y := mx_ge h0
    have HMX := Lib.hid hmx
    clear hmx
    go_wp2_with fail
    refine (spec_l1In _ _ _ _).mono ?_
    rintro e w1 ⟨rfl, rfl⟩
    have hn := HN.out
    go_wp2_with fail
    refine (spec_l1Max _ _ _).mono ?_
    rintro e w1 ⟨rfl, rfl⟩
    rw [HMX.out]
    go_wp2_with fail
    refine (spec_l3Truth _ _).mono ?_
    rintro e w1 ⟨rfl, rfl⟩
    go_wp2
    go_ret
    exact ⟨ret_i64 (by rw [opF_11, fin.out]), rfl⟩

set_option maxHeartbeats 3200000 in
set_option maxRecDepth 100000 in
theorem spec_ApplyOp_12 (a b : Int) (w : World) :
    Calls Try.prog 40 #[.int .i64 12, .int .i64 a, .int .i64 b] w fun e w' => e = .returned (.int .i64 (apl 12 a b)) ∧ w = w' := by
  show Calls _ _ _ _ fun e w' => e = .returned (.int .i64 (opF 12 (coe a 2) (coe b 1))) ∧ w = w'
  have hx := coe_set a
  have hy := coe_num b
  obtain ⟨hx1, hx2⟩ := hx
  obtain ⟨hy1, hy2⟩ := hy
  have HA := Lib.hid (fun w => spec_Coerce a 2 w)
  have HBc := Lib.hid (fun w => spec_Coerce b 1 w)
  generalize coe a 2 = x at hx1 hx2 HA ⊢
  generalize coe b 1 = y at hy1 hy2 HBc ⊢
  go_enter Try.func40, Try.ntmps40
  go_wp2_with fail
  refine (spec_OperandTypes _ _).mono ?_
  rintro e w1 ⟨rfl, rfl⟩
  rw [show oL 12 = 2 from rfl, show oR 12 = 1 from rfl, show oO 12 = 2 from rfl]
  go_wp2_with fail
  refine (HA.out _).mono ?_
  rintro e w1 ⟨rfl, rfl⟩
  go_wp2_with fail
  refine (HBc.out _).mono ?_
  rintro e w1 ⟨rfl, rfl⟩
  cases hn : inR y 0 11
  · have fin := Lib.hid (withV_no (a := x) hn)
    have HN := Lib.hid hn
    clear hn
    go_wp2_with fail
    refine (spec_l1In _ _ _ _).mono ?_
    rintro e w1 ⟨rfl, rfl⟩
    have hn := HN.out
    go_wp2
    go_ret
    exact ⟨ret_i64 (by rw [opF_12, fin.out]), rfl⟩
  · have fin := Lib.hid (withV_yes (a := x) hn)
    obtain ⟨h0, h1⟩ := inR_iff.1 hn
    have HN := Lib.hid hn
    clear hn
    go_wp2_with fail
    refine (spec_l1In _ _ _ _).mono ?_
    rintro e w1 ⟨rfl, rfl⟩
    have hn := HN.out
    go_wp2
    go_ret
    exact ⟨ret_i64 (by rw [opF_12, fin.out]), rfl⟩

theorem spec_ApplyOp (k a b : Int) (w : World) :
    Calls Try.prog 40 #[.int .i64 k, .int .i64 a, .int .i64 b] w fun e w' => e = .returned (.int .i64 (apl k a b)) ∧ w = w' := by
  rcases twelve (k := k) with h | rfl | rfl | rfl | rfl | rfl | rfl | rfl | rfl | rfl | rfl | rfl | rfl
  · exact spec_ApplyOp_no k a b h w
  · exact spec_ApplyOp_1 a b w
  · exact spec_ApplyOp_2 a b w
  · exact spec_ApplyOp_3 a b w
  · exact spec_ApplyOp_4 a b w
  · exact spec_ApplyOp_5 a b w
  · exact spec_ApplyOp_6 a b w
  · exact spec_ApplyOp_7 a b w
  · exact spec_ApplyOp_8 a b w
  · exact spec_ApplyOp_9 a b w
  · exact spec_ApplyOp_10 a b w
  · exact spec_ApplyOp_11 a b w
  · exact spec_ApplyOp_12 a b w
end Go.Proofs.Ythpnghbhfbiljaa
