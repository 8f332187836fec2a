/-
  Chapter 3: OperandTypes and ApplyOp, in the program and in the model.
-/
import Derived.Test.YtpipdlgnedhhaaaOpF
import Derived.Deep.QuietTactic
import Derived.Deep.RegionWith
import Derived.BigQuiet
import Derived.Laws.EntriesVeiled
namespace Go.Proofs.Ytpipdlgnedhhaaa
open Go.ChangeShapes Go.WideShapes Go.ChangeAt Go.RowKit

theorem mx_ge {y : Int} (h : 0 ≤ y) : mx y 0 = y := by unfold mx; split <;> omega
theorem below_setRow {B : Nat} {a w : World} (h : Below B a w) {g : Nat} (hg : B ≤ g) (cs : Array Value) : Below B a (w.setRow g cs) :=
  ⟨h.os, h.tape, h.output, by have := h.size; simp [World.setRow]; omega, fun k hk => (setRow_other w g k cs (by omega)).trans (h.block k hk)⟩

/-- The types of an operator's operands and of its result. -/
def oL (k : Int) : Int := if 1 ≤ k ∧ k ≤ 12 then (if (6 ≤ k ∧ k ≤ 8) ∨ 11 ≤ k then 2 else 1) else 0
def oR (k : Int) : Int := if 1 ≤ k ∧ k ≤ 12 then (if 6 ≤ k ∧ k ≤ 8 then 2 else 1) else 0
def oO (k : Int) : Int := if 1 ≤ k ∧ k ≤ 12 then (if (6 ≤ k ∧ k ≤ 8) ∨ 12 ≤ k then 2 else if 9 ≤ k then 3 else 1) else 0
theorem oL_no {k : Int} (h : k < 1 ∨ 12 < k) : oL k = 0 := by unfold oL; rw [if_neg (by omega)]
theorem oR_no {k : Int} (h : k < 1 ∨ 12 < k) : oR k = 0 := by unfold oR; rw [if_neg (by omega)]
theorem oO_no {k : Int} (h : k < 1 ∨ 12 < k) : oO k = 0 := by unfold oO; rw [if_neg (by omega)]
theorem twelve {k : Int} : (k < 1 ∨ 12 < k) ∨ k = 1 ∨ k = 2 ∨ k = 3 ∨ k = 4 ∨ k = 5 ∨ k = 6 ∨ k = 7 ∨ k = 8 ∨ k = 9 ∨ k = 10 ∨ k = 11 ∨ k = 12 := by omega
/-- ApplyOp. -/
def apl (k a b : Int) : Int := opF k (coe a (oL k)) (coe b (oR k))
theorem opF_no {k : Int} (h : k < 1 ∨ 12 < k) (x y : Int) : opF k x y = 0 := by
  unfold opF
  rw [if_neg (by omega), if_neg (by omega), if_neg (by omega), if_neg (by omega), if_neg (by omega), if_neg (by omega), if_neg (by omega), if_neg (by omega), if_neg (by omega), if_neg (by omega), if_neg (by omega), if_neg (by omega)]
theorem apl_no {k : Int} (h : k < 1 ∨ 12 < k) (a b : Int) : apl k a b = 0 := opF_no h _ _

set_option maxHeartbeats 800000 in
set_option maxRecDepth 100000 in
theorem impl_operatorOf_no (k : Int) (hk : k < 1 ∨ 12 < k) (w : World) :
    Calls Try.prog 81 #[.int .i64 k] w fun e w' => e = .returned (.agg #[.int .i64 0, .int .i64 0, .int .i64 0, .nilFunc]) ∧ Below w.heap.size w w' := by
  rcases (by omega : k < 1 ∨ (1 ≤ k ∧ 12 < k)) with h | ⟨h, h'⟩
  all_goals
    clear hk
    go_enter Try.func81, Try.ntmps81
    go_wp2_with (first
      | (refine wpList_buildTo rfl 146 _ rfl (some 9) rfl #[.int .i64 0, .int .i64 0, .int .i64 0, .nilFunc] (by kernel_rfl) ?_)
      | (refine wpList_store_rowTo rfl 146 (.tmp 2) (.tmp 9) rfl rfl w.heap.size #[.int .i64 0, .int .i64 0, .int .i64 0, .nilFunc] rfl rfl 146 _ (heap_alloc_last w _) (by kernel_rfl) (by kernel_rfl) (by kernel_rfl) ?_; rw [World.setRow_alloc_new]))
    exact bodyPost_ret (v := .agg #[.int .i64 0, .int .i64 0, .int .i64 0, .nilFunc]) (results_cell_row rfl _ _ w.heap.size 146 #[.int .i64 0, .int .i64 0, .int .i64 0, .nilFunc] (0, 0) _ rfl (heap_alloc_last w _) Try.underlying146 rfl (by kernel_rfl)) rfl ⟨rfl, (Below.refl _ _).alloc (Nat.le_refl _) _⟩

set_option maxHeartbeats 800000 in
set_option maxRecDepth 100000 in
theorem impl_operatorOf_in (k : Int) (h1 : 1 ≤ k) (h12 : k ≤ 12) (cs : Array Value) (hcs : cs.size = 4) (hone : cs.all (·.oneCell') = true) (hidx : ∀ w, (Instr.index 156 (.agg opsArr) (.int .i64 k)).run Try.prog w = .ok (.agg cs) w) (w : World) :
    Calls Try.prog 81 #[.int .i64 k] w fun e w' => e = .returned (.agg cs) ∧ Below w.heap.size w w' := by
  have hsz : (Try.prog.info? 146).map (·.size) = some cs.size := by rw [hcs]; kernel_rfl
  have HSZ := Lib.hid hsz
  have HCS := Lib.hid hcs
  have HONE := Lib.hid hone
  clear hsz hcs hone
  go_enter Try.func81, Try.ntmps81
  go_wp2_with fail
  refine (impl_operators _).mono ?_
  rintro e w1 ⟨rfl, hb⟩
  have hg : w1.heap[w.heap.size]? = some (.cells #[.int .i64 0, .int .i64 0, .int .i64 0, .nilFunc] 146 (0, 0)) := (hb.block w.heap.size (by simp)).trans (heap_alloc_last w _)
  have HB := Lib.hid (((Below.refl w.heap.size w).alloc (Nat.le_refl _) _).trans (hb.mono (by simp)))
  have HG := Lib.hid hg
  clear hb hg
  go_wp2_with (refine wpList_store_rowTo rfl 146 (.tmp 2) (.tmp 12) rfl rfl w.heap.size cs rfl rfl 146 _ HG.out HSZ.out HCS.out.symm HONE.out ?_)
  exact bodyPost_ret (v := .agg cs) (results_cell_row rfl _ _ w.heap.size 146 cs (0, 0) _ rfl (setRow_heap _ _ _ _ _ _ HG.out) Try.underlying146 rfl HSZ.out) rfl ⟨rfl, below_setRow HB.out (Nat.le_refl _) cs⟩

theorem impl_operatorOf_1 (w : World) :
    Calls Try.prog 81 #[.int .i64 1] w fun e w' => e = .returned (.agg #[.int .i64 1, .int .i64 1, .int .i64 1, .func (.func 86) #[] #[]]) ∧ Below w.heap.size w w' :=
  impl_operatorOf_in 1 (by decide) (by decide) _ rfl (by kernel_rfl) (fun w => by kernel_rfl) w

theorem impl_operatorOf_2 (w : World) :
    Calls Try.prog 81 #[.int .i64 2] w fun e w' => e = .returned (.agg #[.int .i64 1, .int .i64 1, .int .i64 1, .func (.func 88) #[] #[]]) ∧ Below w.heap.size w w' :=
  impl_operatorOf_in 2 (by decide) (by decide) _ rfl (by kernel_rfl) (fun w => by kernel_rfl) w

theorem impl_operatorOf_3 (w : World) :
    Calls Try.prog 81 #[.int .i64 3] w fun e w' => e = .returned (.agg #[.int .i64 1, .int .i64 1, .int .i64 1, .func (.func 89) #[] #[]]) ∧ Below w.heap.size w w' :=
  impl_operatorOf_in 3 (by decide) (by decide) _ rfl (by kernel_rfl) (fun w => by kernel_rfl) w

theorem impl_operatorOf_4 (w : World) :
    Calls Try.prog 81 #[.int .i64 4] w fun e w' => e = .returned (.agg #[.int .i64 1, .int .i64 1, .int .i64 1, .func (.func 90) #[] #[]]) ∧ Below w.heap.size w w' :=
  impl_operatorOf_in 4 (by decide) (by decide) _ rfl (by kernel_rfl) (fun w => by kernel_rfl) w

theorem impl_operatorOf_5 (w : World) :
    Calls Try.prog 81 #[.int .i64 5] w fun e w' => e = .returned (.agg #[.int .i64 1, .int .i64 1, .int .i64 1, .func (.func 91) #[] #[]]) ∧ Below w.heap.size w w' :=
  impl_operatorOf_in 5 (by decide) (by decide) _ rfl (by kernel_rfl) (fun w => by kernel_rfl) w

theorem impl_operatorOf_6 (w : World) :
    Calls Try.prog 81 #[.int .i64 6] w fun e w' => e = .returned (.agg #[.int .i64 2, .int .i64 2, .int .i64 2, .func (.func 92) #[] #[]]) ∧ Below w.heap.size w w' :=
  impl_operatorOf_in 6 (by decide) (by decide) _ rfl (by kernel_rfl) (fun w => by kernel_rfl) w

theorem impl_operatorOf_7 (w : World) :
    Calls Try.prog 81 #[.int .i64 7] w fun e w' => e = .returned (.agg #[.int .i64 2, .int .i64 2, .int .i64 2, .func (.func 93) #[] #[]]) ∧ Below w.heap.size w w' :=
  impl_operatorOf_in 7 (by decide) (by decide) _ rfl (by kernel_rfl) (fun w => by kernel_rfl) w

theorem impl_operatorOf_8 (w : World) :
    Calls Try.prog 81 #[.int .i64 8] w fun e w' => e = .returned (.agg #[.int .i64 2, .int .i64 2, .int .i64 2, .func (.func 94) #[] #[]]) ∧ Below w.heap.size w w' :=
  impl_operatorOf_in 8 (by decide) (by decide) _ rfl (by kernel_rfl) (fun w => by kernel_rfl) w

theorem impl_operatorOf_9 (w : World) :
    Calls Try.prog 81 #[.int .i64 9] w fun e w' => e = .returned (.agg #[.int .i64 1, .int .i64 1, .int .i64 3, .func (.func 95) #[] #[]]) ∧ Below w.heap.size w w' :=
  impl_operatorOf_in 9 (by decide) (by decide) _ rfl (by kernel_rfl) (fun w => by kernel_rfl) w

theorem impl_operatorOf_10 (w : World) :
    Calls Try.prog 81 #[.int .i64 10] w fun e w' => e = .returned (.agg #[.int .i64 1, .int .i64 1, .int .i64 3, .func (.func 97) #[] #[]]) ∧ Below w.heap.size w w' :=
  impl_operatorOf_in 10 (by decide) (by decide) _ rfl (by kernel_rfl) (fun w => by kernel_rfl) w

theorem impl_operatorOf_11 (w : World) :
    Calls Try.prog 81 #[.int .i64 11] w fun e w' => e = .returned (.agg #[.int .i64 2, .int .i64 1, .int .i64 3, .func (.func 98) #[] #[]]) ∧ Below w.heap.size w w' :=
  impl_operatorOf_in 11 (by decide) (by decide) _ rfl (by kernel_rfl) (fun w => by kernel_rfl) w

theorem impl_operatorOf_12 (w : World) :
    Calls Try.prog 81 #[.int .i64 12] w fun e w' => e = .returned (.agg #[.int .i64 2, .int .i64 1, .int .i64 2, .func (.func 100) #[] #[]]) ∧ Below w.heap.size w w' :=
  impl_operatorOf_in 12 (by decide) (by decide) _ rfl (by kernel_rfl) (fun w => by kernel_rfl) w

set_option maxHeartbeats 800000 in
set_option maxRecDepth 100000 in
/-- One operator, known by its record. -/
theorem impl_OperandTypes_of (k l r o : Int) (fv : Value) (hfv : fv = .nilFunc ∨ ∃ f, fv = .func (.func f) #[] #[]) (w : World) (hC : Calls Try.prog 81 #[.int .i64 k] w fun e w' => e = .returned (.agg #[.int .i64 l, .int .i64 r, .int .i64 o, fv]) ∧ Below w.heap.size w w') :
    Calls Try.prog 70 #[.int .i64 k] w fun e w' => e = .returned (.tuple #[.int .i64 l, .int .i64 r, .int .i64 o]) ∧ Below w.heap.size w w' := by
  have HC := Lib.hid hC
  clear hC
  rcases hfv with rfl | ⟨f, rfl⟩
  all_goals
    go_enter Try.func70, Try.ntmps70
    go_wp2_with fail
    refine HC.out.mono ?_
    rintro e w1 ⟨rfl, hb⟩
    have HB := Lib.hid hb
    clear hb
    go_wp2
    go_quiet (fail)
    go_wp2
    go_ret3
    exact ⟨rfl, by
      refine below_drewN ?_ _
      repeat (first | exact HB.out.alloc HB.out.size _ | refine Below.setCell ?_ HB.out.size _)⟩

theorem impl_OperandTypes (k : Int) (w : World) :
    Calls Try.prog 70 #[.int .i64 k] w fun e w' => e = .returned (.tuple #[.int .i64 (oL k), .int .i64 (oR k), .int .i64 (oO k)]) ∧ Below w.heap.size w w' := by
  rcases twelve (k := k) with h | rfl | rfl | rfl | rfl | rfl | rfl | rfl | rfl | rfl | rfl | rfl | rfl
  · rw [oL_no h, oR_no h, oO_no h]
    exact impl_OperandTypes_of k 0 0 0 _ (Or.inl rfl) w (impl_operatorOf_no k h w)
  · exact impl_OperandTypes_of 1 _ _ _ _ (Or.inr ⟨_, rfl⟩) w (impl_operatorOf_1 w)
  · exact impl_OperandTypes_of 2 _ _ _ _ (Or.inr ⟨_, rfl⟩) w (impl_operatorOf_2 w)
  · exact impl_OperandTypes_of 3 _ _ _ _ (Or.inr ⟨_, rfl⟩) w (impl_operatorOf_3 w)
  · exact impl_OperandTypes_of 4 _ _ _ _ (Or.inr ⟨_, rfl⟩) w (impl_operatorOf_4 w)
  · exact impl_OperandTypes_of 5 _ _ _ _ (Or.inr ⟨_, rfl⟩) w (impl_operatorOf_5 w)
  · exact impl_OperandTypes_of 6 _ _ _ _ (Or.inr ⟨_, rfl⟩) w (impl_operatorOf_6 w)
  · exact impl_OperandTypes_of 7 _ _ _ _ (Or.inr ⟨_, rfl⟩) w (impl_operatorOf_7 w)
  · exact impl_OperandTypes_of 8 _ _ _ _ (Or.inr ⟨_, rfl⟩) w (impl_operatorOf_8 w)
  · exact impl_OperandTypes_of 9 _ _ _ _ (Or.inr ⟨_, rfl⟩) w (impl_operatorOf_9 w)
  · exact impl_OperandTypes_of 10 _ _ _ _ (Or.inr ⟨_, rfl⟩) w (impl_operatorOf_10 w)
  · exact impl_OperandTypes_of 11 _ _ _ _ (Or.inr ⟨_, rfl⟩) w (impl_operatorOf_11 w)
  · exact impl_OperandTypes_of 12 _ _ _ _ (Or.inr ⟨_, rfl⟩) w (impl_operatorOf_12 w)

set_option maxHeartbeats 1600000 in
set_option maxRecDepth 100000 in
theorem spec_OperandTypes (k : Int) (w : World) :
    Calls Try.prog 46 #[.int .i64 k] w fun e w' => e = .returned (.tuple #[.int .i64 (oL k), .int .i64 (oR k), .int .i64 (oO k)]) ∧ w = w' := by
  rcases twelve (k := k) with h | rfl | rfl | rfl | rfl | rfl | rfl | rfl | rfl | rfl | rfl | rfl | rfl
  · have hF : Hid (oL k = 0 ∧ oR k = 0 ∧ oO k = 0) := ⟨oL_no h, oR_no h, oO_no h⟩
    have t1 : inR k 1 5 = false := inR_no (by omega)
    have t2 : inR k 6 8 = false := inR_no (by omega)
    have e1 : (k == 9) = false := beq_eq_false_iff_ne.2 (by omega)
    have e2 : (k == 10) = false := beq_eq_false_iff_ne.2 (by omega)
    have e3 : (k == 11) = false := beq_eq_false_iff_ne.2 (by omega)
    have e4 : (k == 12) = false := beq_eq_false_iff_ne.2 (by omega)
    clear h
    go_enter Try.func46, Try.ntmps46
    go_wp2_with fail
    refine (spec_l1In _ _ _ _).mono ?_
    rintro e w1 ⟨rfl, rfl⟩
    go_wp2_with fail
    refine (spec_l1In _ _ _ _).mono ?_
    rintro e w1 ⟨rfl, rfl⟩
    go_wp2
    go_ret3
    exact ⟨by rw [hF.out.1, hF.out.2.1, hF.out.2.2]; rfl, rfl⟩
  · have t1 : inR 1 1 5 = true := rfl
    go_enter Try.func46, Try.ntmps46
    go_wp2_with fail
    refine (spec_l1In _ _ _ _).mono ?_
    rintro e w1 ⟨rfl, rfl⟩
    go_wp2
    go_ret3
    exact ⟨rfl, rfl⟩
  · have t1 : inR 2 1 5 = true := rfl
    go_enter Try.func46, Try.ntmps46
    go_wp2_with fail
    refine (spec_l1In _ _ _ _).mono ?_
    rintro e w1 ⟨rfl, rfl⟩
    go_wp2
    go_ret3
    exact ⟨rfl, rfl⟩
  · have t1 : inR 3 1 5 = true := rfl
    go_enter Try.func46, Try.ntmps46
    go_wp2_with fail
    refine (spec_l1In _ _ _ _).mono ?_
    rintro e w1 ⟨rfl, rfl⟩
    go_wp2
    go_ret3
    exact ⟨rfl, rfl⟩
  · have t1 : inR 4 1 5 = true := rfl
    go_enter Try.func46, Try.ntmps46
    go_wp2_with fail
    refine (spec_l1In _ _ _ _).mono ?_
    rintro e w1 ⟨rfl, rfl⟩
    go_wp2
    go_ret3
    exact ⟨rfl, rfl⟩
  · have t1 : inR 5 1 5 = true := rfl
    go_enter Try.func46, Try.ntmps46
    go_wp2_with fail
    refine (spec_l1In _ _ _ _).mono ?_
    rintro e w1 ⟨rfl, rfl⟩
    go_wp2
    go_ret3
    exact ⟨rfl, rfl⟩
  · have t1 : inR 6 1 5 = false := rfl
    have t2 : inR 6 6 8 = true := rfl
    go_enter Try.func46, Try.ntmps46
    go_wp2_with fail
    refine (spec_l1In _ _ _ _).mono ?_
    rintro e w1 ⟨rfl, rfl⟩
    go_wp2_with fail
    refine (spec_l1In _ _ _ _).mono ?_
    rintro e w1 ⟨rfl, rfl⟩
    go_wp2
    go_ret3
    exact ⟨rfl, rfl⟩
  · have t1 : inR 7 1 5 = false := rfl
    have t2 : inR 7 6 8 = true := rfl
    go_enter Try.func46, Try.ntmps46
    go_wp2_with fail
    refine (spec_l1In _ _ _ _).mono ?_
    rintro e w1 ⟨rfl, rfl⟩
    go_wp2_with fail
    refine (spec_l1In _ _ _ _).mono ?_
    rintro e w1 ⟨rfl, rfl⟩
    go_wp2
    go_ret3
    exact ⟨rfl, rfl⟩
  · have t1 : inR 8 1 5 = false := rfl
    have t2 : inR 8 6 8 = true := rfl
    go_enter Try.func46, Try.ntmps46
    go_wp2_with fail
    refine (spec_l1In _ _ _ _).mono ?_
    rintro e w1 ⟨rfl, rfl⟩
    go_wp2_with fail
    refine (spec_l1In _ _ _ _).mono ?_
    rintro e w1 ⟨rfl, rfl⟩
    go_wp2
    go_ret3
    exact ⟨rfl, rfl⟩
  · have t1 : inR 9 1 5 = false := rfl
    have t2 : inR 9 6 8 = false := rfl
    go_enter Try.func46, Try.ntmps46
    go_wp2_with fail
    refine (spec_l1In _ _ _ _).mono ?_
    rintro e w1 ⟨rfl, rfl⟩
    go_wp2_with fail
    refine (spec_l1In _ _ _ _).mono ?_
    rintro e w1 ⟨rfl, rfl⟩
    go_wp2
    go_ret3
    exact ⟨rfl, rfl⟩
  · have t1 : inR 10 1 5 = false := rfl
    have t2 : inR 10 6 8 = false := rfl
    go_enter Try.func46, Try.ntmps46
    go_wp2_with fail
    refine (spec_l1In _ _ _ _).mono ?_
    rintro e w1 ⟨rfl, rfl⟩
    go_wp2_with fail
    refine (spec_l1In _ _ _ _).mono ?_
    rintro e w1 ⟨rfl, rfl⟩
    go_wp2
    go_ret3
    exact ⟨rfl, rfl⟩
  · have t1 : inR 11 1 5 = false := rfl
    have t2 : inR 11 6 8 = false := rfl
    go_enter Try.func46, Try.ntmps46
    go_wp2_with fail
    refine (spec_l1In _ _ _ _).mono ?_
    rintro e w1 ⟨rfl, rfl⟩
    go_wp2_with fail
    refine (spec_l1In _ _ _ _).mono ?_
    rintro e w1 ⟨rfl, rfl⟩
    go_wp2
    go_ret3
    exact ⟨rfl, rfl⟩
  · have t1 : inR 12 1 5 = false := rfl
    have t2 : inR 12 6 8 = false := rfl
    go_enter Try.func46, Try.ntmps46
    go_wp2_with fail
    refine (spec_l1In _ _ _ _).mono ?_
    rintro e w1 ⟨rfl, rfl⟩
    go_wp2_with fail
    refine (spec_l1In _ _ _ _).mono ?_
    rintro e w1 ⟨rfl, rfl⟩
    go_wp2
    go_ret3
    exact ⟨rfl, rfl⟩
end Go.Proofs.Ytpipdlgnedhhaaa
