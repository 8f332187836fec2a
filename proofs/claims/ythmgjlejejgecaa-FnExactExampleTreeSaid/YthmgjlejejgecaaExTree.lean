/-
  ExampleTree, in the model and in the program.
-/
import Derived.Test.YthmgjlejejgecaaInR
namespace Go.Proofs.Ythmgjlejejgecaa
open Go.ChangeShapes Go.WideShapes Go.ChangeAt Go.RowKit Go.Deep

def tree1 : ByteArray := ⟨#[40, 98, 108, 111, 99, 107, 32, 40, 112, 97, 105, 114, 32, 40, 112, 97, 105, 114, 32, 40, 117, 115, 101, 32, 51, 41, 32, 40, 100, 101, 99, 108, 32, 51, 41, 41, 32, 40, 117, 115, 101, 32, 52, 41, 41, 41]⟩
def tree2 : ByteArray := ⟨#[40, 109, 97, 105, 110, 32, 40, 115, 101, 113, 32, 40, 103, 101, 110, 32, 49, 41, 32, 40, 108, 111, 111, 112, 32, 40, 115, 101, 113, 32, 40, 107, 105, 108, 108, 32, 49, 41, 32, 40, 103, 101, 110, 32, 50, 41, 41, 41, 41, 41]⟩
def tree3 : ByteArray := ⟨#[40, 112, 97, 103, 101, 32, 49, 48, 32, 40, 114, 111, 119, 32, 40, 98, 111, 120, 32, 52, 41, 32, 40, 114, 111, 119, 32, 40, 98, 111, 120, 32, 53, 41, 32, 40, 98, 111, 120, 32, 51, 41, 41, 41, 41]⟩
def exampleTree (c : Int) : ByteArray := if c = 1 then tree1 else if c = 2 then tree2 else if c = 3 then tree3 else ⟨#[]⟩
theorem exTree_1 : exampleTree 1 = tree1 := rfl
theorem exTree_2 : exampleTree 2 = tree2 := rfl
theorem exTree_3 : exampleTree 3 = tree3 := rfl
theorem exTree_no {c : Int} (h : c < 1 ∨ 3 < c) : exampleTree c = ⟨#[]⟩ := by
  unfold exampleTree
  repeat rw [if_neg (by omega)]
theorem ret_s {a b : ByteArray} (h : a = b) : Ending.returned (Value.string a) = .returned (.string b) := by rw [h]
theorem code3 {c : Int} (h : ¬ (c < 1 ∨ 3 < c)) : c = 1 ∨ c = 2 ∨ c = 3 := by omega

set_option maxHeartbeats 1600000 in
set_option maxRecDepth 100000 in
theorem spec_ExampleTree (c : Int) (_ : okI c) (w : World) :
    Calls Try.prog 17 #[.int .i64 c] w fun e w' => e = .returned (.string (exampleTree c)) ∧ Below w.heap.size w w' := by
  have HI := Lib.hid (fun (c : Int) w' => spec_l1In c 1 3 w')
  by_cases h : c < 1 ∨ 3 < c
  · have fin := Lib.hid (exTree_no h)
    have HR := Lib.hid (inR_no (n := c) (a := 1) (b := 3) (by omega))
    clear h
    go_enter Try.func17, Try.ntmps17
    go_wp2_with fail
    refine (HI.out _ _).mono ?_
    rintro e w1 ⟨rfl, rfl⟩
    rw [HR.out]
    go_wp2
    go_ret
    exact ⟨ret_s fin.out.symm, Below.refl _ _⟩
  · rcases code3 h with rfl | rfl | rfl
    all_goals
      clear h
      go_enter Try.func17, Try.ntmps17
      go_wp2_with fail
      refine (HI.out _ _).mono ?_
      rintro e w1 ⟨rfl, rfl⟩
      rw [inR_yes (by decide) (by decide)]
      go_wp2
      go_ret
      exact ⟨rfl, (by repeat (first | (with_reducible exact Below.refl _ _) | (refine Below.setCell ?_ (by simp <;> omega) _) | (refine Below.alloc ?_ (by simp <;> omega) _)))⟩

set_option maxHeartbeats 1600000 in
set_option maxRecDepth 100000 in
theorem impl_exampleOf (c : Int) (w : World) :
    Calls Try.prog 74 #[.int .i64 c] w fun e w' => ∃ r, e = .returned (.agg #[.string r, .string (exampleTree c)]) ∧ Below w.heap.size w w' := by
  by_cases h : c < 1 ∨ 3 < c
  · have fin := Lib.hid (exTree_no h)
    have h1 : c ≠ 1 := by omega
    have h2 : c ≠ 2 := by omega
    have h3 : c ≠ 3 := by omega
    have e1 : (c == 1) = false := beq_eq_false_iff_ne.2 h1
    have e2 : (c == 2) = false := beq_eq_false_iff_ne.2 h2
    have e3 : (c == 3) = false := beq_eq_false_iff_ne.2 h3
    clear h h1 h2 h3
    go_enter Try.func74, Try.ntmps74
    go_wp2
    exact bodyPost_ret (v := .agg #[.string ⟨#[]⟩, .string ⟨#[]⟩]) (by simp [results, Try.results74, go_sem]) rfl ⟨_, by rw [fin.out], (by repeat (first | (with_reducible exact Below.refl _ _) | (refine Below.setCell ?_ (by simp <;> omega) _) | (refine Below.alloc ?_ (by simp <;> omega) _)))⟩
  · rcases code3 h with rfl | rfl | rfl
    all_goals
      clear h
      go_enter Try.func74, Try.ntmps74
      go_wp2
      refine bodyPost_ret (by simp [results, Try.results74, go_sem]; exact ⟨rfl, rfl⟩) rfl ⟨_, rfl, (by repeat (first | (with_reducible exact Below.refl _ _) | (refine Below.setCell ?_ (by simp <;> omega) _) | (refine Below.alloc ?_ (by simp <;> omega) _)))⟩

set_option maxHeartbeats 1600000 in
set_option maxRecDepth 100000 in
theorem impl_ExampleTree (c : Int) (_ : okI c) (w : World) :
    Calls Try.prog 18 #[.int .i64 c] w fun e w' => e = .returned (.string (exampleTree c)) ∧ Below w.heap.size w w' := by
  have HE := Lib.hid (impl_exampleOf c w)
  generalize exampleTree c = q at *
  go_enter Try.func18, Try.ntmps18
  go_wp2_with fail
  refine HE.out.mono ?_
  rintro e w1 ⟨r, rfl, hb⟩
  have hfld : ∀ w', (Instr.field 92 (.agg #[.string r, .string q]) 1).run Try.prog w' = .ok (.string q) w' := fun _ => by kernel_rfl
  go_wp2
  go_ret
  exact ⟨rfl, by repeat (first | (with_reducible exact hb) | (refine Below.setCell ?_ (by have := hb.size; simp <;> omega) _) | (refine Below.alloc ?_ (by have := hb.size; simp <;> omega) _))⟩
end Go.Proofs.Ythmgjlejejgecaa
