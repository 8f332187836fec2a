/-
  EditName, in the model and in the program.
-/
import Derived.Test.YthmgjlejejgecaaInR
namespace Go.Proofs.Ythmgjlejejgecaa
open Go.ChangeShapes Go.WideShapes Go.ChangeAt Go.RowKit Go.Deep

def editName (c : Int) : ByteArray :=
  if c = 0 then ⟨#[111, 107]⟩ else if c = 1 then ⟨#[98, 97, 100]⟩ else if c = 2 then ⟨#[109, 105, 115, 115, 105, 110, 103]⟩ else if c = 3 then ⟨#[115, 121, 109, 98, 111, 108]⟩ else if c = 4 then ⟨#[105, 100, 115]⟩ else if c = 5 then ⟨#[115, 105, 122, 101]⟩ else if c = 6 then ⟨#[110, 101, 115, 116, 101, 100]⟩ else if c = 7 then ⟨#[108, 105, 116, 101, 114, 97, 108]⟩ else ⟨#[63]⟩
theorem editName_0 : editName 0 = ⟨#[111, 107]⟩ := rfl
theorem editName_1 : editName 1 = ⟨#[98, 97, 100]⟩ := rfl
theorem editName_2 : editName 2 = ⟨#[109, 105, 115, 115, 105, 110, 103]⟩ := rfl
theorem editName_3 : editName 3 = ⟨#[115, 121, 109, 98, 111, 108]⟩ := rfl
theorem editName_4 : editName 4 = ⟨#[105, 100, 115]⟩ := rfl
theorem editName_5 : editName 5 = ⟨#[115, 105, 122, 101]⟩ := rfl
theorem editName_6 : editName 6 = ⟨#[110, 101, 115, 116, 101, 100]⟩ := rfl
theorem editName_7 : editName 7 = ⟨#[108, 105, 116, 101, 114, 97, 108]⟩ := rfl
theorem editName_no {c : Int} (h : c < 0 ∨ 7 < c) : editName c = ⟨#[63]⟩ := by
  unfold editName
  repeat rw [if_neg (by omega)]
theorem ret_s {a b : ByteArray} (h : a = b) : Ending.returned (Value.string a) = .returned (.string b) := by rw [h]
theorem code_cases {c : Int} (h : ¬ (c < 0 ∨ 7 < c)) : c = 0 ∨ c = 1 ∨ c = 2 ∨ c = 3 ∨ c = 4 ∨ c = 5 ∨ c = 6 ∨ c = 7 := by omega

set_option maxHeartbeats 1600000 in
set_option maxRecDepth 100000 in
theorem spec_EditName (c : Int) (_ : okI c) (w : World) :
    Calls Try.prog 15 #[.int .i64 c] w fun e w' => e = .returned (.string (editName c)) ∧ Below w.heap.size w w' := by
  by_cases h : c < 0 ∨ 7 < c
  · have fin := Lib.hid (editName_no h)
    have HI := Lib.hid (fun w' => spec_l1In c 0 7 w')
    have HR := Lib.hid (inR_no (n := c) (a := 0) (b := 7) (by omega))
    clear h
    go_enter Try.func15, Try.ntmps15
    go_wp2_with fail
    refine (HI.out _).mono ?_
    rintro e w1 ⟨rfl, rfl⟩
    rw [HR.out]
    go_wp2
    go_ret
    exact ⟨ret_s fin.out.symm, Below.refl _ _⟩
  · rcases code_cases h with rfl | rfl | rfl | rfl | rfl | rfl | rfl | rfl
    all_goals
      have HI := Lib.hid (fun (c : Int) w' => spec_l1In c 0 7 w')
      clear h
      go_enter Try.func15, Try.ntmps15
      go_wp2_with fail
      refine (HI.out _ _).mono ?_
      rintro e w1 ⟨rfl, rfl⟩
      rw [inR_yes (by decide) (by decide)]
      go_wp2
      go_ret
      exact ⟨rfl, (by repeat (first | (with_reducible exact Below.refl _ _) | (refine Below.setCell ?_ (by simp <;> omega) _) | (refine Below.alloc ?_ (by simp <;> omega) _)))⟩

set_option maxHeartbeats 1600000 in
set_option maxRecDepth 100000 in
theorem impl_editNames (w : World) :
    Calls Try.prog 73 #[] w fun e w' => ∃ (b cc : Nat), e = .returned (.slice (some ⟨b, 0, none⟩) 8 cc) ∧ (w'.cell? ⟨b, 0, none⟩ = some (.string ⟨#[111, 107]⟩) ∧ w'.cell? ⟨b, 1, none⟩ = some (.string ⟨#[98, 97, 100]⟩) ∧ w'.cell? ⟨b, 2, none⟩ = some (.string ⟨#[109, 105, 115, 115, 105, 110, 103]⟩) ∧ w'.cell? ⟨b, 3, none⟩ = some (.string ⟨#[115, 121, 109, 98, 111, 108]⟩) ∧ w'.cell? ⟨b, 4, none⟩ = some (.string ⟨#[105, 100, 115]⟩) ∧ w'.cell? ⟨b, 5, none⟩ = some (.string ⟨#[115, 105, 122, 101]⟩) ∧ w'.cell? ⟨b, 6, none⟩ = some (.string ⟨#[110, 101, 115, 116, 101, 100]⟩) ∧ w'.cell? ⟨b, 7, none⟩ = some (.string ⟨#[108, 105, 116, 101, 114, 97, 108]⟩)) ∧ Below w.heap.size w w' := by
  go_enter Try.func73, Try.ntmps73
  go_wp2
  go_ret
  exact ⟨_, _, rfl, ⟨by go_simp, by go_simp, by go_simp, by go_simp, by go_simp, by go_simp, by go_simp, by go_simp⟩, (by repeat (first | (with_reducible exact Below.refl _ _) | (refine Below.setCell ?_ (by simp <;> omega) _) | (refine Below.alloc ?_ (by simp <;> omega) _)))⟩

set_option maxHeartbeats 1600000 in
set_option maxRecDepth 100000 in
theorem impl_EditName (c : Int) (_ : okI c) (w : World) :
    Calls Try.prog 16 #[.int .i64 c] w fun e w' => e = .returned (.string (editName c)) ∧ Below w.heap.size w w' := by
  by_cases h : c < 0 ∨ 7 < c
  · have fin := Lib.hid (editName_no h)
    have HN := Lib.hid (impl_editNames w)
    by_cases h0 : c < 0
    · clear h
      go_enter Try.func16, Try.ntmps16
      go_wp2_with fail
      refine HN.out.mono ?_
      rintro e w1 ⟨a, cc, rfl, hs, hb⟩
      go_wp2
      go_ret
      exact ⟨ret_s fin.out.symm, hb⟩
    · have h1 : 7 < c := by omega
      have h2 : 8 ≤ c := by omega
      clear h
      go_enter Try.func16, Try.ntmps16
      go_wp2_with fail
      refine HN.out.mono ?_
      rintro e w1 ⟨a, cc, rfl, hs, hb⟩
      go_wp2
      go_ret
      exact ⟨ret_s fin.out.symm, hb⟩
  · have HN := Lib.hid (impl_editNames w)
    rcases code_cases h with rfl | rfl | rfl | rfl | rfl | rfl | rfl | rfl
    all_goals
      clear h
      go_enter Try.func16, Try.ntmps16
      go_wp2_with fail
      refine HN.out.mono ?_
      rintro e w1 ⟨a, cc, rfl, hs, hb⟩
      obtain ⟨hc0, hc1, hc2, hc3, hc4, hc5, hc6, hc7⟩ := hs
      go_wp2
      go_ret
      exact ⟨rfl, hb⟩
end Go.Proofs.Ythmgjlejejgecaa
