/-
  Chapter 2: Without, in the model and in the program.
-/
import Derived.Test.YtgpmmlbinmdfmaaGreatDoorRes
import Derived.Test.YtgpmmlbinmdfmaaGreatDoorStrsOwn
namespace Go.Proofs.YtgpmmlbinmdfmaaGreatDoor
open Go.ChangeShapes Go.WideShapes Go.ChangeAt Go.RowKit

/-- The strings of ss that are not among rs. -/
def wo (rs ss : List ByteArray) : List ByteArray := ss.filter fun x => !memB x rs
theorem wo_nil (rs : List ByteArray) : wo rs [] = [] := rfl
theorem wo_snoc (rs ss : List ByteArray) (x : ByteArray) : wo rs (ss ++ [x]) = wo rs ss ++ (if memB x rs = true then [] else [x]) := by
  unfold wo
  rw [List.filter_append]
  cases h : memB x rs <;> simp [h]
theorem wo_yes {rs ss : List ByteArray} {x : ByteArray} (h : memB x rs = true) : wo rs (ss ++ [x]) = wo rs ss := by rw [wo_snoc, if_pos h, List.append_nil]
theorem wo_no {rs ss : List ByteArray} {x : ByteArray} (h : memB x rs = false) : wo rs (ss ++ [x]) = wo rs ss ++ [x] := by rw [wo_snoc, if_neg (by rw [h]; decide)]
theorem wo_length (rs ss : List ByteArray) : (wo rs ss).length ≤ ss.length := List.length_filter_le _ _
theorem wo_self {rs ss : List ByteArray} (h : ∀ x ∈ ss, x ∈ rs) : wo rs ss = [] := by
  unfold wo
  rw [List.filter_eq_nil_iff]
  intro x hx
  rw [memB_yes (h x hx)]
  decide
theorem memB_take {ss : List ByteArray} {k : Nat} (hk : k < ss.length) : ss.take (k + 1) = ss.take k ++ [ss.getD k ByteArray.empty] := by
  rw [List.take_succ_eq_append_getElem hk, List.getD_eq_getElem?_getD, List.getElem?_eq_getElem hk]
  rfl

/-- What an append of one string does to the row. -/
theorem own_one {w' : World} {B : Nat} {v' : Value} {e : TypeId} {done : List ByteArray} {x : ByteArray} {l : List Value} (h : w'.ownsRow B e 1 v' (done.length + 1) (done.map Value.string ++ l)) (hl : l = [Value.string x]) :
    w'.ownsRow B e 1 v' (done ++ [x]).length ((done ++ [x]).map Value.string) := by
  rw [List.length_append, List.map_append]
  rw [hl] at h
  exact h

/-- The slice of a row of strings. -/
theorem own_split {w : World} {B : Nat} {v : Value} {e : TypeId} {done : List ByteArray} (h : w.ownsRow B e 1 v done.length (done.map Value.string)) :
    (v = .slice none 0 0 ∧ done = []) ∨ ∃ g cap, v = .slice (some ⟨g, 0, none⟩) done.length cap ∧ B ≤ g ∧ OwnStrs w g done := by
  rcases h.2 with ⟨h', hx⟩ | ⟨g, cap, cur, rfl, hB, hg, _⟩
  · refine Or.inl ⟨h', ?_⟩
    have := h.1
    cases done with
    | nil => rfl
    | cons a r => simp at hx
  · refine Or.inr ⟨g, cap, rfl, hB, (Array.getElem?_eq_some_iff.1 hg).1, fun k hk => ?_, fun k => h.frozenAt k⟩
    rw [h.cellAt k (by omega), List.getElem?_map, List.getD_eq_getElem?_getD, List.getElem?_eq_getElem hk]
    rfl

/-- A slice of strings of the call's own, nil if there is none. -/
def OwnV (B : Nat) (w : World) (v : Value) (L : List ByteArray) : Prop :=
  (v = .slice none 0 0 ∧ L = []) ∨ ∃ g cap, v = .slice (some ⟨g, 0, none⟩) L.length cap ∧ B ≤ g ∧ OwnStrs w g L

theorem wo_sum (rs ss : List ByteArray) : sumSize (wo rs ss) ≤ sumSize ss := by
  unfold sumSize wo
  induction ss with
  | nil => exact Nat.le_refl _
  | cons a r ih =>
    rw [List.filter_cons]
    split
    · rw [List.map_cons, List.map_cons, List.sum_cons, List.sum_cons]; omega
    · rw [List.map_cons, List.sum_cons]; omega
end Go.Proofs.YtgpmmlbinmdfmaaGreatDoor
