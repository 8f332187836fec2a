/-
  Putting one by one: the place, and the lists that come of it.
-/
import Derived.Test.YtoockfmkcjomhaaOrdO
namespace Go.Proofs.Ytoockfmkcjomhaa

theorem putL_at {α : Type} [Inhabited α] {lt : α → α → Bool} (h : Strict lt) (x : α) : ∀ (l : List α) (k : Nat), k ≤ l.length → (∀ j, j < k → lt (l.getD j default) x = true) → (k < l.length → lt (l.getD k default) x = false) →
    (k < l.length ∧ l.getD k default = x ∧ putL lt x l = l) ∨ ((k < l.length → l.getD k default ≠ x) ∧ putL lt x l = l.take k ++ [x] ++ l.drop k)
  | [], k, hk, _, _ => by
    have : k = 0 := by simpa using hk
    subst this
    exact .inr ⟨fun h => absurd h (by simp), by simp [putL]⟩
  | y :: ys, 0, _, _, h1 => by
    have h1' : lt y x = false := h1 (by simp)
    cases h2 : lt x y
    · have e : y = x := h.total y x h1' h2
      subst e
      exact .inl ⟨by simp, rfl, by unfold putL; rw [if_neg (by rw [h1']; decide), if_neg (by rw [h2]; decide)]⟩
    · refine .inr ⟨fun _ e => ?_, ?_⟩
      · have e' : y = x := e
        subst e'
        rw [h.irrefl] at h2
        cases h2
      · unfold putL
        rw [if_neg (by rw [h1']; decide), if_pos h2]
        rfl
  | y :: ys, k + 1, hk, h0, h1 => by
    have hy : lt y x = true := h0 0 (by omega)
    have ih := putL_at h x ys k (by simpa using hk) (fun j hj => by have := h0 (j + 1) (by omega); simpa using this) (fun hk' => by have := h1 (by simpa using hk'); simpa using this)
    have e : putL lt x (y :: ys) = y :: putL lt x ys := by
      show (if lt y x = true then _ else _) = _
      rw [if_pos hy]
    rw [e]
    rcases ih with ⟨i1, i2, i3⟩ | ⟨i1, i2⟩
    · exact .inl ⟨by simpa using i1, by simpa using i2, by rw [i3]⟩
    · exact .inr ⟨fun hk' => by have := i1 (by simpa using hk'); simpa using this, by rw [i2]; rfl⟩
/-- The length grows by at most one. -/
theorem putL_len {α : Type} {lt : α → α → Bool} (x : α) : ∀ l : List α, l.length ≤ (putL lt x l).length ∧ (putL lt x l).length ≤ l.length + 1
  | [] => by simp [putL]
  | y :: ys => by
    have ih := putL_len (lt := lt) x ys
    unfold putL
    split
    · simp only [List.length_cons]; omega
    · split
      · simp only [List.length_cons]; omega
      · simp only [List.length_cons]; omega
theorem putAll_len {α : Type} {lt : α → α → Bool} : ∀ (l acc : List α), (putAll lt acc l).length ≤ acc.length + l.length
  | [], acc => by simp [putAll]
  | x :: l, acc => by
    have h1 := putAll_len (lt := lt) l (putL lt x acc)
    have h2 := (putL_len (lt := lt) x acc).2
    show (putAll lt (putL lt x acc) l).length ≤ _
    rw [List.length_cons]
    omega
theorem putAll_append {α : Type} {lt : α → α → Bool} (acc l m : List α) : putAll lt acc (l ++ m) = putAll lt (putAll lt acc l) m := List.foldl_append ..
end Go.Proofs.Ytoockfmkcjomhaa
