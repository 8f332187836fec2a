/-
  A list of plain rows that a call grows by append: what it holds, and that it is the call's own.
-/
import Derived.Test.YtjlcbbaicengbaaDoorOwnAt
import Derived.Test.YtjlcbbaicengbaaDoorTSz
import Derived.Laws.AppendOwn
import Derived.Laws.AppendOwnNone
import Derived.Laws.OwnMore
namespace Go.Proofs.YtjlcbbaicengbaaDoor
open Go.ChangeShapes Go.WideShapes Go.ChangeAt Go.RowKit Go.Deep

theorem flat_len {α : Type} {n : Nat} {vals : α → List Value} (hv : ∀ x, (vals x).length = n) : ∀ l : List α, (l.flatMap vals).length = l.length * n
  | [] => by simp
  | x :: l => by rw [List.flatMap_cons, List.length_append, hv, flat_len hv l, List.length_cons, Nat.succ_mul, Nat.add_comm]
theorem flat_get {α : Type} [Inhabited α] {n : Nat} {vals : α → List Value} (hv : ∀ x, (vals x).length = n) : ∀ (l : List α) (t c : Nat), t < l.length → c < n → (l.flatMap vals)[t * n + c]? = some ((vals (l.getD t default)).getD c .nilFunc)
  | [], t, c, h, _ => absurd h (Nat.not_lt_zero _)
  | x :: l, 0, c, _, hc => by
    rw [List.flatMap_cons, Nat.zero_mul, Nat.zero_add, List.getElem?_append_left (by rw [hv]; exact hc)]
    show (vals x)[c]? = some ((vals x).getD c .nilFunc)
    rw [List.getD_eq_getElem?_getD, List.getElem?_eq_getElem (by rw [hv]; exact hc)]
    rfl
  | x :: l, t + 1, c, h, hc => by
    rw [List.flatMap_cons, List.getElem?_append_right (by rw [hv, Nat.succ_mul]; omega), hv, show (t + 1) * n + c - n = t * n + c by rw [Nat.succ_mul]; omega]
    exact flat_get hv l t c (by simpa using h) hc
theorem flat_snoc {α : Type} {vals : α → List Value} (l : List α) (x : α) : (l ++ [x]).flatMap vals = l.flatMap vals ++ vals x := by
  rw [List.flatMap_append, List.flatMap_cons, List.flatMap_nil, List.append_nil]

/-- What an append of one row does. -/
theorem grown_one {w' : World} {B n : Nat} {v' : Value} {e : TypeId} {α : Type} {vals : α → List Value} {l : List α} {x : α} {news : List Value} (h : w'.ownsRow B e n v' (l.length + 1) (l.flatMap vals ++ news)) (hn : news = vals x) :
    w'.ownsRow B e n v' (l ++ [x]).length ((l ++ [x]).flatMap vals) := by
  rw [flat_snoc, List.length_append, ← hn]
  exact h
theorem grown_own {w : World} {B n : Nat} {v : Value} {e : TypeId} {α : Type} [Inhabited α] {vals : α → List Value} {ct : α → Nat → Ct} {l : List α} (_hn0 : 0 < n) (hv : ∀ x, (vals x).length = n) (hct : ∀ x c, c < n → ct x c = .lit ((vals x).getD c .nilFunc)) (h : w.ownsRow B e n v l.length (l.flatMap vals)) :
    ∃ a cap, v = .slice a l.length cap ∧ Own w (fun y => B ≤ y ∧ y < w.heap.size) (.sl n l.length fun t => ct (l.getD t default)) (.slice a l.length cap) := by
  rcases h.2 with ⟨h', hx⟩ | ⟨g, cap, cur, rfl, hB, hg, _⟩
  · rw [hx]
    exact ⟨none, 0, h', .nil _ _ _ _ _⟩
  · have hlt : g < w.heap.size := (Array.getElem?_eq_some_iff.1 hg).1
    refine ⟨some ⟨g, 0, none⟩, cap, rfl, .row _ n l.length _ g 0 cap (fun t c => (vals (l.getD t default)).getD c .nilFunc) (fun _ _ _ => False) ⟨hB, hlt⟩ hlt (fun t ht c hc => ?_) (fun o => h.frozenAt o) (fun t ht c hc => ?_) (fun _ _ _ _ _ hx => hx.elim) (fun _ _ _ _ _ _ _ _ _ hx => hx.elim)⟩
    · rw [Nat.zero_add, h.cellAt (t * n + c) ?_, flat_get hv l t c ht hc]
      have := Nat.mul_le_mul_right n (show t + 1 ≤ l.length from ht)
      rw [Nat.succ_mul] at this
      omega
    · show Own w _ (ct (l.getD t default) c) _
      rw [hct _ c hc]
      exact .lit _ _
/-- A slice made by a literal, with nothing in it. -/
theorem grown_made {w : World} {e : TypeId} {n : Nat} {α : Type} {vals : α → List Value} : (w.alloc (.cells #[] e)).ownsRow w.heap.size e n (.slice (some ⟨w.heap.size, 0, none⟩) 0 0) ([] : List α).length (([] : List α).flatMap vals) :=
  World.ownsRow_made w #[] 0 (Nat.le_refl _) (Nat.zero_le _) (by simp)
theorem grown_nil {w : World} {B : Nat} {e : TypeId} {n : Nat} {α : Type} {vals : α → List Value} : w.ownsRow B e n (.slice none 0 0) ([] : List α).length (([] : List α).flatMap vals) := ⟨by simp, Or.inl ⟨rfl, rfl⟩⟩
theorem take_snoc {α : Type} [Inhabited α] {l : List α} {k : Nat} (hk : k < l.length) : l.take (k + 1) = l.take k ++ [l.getD k default] := by
  rw [List.take_succ_eq_append_getElem hk, List.getD_eq_getElem?_getD, List.getElem?_eq_getElem hk]
  rfl
end Go.Proofs.YtjlcbbaicengbaaDoor
