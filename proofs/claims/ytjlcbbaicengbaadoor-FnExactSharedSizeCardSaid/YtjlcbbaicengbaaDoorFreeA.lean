/-
  An append to a row of the call's own inside a region that draws its order: what it writes, what lasts.
-/
import Derived.Test.YtjlcbbaicengbaaDoorFreeK
import Derived.Test.YtjlcbbaicengbaaDoorPile
namespace Go.Proofs.YtjlcbbaicengbaaDoor
open Go.ChangeShapes Go.WideShapes Go.ChangeAt Go.RowKit Go.Deep

theorem fa_noneK {ob : Nat → Nat} {w w' : World} (h : WritesF (FAK (fun _ => False) ob []) w w') : Below w.heap.size w w' := ⟨h.os, h.tape, h.output, h.size, fun k hk => h.block k hk (fun h => h.elim id (fun h => h trivial))⟩
theorem touches_grown {w w' : World} {v : Value} {gb : Nat} (hg : w.grownBy w' v.ownBlock) (h : ∀ x, v.ownBlock = some x → x = gb) : Touches gb (gb + 1) w w' :=
  ⟨hg.os, hg.tape, hg.output, hg.size, fun k hk hn => hg.block k hk fun e => hn (by have := h k e.symm; omega)⟩
theorem ownsRow_keptAt {w w' : World} {B : Nat} {e : TypeId} {n len : Nat} {v : Value} {xs : List Value} (h : w.ownsRow B e n v len xs) (hk : ∀ g, v.ownBlock = some g → w'.heap[g]? = w.heap[g]?) : w'.ownsRow B e n v len xs := by
  obtain ⟨h1, h2⟩ := h
  refine ⟨h1, ?_⟩
  rcases h2 with h2 | ⟨g, cap, cur, hv, hB, hg, h3⟩
  · exact Or.inl h2
  · exact Or.inr ⟨g, cap, cur, hv, hB, by rw [hk g (by rw [hv]; rfl)]; exact hg, h3⟩
/-- Where a row lies; a dummy for an empty one. -/
def rowAt (v : Value) (d : Nat) : Nat := v.ownBlock.getD d
theorem rowAt_of {v : Value} {d : Nat} : ∀ x, v.ownBlock = some x → x = rowAt v d := fun x h => by unfold rowAt; rw [h]; rfl
theorem rowAt_lt {v : Value} {d S : Nat} (hd : d < S) (h : ∀ x, v.ownBlock = some x → x < S) : rowAt v d < S := by
  unfold rowAt
  cases e : v.ownBlock with
  | none => exact hd
  | some x => exact h x e
theorem rowAt_ne {v : Value} {d b : Nat} (hd : d ≠ b) (h : ∀ x, v.ownBlock = some x → x ≠ b) : rowAt v d ≠ b := by
  unfold rowAt
  cases e : v.ownBlock with
  | none => exact hd
  | some x => exact h x e
theorem cells_at {w : World} {g : Nat} {cs : List Value} {t : TypeId} {fr : Nat × Nat} (h : w.heap[g]? = some (.cells cs.toArray t fr)) : ∀ j u, cs[j]? = some u → w.cell? ((⟨g, 0, none⟩ : Addr).add j) = some u := by
  intro j u hu
  rw [Go.WideShapes.add_plain, Nat.zero_add]
  exact pblk_cell h (by simpa using hu)
theorem own_form {w : World} {B n len : Nat} {e : TypeId} {v : Value} {xs : List Value} (h : w.ownsRow B e n v len xs) : ∃ a c, v = .slice a len c := by
  rcases h.2 with ⟨h1, h2⟩ | ⟨g, cap, cur, h1, _⟩
  · subst h2; exact ⟨none, 0, h1⟩
  · exact ⟨_, _, h1⟩
theorem heap_set_sameR {w w' : World} {b o : Nat} {v : Value} (h : w'.heap[b]? = w.heap[b]?) : (w'.setCell ⟨b, o, none⟩ v).heap[b]? = (w.setCell ⟨b, o, none⟩ v).heap[b]? := by
  simp only [World.setCell, Array.getElem?_modify, h]
/-- One row more: its data were made in new blocks; then the list was written in its own block r or in a new one. -/
theorem Rows.step2 {B n len : Nat} {w0 w2 : World} {r r' : Option Nat} {c : Nat → Nat → Ct} {xs news : List Value} (h : Rows B w0 n r len c xs) (hB : B ≤ w0.heap.size)
    (hk : Kept (fun x => B ≤ x ∧ x < w0.heap.size ∧ r ≠ some x) w0 w2) {F : Nat → Prop} (hu : OwnR w2 F n (c len) (fun j => news.getD j .nilFunc)) (hF : ∀ x, F x → w0.heap.size ≤ x ∧ x < w2.heap.size)
    (hr0 : ∀ x, r = some x → x < w0.heap.size) (hr : r' = r ∨ ∃ g, r' = some g ∧ w0.heap.size ≤ g ∧ ¬ F g) (hxs : xs.length = len * n) : Rows B w2 n r' (len + 1) c (xs ++ news) := by
  obtain ⟨G, h1, h2, h3⟩ := h
  have hr1 : ∀ x, x < w0.heap.size → r ≠ some x → r' ≠ some x := by
    intro x hx hn
    rcases hr with rfl | ⟨g, rfl, hg, _⟩
    · exact hn
    · intro e; simp at e; omega
  have hr2 : ∀ x, F x → r' ≠ some x := by
    intro x hx
    rcases hr with rfl | ⟨g, rfl, hg, hn⟩
    · intro e; have := hr0 x e; have := (hF x hx).1; omega
    · intro e; simp at e; subst e; exact hn hx
  refine ⟨fun k x => if k < len then G k x else F x, fun k hk' => ?_, fun k hk' x hx => ?_, fun k hk1 k' hk2 x hx hx' => ?_⟩
  · by_cases hkl : k < len
    · simp only [if_pos hkl]
      refine ((h1 k hkl).kept (hk.sub fun x hx => h2 k hkl x hx)).congr (fun _ _ => rfl) fun j hj => ?_
      have hlt : k * n + j < xs.length := by
        rw [hxs]
        have := Nat.mul_le_mul_right n (show k + 1 ≤ len from hkl)
        rw [Nat.succ_mul] at this
        omega
      simp only [List.getD_eq_getElem?_getD, List.getElem?_append_left hlt]
    · obtain rfl : k = len := by omega
      simp only [if_neg hkl]
      refine hu.congr (fun _ _ => rfl) fun j hj => ?_
      simp only [List.getD_eq_getElem?_getD, List.getElem?_append_right (show xs.length ≤ k * n + j by omega), hxs, Nat.add_sub_cancel_left]
  · by_cases hkl : k < len
    · simp only [if_pos hkl] at hx
      have h4 := h2 k hkl x hx
      exact ⟨h4.1, Nat.lt_of_lt_of_le h4.2.1 hk.1, hr1 x h4.2.1 h4.2.2⟩
    · simp only [if_neg hkl] at hx
      have := hF x hx
      exact ⟨by omega, this.2, hr2 x hx⟩
  · by_cases ha : k < len <;> by_cases hb' : k' < len
    · simp only [if_pos ha] at hx; simp only [if_pos hb'] at hx'; exact h3 k ha k' hb' x hx hx'
    · simp only [if_pos ha] at hx; simp only [if_neg hb'] at hx'; have := (h2 k ha x hx).2.1; have := (hF x hx').1; omega
    · simp only [if_neg ha] at hx; simp only [if_pos hb'] at hx'; have := (h2 k' hb' x hx').2.1; have := (hF x hx).1; omega
    · omega
end Go.Proofs.YtjlcbbaicengbaaDoor
