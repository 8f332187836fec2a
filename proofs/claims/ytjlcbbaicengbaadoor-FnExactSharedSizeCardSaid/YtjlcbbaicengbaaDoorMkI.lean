/-
  The marks of lists of numbers.
-/
import Derived.Test.YtjlcbbaicengbaaDoorMark
namespace Go.Proofs.YtjlcbbaicengbaaDoor
open Go.ChangeShapes Go.WideShapes Go.ChangeAt Go.RowKit Go.Deep

/-- A list of numbers of its own: an empty one, or a block. -/
theorem own_ints {w : World} {F : Nat → Prop} {len cap : Nat} {f : Nat → Nat → Ct} {a : Option Addr} (h : Own w F (.sl 1 len f) (.slice a len cap)) (hf : ∀ k, k < len → ∃ v, f k 0 = .lit v) :
    len = 0 ∨ ∃ b off, a = some ⟨b, off, none⟩ ∧ F b ∧ b < w.heap.size ∧ (∀ k, k < len → ∃ v, f k 0 = .lit v ∧ w.cell? ⟨b, off + k, none⟩ = some v) ∧ ∀ o, w.frozen? ⟨b, o, none⟩ = false := by
  cases h with
  | nil => exact Or.inl rfl
  | row F n len f b off cap u G hF hb hc hz hl hG hd =>
    refine Or.inr ⟨b, off, rfl, hF, hb, fun k hk => ?_, hz⟩
    obtain ⟨v, hv⟩ := hf k hk
    have h1 := hl k hk 0 (by decide)
    have h2 := hc k hk 0 (by decide)
    rw [Nat.mul_one, Nat.add_zero] at h2
    rw [hv] at h1
    have h3 : u k 0 = v := by
      generalize u k 0 = z at h1
      cases h1
      rfl
    exact ⟨v, hv, by rw [h2, h3]⟩
theorem ints_own {w : World} {F : Nat → Prop} {len cap : Nat} {f : Nat → Nat → Ct} {b off : Nat} (hF : F b) (hb : b < w.heap.size) (hc : ∀ k, k < len → ∃ v, f k 0 = .lit v ∧ w.cell? ⟨b, off + k, none⟩ = some v) (hz : ∀ o, w.frozen? ⟨b, o, none⟩ = false) :
    Own w F (.sl 1 len f) (.slice (some ⟨b, off, none⟩) len cap) := by
  classical
  refine .row F 1 len f b off cap (fun k _ => if hk : k < len then Classical.choose (hc k hk) else .nilFunc) (fun _ _ _ => False) hF hb (fun k hk j hj => ?_) hz (fun k hk j hj => ?_) (fun _ _ _ _ _ hx => hx.elim) (fun _ _ _ _ _ _ _ _ _ hx => hx.elim)
  · obtain rfl : j = 0 := by omega
    simp only [dif_pos hk]
    rw [Nat.mul_one, Nat.add_zero]
    exact (Classical.choose_spec (hc k hk)).2
  · obtain rfl : j = 0 := by omega
    simp only [dif_pos hk]
    have e := (Classical.choose_spec (hc k hk)).1
    generalize Classical.choose (hc k hk) = v at e ⊢
    rw [e]
    exact .lit _ _

/-- The marks from number k on. -/
def mkI (k : Nat) : Nat → Nat → Ct := fun i _ => .lit (.int .i64 ((k + i : Nat) : Int))
end Go.Proofs.YtjlcbbaicengbaaDoor
