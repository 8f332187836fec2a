/-
  slices.Reverse over a row of the call's own whose elements are one cell each and no struct.
-/
import Derived.Shelf.SlicesE.Reverse
import Derived.Test.YtpipdlgnedhhaaaRev
namespace Go.Proofs.Ytpipdlgnedhhaaa
open Go.ChangeShapes Go.WideShapes Go.ChangeAt Go.RowKit Go.Deep Go.Shelf Go.Sort

/-- The row turned round; nothing else is written. -/
theorem reverse_row1 {α : Type} [Inhabited α] {P : Program} {ρ : Go.Shelf.Ren} (L : SlLaysE.n35 P ρ) (enc : α → Value) (h1 : OneCell enc)
    (B cap : Nat) (e : TypeId) (a : Option Addr) (zs : List α) (w : World) (hz : zs.length ≤ 1048577) (hown : w.ownsRow B e 1 (.slice a zs.length cap) zs.length (zs.flatMap fun x => [enc x])) :
    Calls P (ρ.f 35) #[.slice a zs.length cap] w fun x w' => x = .returned (.tuple #[]) ∧ w'.ownsRow B e 1 (.slice a zs.length cap) zs.length (zs.reverse.flatMap fun x => [enc x]) ∧ ∀ b0, (∀ g, a = some ⟨g, 0, none⟩ → b0 ≤ g) → Below b0 w w' := by
  have hf : ∀ l : List α, l.flatMap (fun x => [enc x]) = l.map enc := fun l => by rw [← List.map_eq_flatMap]
  rcases hown.2 with ⟨e0, hn0⟩ | ⟨g, cap', cur, e0, hb, hg, hn, hm, hs, ht⟩
  · injection e0 with e1 _ e3
    subst e1 e3
    obtain rfl : zs = [] := List.length_eq_zero_iff.1 hn0
    refine (AnyE.slices_Reverse_empty L none 0 w).mono ?_
    rintro x w' ⟨rfl, rfl⟩
    exact ⟨rfl, hown, fun b0 _ => Below.refl _ _⟩
  · injection e0 with e1 _ e3
    subst e1 e3
    rw [hf] at hown
    have hown' : w.ownsRow B e 1 (.slice (some ⟨g, 0, none⟩) zs.length cap) zs.length (zs.map enc).toArray.toList := hown
    have hh := row_holds hown'
    have hH : Holds enc w g 0 zs.toArray := by
      intro j hj
      have h := hh j (by simpa using hj)
      have e2 : (zs.map enc).toArray[j]! = enc zs.toArray[j]! := by
        rw [getElem!_pos _ j (by simpa using hj), getElem!_pos _ j hj]
        simp
      rw [e2] at h
      exact h
    refine (AnyE.slices_Reverse L enc h1 g 0 cap zs w hH (by omega)).mono ?_
    rintro x w' ⟨rfl, q, rfl⟩
    refine ⟨rfl, ?_, fun b0 h0 => Go.Lib.below_putRow (Below.refl b0 w) (h0 g rfl)⟩
    rw [hf]
    have h3 := row_put (q := q) (A := (zs.reverse.map enc).toArray) hown' (by simp)
    have e3 : putRow enc (Sort.ahead w q) g 0 zs.reverse.toArray = putRow id (Sort.ahead w q) g 0 (zs.reverse.map enc).toArray := by
      unfold putRow
      congr 1
      funext c
      unfold putCells
      congr 1
      funext k x
      by_cases hk : 0 ≤ k ∧ k < 0 + zs.reverse.toArray.size
      · rw [if_pos hk, if_pos (by simpa using hk), getElem!_pos _ (k - 0) (by have := hk.2; simp at this; simp; omega), getElem!_pos _ (k - 0) (by have := hk.2; simp at this; simp; omega)]
        simp
      · rw [if_neg hk, if_neg (by simpa using hk)]
    rw [e3]
    exact h3
end Go.Proofs.Ytpipdlgnedhhaaa
