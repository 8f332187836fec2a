/-
  Slices of strings in the laws' own helpers: where they lie.
-/
import Derived.Test.YtjlcbbaicengbaaDoorKit
import Derived.WalkSpells
import Derived.WalkSmall
import Derived.WalkLawsBesides
import Derived.Lib.Hide
import Derived.Lib.Strings
import Derived.SliceStrings
import Derived.Deep.QuietTactic
import Derived.BigQuiet
namespace Go.Proofs.YtjlcbbaicengbaaDoor
open Go.ChangeShapes Go.WideShapes Go.ChangeAt Go.RowKit

/-- The strings ss lie behind a, in a block below B. -/
def Strs (B : Nat) (w : World) (a : Option Addr) (ss : List ByteArray) : Prop :=
  ss = [] ∨ ∃ b off : Nat, a = some ⟨b, off, none⟩ ∧ b < B ∧ ∀ k, k < ss.length → (ss.getD k ByteArray.empty).size ≤ 9223372036854775807 ∧ w.cell? ⟨b, off + k, none⟩ = some (.string (ss.getD k ByteArray.empty))
theorem Strs.below {B : Nat} {w w' : World} {a : Option Addr} {ss : List ByteArray} (h : Strs B w a ss) (hb : Below B w w') : Strs B w' a ss := by
  rcases h with h | ⟨b, off, ha, hB, hc⟩
  · exact Or.inl h
  · exact Or.inr ⟨b, off, ha, hB, fun k hk => ⟨(hc k hk).1, (hb.cell (by exact hB)).trans (hc k hk).2⟩⟩
theorem Strs.mono {B B' : Nat} {w : World} {a : Option Addr} {ss : List ByteArray} (h : Strs B w a ss) (hB : B ≤ B') : Strs B' w a ss := by
  rcases h with h | ⟨b, off, ha, hb, hc⟩
  · exact Or.inl h
  · exact Or.inr ⟨b, off, ha, Nat.lt_of_lt_of_le hb hB, hc⟩
theorem Strs.at {B : Nat} {w : World} {a : Option Addr} {ss : List ByteArray} (h : Strs B w a ss) (k : Nat) (hk : k < ss.length) :
    ∃ b off : Nat, a = some ⟨b, off, none⟩ ∧ b < B ∧ (ss.getD k ByteArray.empty).size ≤ 9223372036854775807 ∧ w.cell? ⟨b, off + k, none⟩ = some (.string (ss.getD k ByteArray.empty)) := by
  rcases h with h | ⟨b, off, ha, hB, hc⟩
  · rw [h] at hk; exact absurd hk (Nat.not_lt_zero _)
  · exact ⟨b, off, ha, hB, (hc k hk).1, (hc k hk).2⟩

def sumSize (ss : List ByteArray) : Nat := (ss.map ByteArray.size).sum
theorem sumSize_take (ss : List ByteArray) (k : Nat) (hk : k < ss.length) : sumSize (ss.take (k + 1)) = sumSize (ss.take k) + (ss.getD k ByteArray.empty).size := by
  unfold sumSize
  rw [List.take_succ_eq_append_getElem hk, List.map_append, List.sum_append, List.getD_eq_getElem?_getD, List.getElem?_eq_getElem hk]
  simp
theorem sumSize_take_le (ss : List ByteArray) (k : Nat) : sumSize (ss.take k) ≤ sumSize ss := by
  have h := congrArg sumSize (List.take_append_drop k ss)
  unfold sumSize at *
  rw [List.map_append, List.sum_append] at h
  omega

theorem str_block_lt {w : World} {p : Addr} {v : Value} (h : w.cell? p = some v) : p.block < w.heap.size := by
  rcases Nat.lt_or_ge p.block w.heap.size with h' | h'
  · exact h'
  · unfold World.cell? at h; rw [Array.getElem?_eq_none h'] at h; simp at h

/-- A slice of strings that came in. -/
theorem strs_of_trod {H : Type} {enc : TypeId × Value → H} {P : Program} {W : World} {t e : TypeId} (ht : P.underlying t = some (.slice e)) (he : P.underlying e = some .string) (hc : P.cellsOf e = 1)
    {a : Option Addr} {len cap : Nat} {d : DataW H} {p : List MemPlace} (h : DataW.Trod enc P W 0 (fun _ => true) true t (.slice a len cap) d p) :
    len ≤ maxLen ∧ ∃ ss : List ByteArray, ss.length = len ∧ Strs W.heap.size W a ss := by
  obtain ⟨fuel, hf⟩ := h
  rcases open_strings ht he hc hf with ⟨hcs, _⟩ | ⟨a', len', cap', ss, hcs, _, hl, hm, hz, _, hcell, hws⟩
  · simp [Value.cells] at hcs
    obtain ⟨rfl, rfl, rfl⟩ := hcs
    exact ⟨Nat.zero_le _, [], rfl, Or.inl rfl⟩
  · simp [Value.cells] at hcs
    obtain ⟨rfl, rfl, rfl⟩ := hcs
    rw [if_pos rfl] at hz
    refine ⟨by omega, ss.take len, by rw [List.length_take]; omega, ?_⟩
    by_cases h0 : len = 0
    · subst h0; exact Or.inl rfl
    · obtain ⟨b, off, spot⟩ := a'
      have hspot : spot = none := by simpa [Addr.add] using World.cell?_spot (hcell 0 (by omega))
      subst hspot
      have e1 : ∀ k, k < len → (ss.take len).getD k ByteArray.empty = ss.getD k ByteArray.empty := fun k hk => by
        rw [List.getD_eq_getElem?_getD, List.getD_eq_getElem?_getD, List.getElem?_take, if_pos hk]
      have hk' : ∀ k, k < len → W.cell? ⟨b, off + k, none⟩ = some (.string (ss.getD k ByteArray.empty)) := fun k hk => by
        rw [← Go.WideShapes.add_plain]; exact hcell k (by omega)
      refine Or.inr ⟨b, off, rfl, str_block_lt (hk' 0 (by omega)), fun k hk => ?_⟩
      rw [List.length_take] at hk
      rw [e1 k (by omega)]
      refine ⟨?_, hk' k (by omega)⟩
      have := hws (ss.getD k ByteArray.empty) (by rw [List.getD_eq_getElem?_getD, List.getElem?_eq_getElem (show k < ss.length by omega)]; exact List.getElem_mem _)
      unfold maxLen at this
      exact this
end Go.Proofs.YtjlcbbaicengbaaDoor
