/-
  A plain fact: the sorted names are together no longer than the list.
-/
import Derived.Test.YtlgddglhnnagpaaSrt
import Derived.Test.YtlgddglhnnagpaaStrs
namespace Go.Proofs.Ytlgddglhnnagpaa

theorem sum_cons (x : ByteArray) (r : List ByteArray) : sumSize (x :: r) = x.size + sumSize r := by unfold sumSize; rw [List.map_cons, List.sum_cons]
theorem sum_remove : ∀ {L : List ByteArray} {x : ByteArray}, x ∈ L → ∃ M, sumSize L = x.size + sumSize M ∧ ∀ y, y ∈ L → y = x ∨ y ∈ M
  | y :: r, x, h => by
    by_cases e : x = y
    · subst e
      exact ⟨r, sum_cons x r, fun z hz => by
        rcases List.mem_cons.1 hz with h | h
        · exact Or.inl h
        · exact Or.inr h⟩
    · have hx : x ∈ r := by
        rcases List.mem_cons.1 h with h | h
        · exact absurd h e
        · exact h
      obtain ⟨M, h1, h2⟩ := sum_remove hx
      refine ⟨y :: M, by rw [sum_cons, sum_cons, h1]; omega, fun z hz => ?_⟩
      rcases List.mem_cons.1 hz with h | h
      · exact Or.inr (by rw [h]; exact List.mem_cons_self)
      · rcases h2 z h with h | h
        · exact Or.inl h
        · exact Or.inr (List.mem_cons_of_mem _ h)
theorem sum_subset : ∀ {A L : List ByteArray}, A.Nodup → (∀ y ∈ A, y ∈ L) → sumSize A ≤ sumSize L
  | [], _, _, _ => by unfold sumSize; exact Nat.zero_le _
  | x :: r, L, hn, hs => by
    obtain ⟨hx, hr⟩ := List.nodup_cons.1 hn
    obtain ⟨M, h1, h2⟩ := sum_remove (hs x List.mem_cons_self)
    have := sum_subset (A := r) (L := M) hr fun y hy => by
      rcases h2 y (hs y (List.mem_cons_of_mem _ hy)) with h | h
      · rw [h] at hy; exact absurd hy hx
      · exact h
    rw [sum_cons, h1]
    omega
theorem srt_sum (ss : List ByteArray) : sumSize (srt ss) ≤ sumSize ss := sum_subset (srt_nodup ss) fun _ hy => mem_srt.1 hy
end Go.Proofs.Ytlgddglhnnagpaa
