/-
  Plain facts on sorted lists of byte strings: the library's sort and compaction give the strictly ascending list of the same elements, and there is one such list only. Nothing of the program stands here.
-/
import Derived.Test.YteeehpldkhceoaaSetB
import Derived.Sort.Walk0
import Derived.Lib.SlicesCompact
import Derived.Sort.EncStr
namespace Go.Proofs.Yteeehpldkhceoaa
open Go.Lib

def bl (s : ByteArray) : List UInt8 := s.data.toList
def lb (l : List UInt8) : ByteArray := ⟨l.toArray⟩
theorem bl_lb (l : List UInt8) : bl (lb l) = l := rfl
theorem lb_bl (s : ByteArray) : lb (bl s) = s := rfl
theorem bl_inj {s x : ByteArray} (h : bl s = bl x) : s = x := bytes_of_list h

def Asc (l : List (List UInt8)) : Prop := l.Pairwise (· < ·)
theorem asc_unique : ∀ {l l' : List (List UInt8)}, Asc l → Asc l' → (∀ x, x ∈ l ↔ x ∈ l') → l = l'
  | [], [], _, _, _ => rfl
  | [], b :: _, _, _, h => absurd ((h b).2 (by simp)) (by simp)
  | a :: _, [], _, _, h => absurd ((h a).1 (by simp)) (by simp)
  | a :: l, b :: l', h1, h2, h => by
    obtain ⟨ha, hl⟩ := List.pairwise_cons.1 h1
    obtain ⟨hb, hl'⟩ := List.pairwise_cons.1 h2
    have e : a = b := by
      rcases List.mem_cons.1 ((h a).1 (by simp)) with e | e
      · exact e
      · rcases List.mem_cons.1 ((h b).2 (by simp)) with e' | e'
        · exact e'.symm
        · exact absurd (List.lt_trans (ha b e') (hb a e)) (List.lt_irrefl a)
    subst e
    congr 1
    refine asc_unique hl hl' fun x => ?_
    have hx := h x
    rw [List.mem_cons, List.mem_cons] at hx
    constructor
    · intro m
      rcases hx.1 (Or.inr m) with e | e
      · exact absurd (ha x m) (by rw [e]; exact List.lt_irrefl a)
      · exact e
    · intro m
      rcases hx.2 (Or.inr m) with e | e
      · exact absurd (hb x m) (by rw [e]; exact List.lt_irrefl a)
      · exact e

theorem compact_asc (d : Array (List UInt8)) (hd : ∀ i j, i < j → j < d.size → d[i]! ≤ d[j]!) : ∀ m, m ≤ d.size → Asc (compactUpTo d m) ∧ ∀ x, x ∈ compactUpTo d m ↔ ∃ j, j < m ∧ d[j]! = x
  | 0, _ => by
    refine ⟨by unfold compactUpTo; exact List.Pairwise.nil, fun x => ?_⟩
    unfold compactUpTo
    simp
  | m + 1, hm => by
    obtain ⟨h1, h2⟩ := compact_asc d hd m (by omega)
    rw [compactUpTo_succ]
    by_cases hk : keeps d m = true
    · rw [if_pos hk]
      refine ⟨?_, fun x => ?_⟩
      · unfold Asc at *
        rw [List.pairwise_append]
        refine ⟨h1, by simp, fun a ha b hb => ?_⟩
        rw [List.mem_singleton] at hb
        subst hb
        obtain ⟨j, hj, rfl⟩ := (h2 a).1 ha
        have hne : d[m]! ≠ d[m - 1]! := by
          unfold keeps at hk
          rcases of_decide_eq_true hk with e | e
          · omega
          · exact e
        have h3 : d[m - 1]! < d[m]! := by
          rcases List.le_iff_lt_or_eq.1 (hd (m - 1) m (by omega) (by omega)) with h | h
          · exact h
          · exact absurd h.symm hne
        by_cases e : j = m - 1
        · rw [e]; exact h3
        · rcases List.le_iff_lt_or_eq.1 (hd j (m - 1) (by omega) (by omega)) with h | h
          · exact List.lt_trans h h3
          · rw [h]; exact h3
      · rw [List.mem_append, h2, List.mem_singleton]
        constructor
        · rintro (⟨j, hj, e⟩ | e)
          · exact ⟨j, by omega, e⟩
          · exact ⟨m, by omega, e.symm⟩
        · rintro ⟨j, hj, e⟩
          by_cases hjm : j = m
          · right; rw [← e, hjm]
          · left; exact ⟨j, by omega, e⟩
    · rw [if_neg hk, List.append_nil]
      refine ⟨h1, fun x => ?_⟩
      rw [h2]
      have hk' : m ≠ 0 ∧ d[m]! = d[m - 1]! := by
        unfold keeps at hk
        simp only [decide_eq_true_eq, not_or, Classical.not_not] at hk
        exact hk
      constructor
      · rintro ⟨j, hj, e⟩; exact ⟨j, by omega, e⟩
      · rintro ⟨j, hj, e⟩
        by_cases hjm : j = m
        · exact ⟨m - 1, by omega, by rw [← hk'.2, ← hjm, e]⟩
        · exact ⟨j, by omega, e⟩

def sl (l : List (List UInt8)) : List (List UInt8) := l.mergeSort fun x y => decide (x ≤ y)
theorem sl_perm (l : List (List UInt8)) : (sl l).Perm l := List.mergeSort_perm _ _
theorem sl_length (l : List (List UInt8)) : (sl l).length = l.length := (sl_perm l).length_eq
theorem sl_sorted (l : List (List UInt8)) : (sl l).Pairwise (· ≤ ·) := by
  have h := List.pairwise_mergeSort (le := fun (x y : List UInt8) => decide (x ≤ y)) (fun a b c h1 h2 => decide_eq_true (List.le_trans (of_decide_eq_true h1) (of_decide_eq_true h2)))
    (fun a b => by rw [Bool.or_eq_true, decide_eq_true_eq, decide_eq_true_eq]; exact List.le_total a b) l
  exact h.imp (fun h => of_decide_eq_true h)

/-- The elements in ascending order, each once. -/
def srtL (l : List (List UInt8)) : List (List UInt8) := compact (sl l)
theorem srtL_spec (l : List (List UInt8)) : Asc (srtL l) ∧ ∀ x, x ∈ srtL l ↔ x ∈ l := by
  have hd : ∀ i j, i < j → j < (sl l).toArray.size → (sl l).toArray[i]! ≤ (sl l).toArray[j]! := by
    intro i j hij hj
    have hj' : j < (sl l).length := by simpa using hj
    have h := List.pairwise_iff_getElem.1 (sl_sorted l) i j (by omega) hj' hij
    rw [getElem!_pos _ i (by simp; omega), getElem!_pos _ j hj]
    simpa using h
  obtain ⟨h1, h2⟩ := compact_asc _ hd (sl l).length (by simp)
  refine ⟨h1, fun x => ?_⟩
  unfold srtL compact
  rw [h2, ← (sl_perm l).mem_iff, List.mem_iff_getElem]
  constructor
  · rintro ⟨j, hj, e⟩
    refine ⟨j, hj, ?_⟩
    rw [getElem!_pos _ j (by simpa using hj)] at e
    simpa using e
  · rintro ⟨j, hj, e⟩
    refine ⟨j, hj, ?_⟩
    rw [getElem!_pos _ j (by simpa using hj)]
    simpa using e

def srt (ss : List ByteArray) : List ByteArray := (srtL (ss.map bl)).map lb
theorem srt_bl (ss : List ByteArray) : (srt ss).map bl = srtL (ss.map bl) := by
  unfold srt; rw [List.map_map]; exact List.map_id _
theorem mem_srt {ss : List ByteArray} {x : ByteArray} : x ∈ srt ss ↔ x ∈ ss := by
  unfold srt
  rw [List.mem_map]
  constructor
  · rintro ⟨l, h, rfl⟩
    obtain ⟨y, hy, e⟩ := List.mem_map.1 (((srtL_spec _).2 l).1 h)
    rw [← e, lb_bl]; exact hy
  · intro h
    exact ⟨bl x, ((srtL_spec _).2 _).2 (List.mem_map.2 ⟨x, h, rfl⟩), lb_bl x⟩
/-- Strictly ascending. -/
def AscB (ss : List ByteArray) : Prop := Asc (ss.map bl)
theorem srt_asc (ss : List ByteArray) : AscB (srt ss) := by unfold AscB; rw [srt_bl]; exact (srtL_spec _).1
theorem ascB_unique {a b : List ByteArray} (ha : AscB a) (hb : AscB b) (h : ∀ x, x ∈ a ↔ x ∈ b) : a = b := by
  have e : a.map bl = b.map bl := asc_unique ha hb fun x => by
    rw [List.mem_map, List.mem_map]
    exact ⟨fun ⟨y, hy, e⟩ => ⟨y, (h y).1 hy, e⟩, fun ⟨y, hy, e⟩ => ⟨y, (h y).2 hy, e⟩⟩
  have := congrArg (List.map lb) e
  rw [List.map_map, List.map_map] at this
  have i : (lb ∘ bl) = id := funext lb_bl
  rw [i, List.map_id, List.map_id] at this
  exact this
theorem asc_nodup {ss : List ByteArray} (h : AscB ss) : ss.Nodup := by
  unfold AscB Asc at h
  rw [List.pairwise_map] at h
  exact h.imp fun {a b} hab e => by rw [e] at hab; exact List.lt_irrefl _ hab
theorem srt_nodup (ss : List ByteArray) : (srt ss).Nodup := asc_nodup (srt_asc ss)
theorem srt_srt (ss : List ByteArray) : srt (srt ss) = srt ss := ascB_unique (srt_asc _) (srt_asc _) fun _ => mem_srt
theorem srt_length_le (ss : List ByteArray) : (srt ss).length ≤ ss.length := by
  have h : (srt ss) ⊆ ss := fun x hx => mem_srt.1 hx
  exact (srt_nodup ss).length_le_of_subset h
theorem shorter : ∀ {b : List ByteArray}, ¬ b.Nodup → ∃ c : List ByteArray, c.length + 1 = b.length ∧ ∀ x ∈ b, x ∈ c
  | [], h => absurd List.nodup_nil h
  | y :: t, h => by
    by_cases hy : y ∈ t
    · exact ⟨t, rfl, fun x hx => by
        rcases List.mem_cons.1 hx with rfl | hx
        · exact hy
        · exact hx⟩
    · obtain ⟨c, hc, hs⟩ := shorter (b := t) (fun hn => h (List.nodup_cons.2 ⟨hy, hn⟩))
      exact ⟨y :: c, by rw [List.length_cons, List.length_cons, hc], fun x hx => by
        rcases List.mem_cons.1 hx with rfl | hx
        · exact List.mem_cons_self
        · exact List.mem_cons_of_mem _ (hs x hx)⟩
/-- As long as before: nothing stood twice. -/
theorem srt_length (ss : List ByteArray) : (srt ss).length = ss.length ↔ ss.Nodup := by
  constructor
  · intro h
    refine Classical.byContradiction fun hn => ?_
    obtain ⟨c, hc, hs⟩ := shorter hn
    have := (srt_nodup ss).length_le_of_subset (fun x hx => hs x (mem_srt.1 hx))
    omega
  · intro h
    have h1 : ss ⊆ srt ss := fun x hx => mem_srt.2 hx
    have h2 := h.length_le_of_subset h1
    have h3 := srt_length_le ss
    omega
/-- No string stands twice. -/
def nodB (ss : List ByteArray) : Bool := decide ((srt ss).length = ss.length)
theorem nodB_yes {ss : List ByteArray} (h : ss.Nodup) : nodB ss = true := decide_eq_true ((srt_length ss).2 h)
theorem nodB_no {ss : List ByteArray} (h : ¬ ss.Nodup) : nodB ss = false := decide_eq_false fun e => h ((srt_length ss).1 e)
end Go.Proofs.Yteeehpldkhceoaa
