/-
  Plain facts on splitting a list of bytes at every occurrence of one byte. Nothing of the program stands here.
-/
import Derived.Lib.Split
import Derived.Lib.SplitLaws
import Derived.Lib.Join
import Derived.WideShapes
namespace Go.Proofs.YtjlcbbaicengbaaDoor.Sp
open Go.Lib

/-- The pieces between the occurrences of c. -/
def sp (c : UInt8) : List UInt8 → List (List UInt8)
  | [] => [[]]
  | b :: l => if b = c then [] :: sp c l else (b :: (sp c l).headD []) :: (sp c l).tail

theorem sp_cons (c b : UInt8) (l : List UInt8) : sp c (b :: l) = if b = c then [] :: sp c l else (b :: (sp c l).headD []) :: (sp c l).tail := rfl
theorem splitK_succ (sep : List UInt8) (k : Nat) (s : List UInt8) : splitK sep 0 (k + 1) s = if index s sep == -1 then [s] else s.take ((index s sep).toNat + 0) :: splitK sep 0 k (s.drop ((index s sep).toNat + sep.length)) := rfl
theorem sp_ne (c : UInt8) (l : List UInt8) : sp c l ≠ [] := by
  cases l with
  | nil => intro h; cases h
  | cons b l => unfold sp; split <;> (intro h; cases h)
theorem sp_head (c : UInt8) (l : List UInt8) : (sp c l).headD [] :: (sp c l).tail = sp c l := by
  cases h : sp c l with
  | nil => exact absurd h (sp_ne c l)
  | cons x r => rfl
theorem sp_none (c : UInt8) : ∀ l : List UInt8, c ∉ l → sp c l = [l]
  | [], _ => rfl
  | b :: l, h => by
    have h1 : ¬ b = c := fun e => h (by rw [e]; exact List.mem_cons_self)
    unfold sp
    rw [if_neg h1, sp_none c l (fun h' => h (List.mem_cons_of_mem _ h'))]
    rfl
theorem sp_seg (c : UInt8) (r : List UInt8) : ∀ l : List UInt8, c ∉ l → sp c (l ++ c :: r) = l :: sp c r
  | [], _ => by rw [List.nil_append, sp_cons, if_pos rfl]
  | b :: l, h => by
    have h1 : ¬ b = c := fun e => h (by rw [e]; exact List.mem_cons_self)
    have ih := sp_seg c r l (fun h' => h (List.mem_cons_of_mem _ h'))
    rw [List.cons_append, sp_cons, if_neg h1, ih]
    rfl
theorem sp_free (c : UInt8) : ∀ l : List UInt8, ∀ x ∈ sp c l, c ∉ x
  | [], x, h => by rw [List.mem_singleton.1 h]; exact List.not_mem_nil
  | b :: l, x, h => by
    have ih := sp_free c l
    unfold sp at h
    split at h
    · rcases List.mem_cons.1 h with rfl | h
      · exact List.not_mem_nil
      · exact ih x h
    · rename_i hb
      rcases List.mem_cons.1 h with rfl | h
      · intro hm
        rcases List.mem_cons.1 hm with e | hm
        · exact hb e.symm
        · exact ih _ (by rw [← sp_head c l]; exact List.mem_cons_self) hm
      · exact ih x (List.mem_of_mem_tail h)
theorem sp_join (c : UInt8) : ∀ l : List UInt8, join (sp c l) [c] = l
  | [] => rfl
  | b :: l => by
    have ih := sp_join c l
    rw [← sp_head c l, join_cons] at ih
    unfold sp
    split
    · rename_i hb
      rw [join_cons, ← sp_head c l]
      show [] ++ joinTail [c] _ = _
      rw [List.nil_append]
      unfold joinTail at *
      rw [List.map_cons, List.flatten_cons, hb, List.append_assoc, ih]
      rfl
    · rw [join_cons, List.cons_append, ih]

theorem sp_length (c : UInt8) : ∀ l : List UInt8, (sp c l).length ≤ l.length + 1
  | [] => Nat.le_refl _
  | b :: l => by
    have ih := sp_length c l
    unfold sp
    split
    · simp only [List.length_cons]; omega
    · simp only [List.length_cons, List.length_tail]; omega

theorem sp_sum (c : UInt8) : ∀ l : List UInt8, ((sp c l).map List.length).sum ≤ l.length
  | [] => Nat.le_refl _
  | b :: l => by
    have ih := sp_sum c l
    rw [sp_cons]
    split
    · rw [List.map_cons, List.sum_cons, List.length_nil, List.length_cons]; omega
    · rw [← sp_head c l, List.map_cons, List.sum_cons] at ih
      rw [List.map_cons, List.sum_cons, List.length_cons, List.length_cons]
      omega

theorem count_zero (c : UInt8) (l : List UInt8) (h : count l [c] = 0) : c ∉ l := by
  rw [count_one] at h
  exact List.count_eq_zero.1 h

/-- The library's split at one byte. -/
theorem splitK_eq (c : UInt8) : ∀ l : List UInt8, splitK [c] 0 (count l [c]) l = sp c l
  | [] => by rw [count_one]; rfl
  | b :: l => by
    have ih := splitK_eq c l
    by_cases hb : b = c
    · subst hb
      have hix : index (b :: l) [b] = 0 := by rw [index]; simp [List.isPrefixOf]
      rw [count_cons_eq, Nat.add_comm]
      unfold splitK sp
      rw [hix, if_neg (by decide), if_pos rfl]
      show [] :: splitK [b] 0 (count l [b]) l = _
      rw [ih]
    · rw [count_cons_ne b c l hb]
      cases hk : count l [c] with
      | zero =>
        have hn := count_zero c l hk
        rw [sp_none c (b :: l) (fun h => by rcases List.mem_cons.1 h with e | h; exact hb e.symm; exact hn h)]
        rfl
      | succ k =>
        rw [hk] at ih
        have hp : ([c] : List UInt8).isPrefixOf (b :: l) = false := by simp [List.isPrefixOf, Ne.symm hb]
        have hm : ¬ index l [c] = -1 := fun h => by rw [count_miss h] at hk; cases hk
        have hge := index_ge l [c]
        obtain ⟨j, hj⟩ : ∃ j : Nat, index l [c] = j := ⟨(index l [c]).toNat, by omega⟩
        have hix : index (b :: l) [c] = ((j + 1 : Nat) : Int) := by rw [index, hp, if_neg (by decide), if_neg (fun e => hm (beq_iff_eq.1 e)), hj]; omega
        have e1 : splitK [c] 0 (k + 1) l = l.take j :: splitK [c] 0 k (l.drop (j + 1)) := by
          rw [splitK_succ, hj, if_neg (fun e => by have := beq_iff_eq.1 e; omega), Int.toNat_natCast]
          rfl
        have e2 : splitK [c] 0 (k + 1) (b :: l) = (b :: l.take j) :: splitK [c] 0 k (l.drop (j + 1)) := by
          rw [splitK_succ, hix, if_neg (fun e => by have := beq_iff_eq.1 e; omega), Int.toNat_natCast]
          rfl
        rw [e1] at ih
        rw [e2, sp_cons, if_neg hb, ← ih]
        rfl

/-- The pieces, as strings. -/
def parts (c : UInt8) (s : ByteArray) : List ByteArray := splitB ⟨#[c]⟩ 0 (countB s ⟨#[c]⟩) s
theorem parts_data (c : UInt8) (s : ByteArray) : (parts c s).map (·.data.toList) = sp c s.data.toList := by
  unfold parts
  rw [splitB_data]
  exact splitK_eq c s.data.toList
theorem parts_unique (c : UInt8) (s : ByteArray) (l : List ByteArray) (h : l.map (·.data.toList) = sp c s.data.toList) : l = parts c s := by
  rw [← parts_data] at h
  have inj : ∀ (a b : List ByteArray), a.map (·.data.toList) = b.map (·.data.toList) → a = b := by
    intro a
    induction a with
    | nil => intro b hb; cases b with
      | nil => rfl
      | cons _ _ => cases hb
    | cons x a ih => intro b hb; cases b with
      | nil => cases hb
      | cons y b =>
        rw [List.map_cons, List.map_cons, List.cons.injEq] at hb
        rw [WideShapes.bytes_inj hb.1, ih b hb.2]
  exact inj _ _ h
theorem parts_length (c : UInt8) (s : ByteArray) : (parts c s).length = countB s ⟨#[c]⟩ + 1 := splitB_all ⟨#[c]⟩ (Nat.le_refl _) 0 _ s rfl
theorem parts_length_le (c : UInt8) (s : ByteArray) : (parts c s).length ≤ s.size + 1 := by
  have h := congrArg List.length (parts_data c s)
  rw [List.length_map] at h
  rw [h, ← (show s.data.toList.length = s.size by simp)]
  exact sp_length c _

/-- The state of a loop that cuts at c: 'done' pieces, and the place from which the next one runs. -/
structure Cutting (c : UInt8) (s : ByteArray) (done : List ByteArray) (from_ i : Nat) : Prop where
  le : from_ ≤ i
  lei : i ≤ s.size
  eq : sp c s.data.toList = done.map (·.data.toList) ++ sp c (s.data.toList.drop from_)
  free : c ∉ (s.data.toList.drop from_).take (i - from_)
theorem Cutting.start (c : UInt8) (s : ByteArray) : Cutting c s [] 0 0 := ⟨Nat.le_refl _, Nat.zero_le _, rfl, by simp⟩
theorem Cutting.skip {c : UInt8} {s : ByteArray} {done : List ByteArray} {f i : Nat} (h : Cutting c s done f i) (hi : i < s.size) (hne : s[i] ≠ c) : Cutting c s done f (i + 1) := by
  refine ⟨by have := h.le; omega, hi, h.eq, ?_⟩
  have hle := h.le
  have hlen : s.data.toList.length = s.size := by simp
  have e : (s.data.toList.drop f).take (i + 1 - f) = (s.data.toList.drop f).take (i - f) ++ [s[i]] := by
    rw [show i + 1 - f = (i - f) + 1 by omega, List.take_succ_eq_append_getElem (by rw [List.length_drop]; omega), List.getElem_drop]
    congr 2
    show s.data.toList[f + (i - f)] = _
    simp only [show f + (i - f) = i by omega]
    rfl
  rw [e, List.mem_append, not_or]
  exact ⟨h.free, fun hm => hne (List.mem_singleton.1 hm).symm⟩
theorem Cutting.cut {c : UInt8} {s : ByteArray} {done : List ByteArray} {f i : Nat} (h : Cutting c s done f i) (hi : i < s.size) (he : s[i] = c) : Cutting c s (done ++ [s.extract f i]) (i + 1) (i + 1) := by
  have hle := h.le
  have hlen : s.data.toList.length = s.size := by simp
  refine ⟨Nat.le_refl _, hi, ?_, by simp⟩
  have e : s.data.toList.drop f = (s.data.toList.drop f).take (i - f) ++ c :: s.data.toList.drop (i + 1) := by
    have e1 := (List.take_append_drop (i - f) (s.data.toList.drop f)).symm
    rw [List.drop_drop, show f + (i - f) = i by omega, List.drop_eq_getElem_cons (by omega : i < s.data.toList.length)] at e1
    have e2 : s.data.toList[i] = c := by rw [← he]; rfl
    rw [e2] at e1
    exact e1
  rw [h.eq, e, sp_seg c _ _ h.free, List.map_append, List.append_assoc, List.map_cons, List.map_nil]
  congr 2
  rw [extract_data]
theorem Cutting.last {c : UInt8} {s : ByteArray} {done : List ByteArray} {f : Nat} (h : Cutting c s done f s.size) : done ++ [s.extract f s.size] = parts c s := by
  refine parts_unique c s _ ?_
  have hlen : s.data.toList.length = s.size := by simp
  have hf := h.free
  rw [List.take_of_length_le (by rw [List.length_drop]; omega)] at hf
  rw [h.eq, sp_none c _ hf, List.map_append, List.map_cons, List.map_nil, extract_data, List.take_of_length_le (by rw [List.length_drop]; omega)]
theorem Cutting.few {c : UInt8} {s : ByteArray} {done : List ByteArray} {f i : Nat} (h : Cutting c s done f i) : done.length ≤ s.size := by
  have h1 := congrArg List.length h.eq
  have h2 := sp_length c s.data.toList
  have h3 := List.length_pos_iff.2 (sp_ne c (s.data.toList.drop f))
  have hlen : s.data.toList.length = s.size := by simp
  rw [List.length_append, List.length_map] at h1
  omega
end Go.Proofs.YtjlcbbaicengbaaDoor.Sp
