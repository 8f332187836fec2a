/-
  How many cells a cell's tree has: the cells that are reached from it, by marks downwards and by a list that grows.
-/
import Derived.Test.YtjlcbbaicengbaaDoorStoreT
import Derived.Test.YtjlcbbaicengbaaDoorIntsHas
namespace Go.Proofs.YtjlcbbaicengbaaDoor
open Go.ChangeShapes Go.WideShapes Go.ChangeAt Go.RowKit Go.Deep

/-- Which cells are reached when t cells were passed, from A downwards. -/
def markF (l : List DCell) (A : Nat) : Nat → Int → Bool
  | 0, x => decide (x = (A : Int))
  | t + 1, x => markF l A t x || (markF l A t ((A : Int) - (t : Int)) && decide (x ∈ (l.getD (A - t) default).fChildren))
def reachF (l : List DCell) (A : Nat) (x : Int) : Bool := markF l A (A + 1) x
def kidsLow (l : List DCell) : Prop := ∀ i, i < l.length → ∀ c ∈ (l.getD i default).fChildren, 0 ≤ c ∧ c < (i : Int)
theorem kidsLow_of {l : List DCell} (h : storeOk l = true) : kidsLow l := fun i hi c hc => by
  unfold storeOk at h
  have h1 := List.all_eq_true.1 h i (List.mem_range.2 hi)
  unfold cellOk at h1
  rw [Bool.and_eq_true] at h1
  have h2 := List.all_eq_true.1 h1.2 c hc
  rw [Bool.and_eq_true, decide_eq_true_eq, decide_eq_true_eq] at h2
  exact h2
theorem mark_succ (l : List DCell) (A t : Nat) (x : Int) : markF l A (t + 1) x = (markF l A t x || (markF l A t ((A : Int) - (t : Int)) && decide (x ∈ (l.getD (A - t) default).fChildren))) := rfl
theorem mark_mono {l : List DCell} {A t s : Nat} {x : Int} (h : t ≤ s) (hx : markF l A t x = true) : markF l A s x = true := by
  obtain ⟨d, rfl⟩ : ∃ d, s = t + d := ⟨s - t, by omega⟩
  induction d with
  | zero => exact hx
  | succ d ih => rw [show t + (d + 1) = (t + d) + 1 from rfl, mark_succ, ih (by omega), Bool.true_or]
theorem mark_keep {l : List DCell} (hv : kidsLow l) {A : Nat} (hA : A < l.length) {t s : Nat} (hts : t ≤ s) {i : Int} (hi : (A : Int) ≤ i + t) : markF l A s i = markF l A t i := by
  obtain ⟨d, rfl⟩ : ∃ d, s = t + d := ⟨s - t, by omega⟩
  induction d with
  | zero => rfl
  | succ d ih =>
    rw [show t + (d + 1) = (t + d) + 1 from rfl, mark_succ, ih (by omega)]
    have hno : decide (i ∈ (l.getD (A - (t + d)) default).fChildren) = false := decide_eq_false fun hm => by
      have := hv (A - (t + d)) (by omega) i hm
      omega
    rw [hno, Bool.and_false, Bool.or_false]
theorem mark_range {l : List DCell} (hv : kidsLow l) {A : Nat} (hA : A < l.length) : ∀ {t : Nat} {x : Int}, markF l A t x = true → 0 ≤ x ∧ x ≤ A
  | 0, x, h => by have : x = (A : Int) := of_decide_eq_true h; omega
  | t + 1, x, h => by
    rw [mark_succ, Bool.or_eq_true, Bool.and_eq_true] at h
    rcases h with h | ⟨_, h⟩
    · exact mark_range hv hA h
    · have := hv (A - t) (by omega) x (of_decide_eq_true h)
      omega
theorem reach_self (l : List DCell) (A : Nat) : reachF l A A = true := mark_mono (Nat.zero_le _) (show markF l A 0 A = true from decide_eq_true rfl)
theorem mark_reach {l : List DCell} (hv : kidsLow l) {A : Nat} (hA : A < l.length) {t : Nat} (ht : t ≤ A) : markF l A t ((A : Int) - (t : Int)) = reachF l A ((A : Int) - (t : Int)) := (mark_keep hv hA (show t ≤ A + 1 by omega) (by omega)).symm
theorem reach_kids {l : List DCell} (hv : kidsLow l) {A : Nat} (hA : A < l.length) {x : Int} (h : reachF l A x = true) {c : Int} (hc : c ∈ (l.getD x.toNat default).fChildren) : reachF l A c = true := by
  obtain ⟨h0, h1⟩ := mark_range hv hA h
  obtain ⟨j, rfl⟩ : ∃ j : Nat, x = (j : Int) := ⟨x.toNat, by omega⟩
  rw [Int.toNat_natCast] at hc
  have hj : j ≤ A := by omega
  have e1 : markF l A (A - j) (j : Int) = true := (mark_keep hv hA (show A - j ≤ A + 1 by omega) (by omega)).symm.trans h
  refine mark_mono (t := (A - j) + 1) (by omega) ?_
  rw [mark_succ, show (A : Int) - ((A - j : Nat) : Int) = (j : Int) by omega, e1, show A - (A - j) = j by omega, decide_eq_true hc]
  simp
theorem reach_least {l : List DCell} {A : Nat} {S : Int → Prop} (h0 : S A) (hc : ∀ j : Nat, j ≤ A → S j → ∀ c ∈ (l.getD j default).fChildren, S c) : ∀ {t : Nat} {x : Int}, t ≤ A + 1 → markF l A t x = true → S x
  | 0, x, _, h => by have : x = (A : Int) := of_decide_eq_true h; rw [this]; exact h0
  | t + 1, x, ht, h => by
    rw [mark_succ, Bool.or_eq_true, Bool.and_eq_true] at h
    rcases h with h | ⟨h1, h⟩
    · exact reach_least h0 hc (by omega) h
    · have h2 := reach_least h0 hc (by omega) h1
      rw [show (A : Int) - (t : Int) = ((A - t : Nat) : Int) by omega] at h2
      exact hc (A - t) (by omega) h2 x (of_decide_eq_true h)
/-- How many of the first t cells passed are reached. -/
def cntF (l : List DCell) (A t : Nat) : Nat := ((List.range t).filter fun s : Nat => reachF l A ((A : Int) - (s : Int))).length
theorem cnt_yes {l : List DCell} {A t : Nat} (h : reachF l A ((A : Int) - (t : Int)) = true) : cntF l A (t + 1) = cntF l A t + 1 := by
  unfold cntF
  rw [List.range_succ, List.filter_append, List.length_append]
  simp [h]
theorem cnt_no {l : List DCell} {A t : Nat} (h : reachF l A ((A : Int) - (t : Int)) = false) : cntF l A (t + 1) = cntF l A t := by
  unfold cntF
  rw [List.range_succ, List.filter_append, List.length_append]
  simp [h]
theorem cnt_le (l : List DCell) (A t : Nat) : cntF l A t ≤ t := by
  unfold cntF
  exact Nat.le_trans (List.length_filter_le _ _) (by simp)
theorem mem_down {A : Nat} {x : Int} (h0 : 0 ≤ x) (h1 : x ≤ A) : x ∈ (List.range (A + 1)).map (fun s : Nat => (A : Int) - (s : Int)) :=
  List.mem_map.2 ⟨A - x.toNat, List.mem_range.2 (by omega), by omega⟩
theorem nodup_down (A : Nat) (l : List Nat) (h : l.Nodup) : (l.map (fun s : Nat => (A : Int) - (s : Int))).Nodup := by
  unfold List.Nodup at *
  rw [List.pairwise_map]
  exact h.imp fun hab e => hab (by omega)
theorem list_le {l : List DCell} (hv : kidsLow l) {A : Nat} (hA : A < l.length) {L : List Int} (hn : L.Nodup) (hr : ∀ x ∈ L, reachF l A x = true) : L.length ≤ A + 1 := by
  have h := hn.length_le_of_subset (l₂ := (List.range (A + 1)).map (fun s : Nat => (A : Int) - (s : Int))) fun x hx => by
    obtain ⟨h0, h1⟩ := mark_range hv hA (hr x hx)
    exact mem_down h0 h1
  simpa using h
theorem list_cnt {l : List DCell} (hv : kidsLow l) {A : Nat} (hA : A < l.length) {L : List Int} (hn : L.Nodup) (h0 : (A : Int) ∈ L) (hr : ∀ x ∈ L, reachF l A x = true) (hc : ∀ x ∈ L, ∀ c ∈ (l.getD x.toNat default).fChildren, c ∈ L) : L.length = cntF l A (A + 1) := by
  have hp : L.Perm (((List.range (A + 1)).filter fun s : Nat => reachF l A ((A : Int) - (s : Int))).map (fun s : Nat => (A : Int) - (s : Int))) := by
    refine (List.perm_ext_iff_of_nodup hn (nodup_down A _ ((List.nodup_range).filter _))).2 fun x => ?_
    rw [List.mem_map]
    refine ⟨fun hx => ?_, fun ⟨s, hs, e⟩ => ?_⟩
    · have h1 := hr x hx
      obtain ⟨g0, g1⟩ := mark_range hv hA h1
      refine ⟨A - x.toNat, List.mem_filter.2 ⟨List.mem_range.2 (by omega), ?_⟩, by omega⟩
      rw [show (A : Int) - ((A - x.toNat : Nat) : Int) = x by omega]
      exact h1
    · have h1 := (List.mem_filter.1 hs).2
      rw [e] at h1
      exact reach_least (S := fun y => y ∈ L) h0 (fun j _ hj c hcc => hc (j : Int) hj c (by rw [Int.toNat_natCast]; exact hcc)) (Nat.le_refl _) h1
  rw [hp.length_eq, List.length_map]
  rfl
def sharedN (l : List DCell) (i : Int) : Int := if storeOk l = true ∧ 0 ≤ i ∧ i < l.length then (cntF l i.toNat (i.toNat + 1) : Int) else 0
theorem shared_no1 {l : List DCell} (h : storeOk l = false) (i : Int) : sharedN l i = 0 := by unfold sharedN; rw [if_neg (fun hh => by rw [h] at hh; cases hh.1)]
theorem shared_no2 {l : List DCell} {i : Int} (h : ¬ (0 ≤ i ∧ i < l.length)) : sharedN l i = 0 := by unfold sharedN; rw [if_neg (fun hh => h hh.2)]
theorem shared_yes {l : List DCell} {A : Nat} (h : storeOk l = true) (hA : A < l.length) : sharedN l A = (cntF l A (A + 1) : Int) := by unfold sharedN; rw [if_pos ⟨h, by omega, by omega⟩, Int.toNat_natCast]
/-! The list that grows. -/
structure SInv (l : List DCell) (A : Nat) (L : List Int) : Prop where
  nodup : L.Nodup
  self : (A : Int) ∈ L
  reach : ∀ x ∈ L, reachF l A x = true
theorem SInv.start (l : List DCell) (A : Nat) : SInv l A [(A : Int)] := ⟨by simp, List.mem_singleton.2 rfl, fun x hx => by rw [List.mem_singleton.1 hx]; exact reach_self l A⟩
theorem SInv.add {l : List DCell} {A : Nat} {L : List Int} (h : SInv l A L) {c : Int} (hc : c ∉ L) (hr : reachF l A c = true) : SInv l A (L ++ [c]) := by
  refine ⟨?_, List.mem_append_left _ h.self, fun x hx => ?_⟩
  · have := h.nodup
    unfold List.Nodup at *
    rw [List.pairwise_append]
    exact ⟨this, List.pairwise_singleton _ _, fun a ha b hb e => hc (by rw [List.mem_singleton.1 hb] at e; exact e ▸ ha)⟩
  · rcases List.mem_append.1 hx with hx | hx
    · exact h.reach x hx
    · rw [List.mem_singleton.1 hx]; exact hr
/-- The children of the first p members are members. -/
def doneTo (l : List DCell) (L : List Int) (p : Nat) : Prop := ∀ q, q < p → ∀ c ∈ (l.getD (L.getD q default).toNat default).fChildren, c ∈ L
theorem doneTo.grow {l : List DCell} {L N : List Int} {p : Nat} (hp : p < L.length) (h : doneTo l L p) (hk : ∀ c ∈ (l.getD (L.getD p default).toNat default).fChildren, c ∈ L ++ N) : doneTo l (L ++ N) (p + 1) := fun q hq c hc => by
  have e : (L ++ N).getD q default = L.getD q default := by rw [List.getD_eq_getElem?_getD, List.getElem?_append_left (by omega), ← List.getD_eq_getElem?_getD]
  rw [e] at hc
  by_cases hqp : q = p
  · subst hqp; exact hk c hc
  · exact List.mem_append_left _ (h q (by omega) c hc)
theorem doneTo.all {l : List DCell} {L : List Int} (h : doneTo l L L.length) : ∀ x ∈ L, ∀ c ∈ (l.getD x.toNat default).fChildren, c ∈ L := fun x hx c hc => by
  obtain ⟨q, hq, rfl⟩ := List.getElem_of_mem hx
  have e : L.getD q default = L[q] := by rw [List.getD_eq_getElem?_getD, List.getElem?_eq_getElem hq, Option.getD_some]
  exact h q hq c (by rw [e]; exact hc)
theorem hasI_yes {L : List Int} {c : Int} (h : hasI L c = true) : c ∈ L := by
  unfold hasI idxI at h
  cases hf : L.findIdx? (PInt c) with
  | none =>
    rw [hf] at h
    have : (0 : Int) ≤ -1 := of_decide_eq_true h
    omega
  | some k =>
    obtain ⟨hk, hp, _⟩ := List.findIdx?_eq_some_iff_getElem.1 hf
    rw [← show L[k] = c from of_decide_eq_true hp]
    exact List.getElem_mem hk
theorem hasI_no {L : List Int} {c : Int} (h : hasI L c = false) : c ∉ L := fun hm => by
  unfold hasI idxI at h
  cases hf : L.findIdx? (PInt c) with
  | none =>
    rw [List.findIdx?_eq_none_iff] at hf
    have := hf c hm
    unfold PInt at this
    rw [decide_eq_true rfl] at this
    cases this
  | some k =>
    rw [hf] at h
    have : (0 : Int) ≤ (k : Int) := by omega
    rw [decide_eq_true this] at h
    cases h
/-- Marks while the children of a reached cell are passed. -/
def markJ (l : List DCell) (A t j : Nat) (x : Int) : Bool := markF l A t x || decide (x ∈ ((l.getD (A - t) default).fChildren.take j))
theorem markJ_zero (l : List DCell) (A t : Nat) : markJ l A t 0 = markF l A t := by
  funext x
  unfold markJ
  rw [List.take_zero, decide_eq_false (by simp), Bool.or_false]
theorem markJ_all {l : List DCell} {A t : Nat} (h : markF l A t ((A : Int) - (t : Int)) = true) : markJ l A t (l.getD (A - t) default).fChildren.length = markF l A (t + 1) := by
  funext x
  unfold markJ
  rw [List.take_length, mark_succ, h, Bool.true_and]
theorem mark_skip {l : List DCell} {A t : Nat} (h : markF l A t ((A : Int) - (t : Int)) = false) : markF l A (t + 1) = markF l A t := by
  funext x
  rw [mark_succ, h, Bool.false_and, Bool.or_false]
theorem mem_takeT {ch : List Int} {j : Nat} (hj : j < ch.length) {y : Int} : y ∈ ch.take (j + 1) ↔ y ∈ ch.take j ∨ y = ch.getD j default := by
  rw [List.take_succ_eq_append_getElem hj, List.mem_append, List.mem_singleton, List.getD_eq_getElem?_getD, List.getElem?_eq_getElem hj, Option.getD_some]
theorem markJ_put {l : List DCell} {A t j : Nat} (hj : j < (l.getD (A - t) default).fChildren.length) : markJ l A t (j + 1) ((l.getD (A - t) default).fChildren.getD j default) = true := by
  unfold markJ
  rw [decide_eq_true ((mem_takeT hj).2 (.inr rfl)), Bool.or_true]
theorem markJ_other {l : List DCell} {A t j : Nat} (hj : j < (l.getD (A - t) default).fChildren.length) {y : Int} (hy : y ≠ (l.getD (A - t) default).fChildren.getD j default) : markJ l A t (j + 1) y = markJ l A t j y := by
  unfold markJ
  congr 1
  refine decide_eq_decide.2 ?_
  rw [mem_takeT hj]
  exact ⟨fun h => h.elim id fun e => absurd e hy, .inl⟩
end Go.Proofs.YtjlcbbaicengbaaDoor
