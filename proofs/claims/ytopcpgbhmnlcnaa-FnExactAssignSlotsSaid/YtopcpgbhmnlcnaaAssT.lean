/-
  AssignSlots: what it computes.
-/
import Derived.Test.YtopcpgbhmnlcnaaCheckSL
namespace Go.Proofs.Ytopcpgbhmnlcnaa
open Go.ChangeShapes Go.WideShapes Go.ChangeAt Go.RowKit Go.Deep

/-- The first cell that is free at step k; -1 if there is none. -/
def asgAt (k : Nat) (fr : List Int) : Int := idxI (fun z => decide (z ≤ (k : Int))) fr
def asgC (k : Nat) (fr : List Int) : Nat := if asgAt k fr < 0 then fr.length else (asgAt k fr).toNat
def asgF (k : Nat) (f : Int) (fr : List Int) : List Int := if asgAt k fr < 0 then fr ++ [f] else fr.set (asgAt k fr).toNat f
/-- The cells of the first k steps, and when each cell is free. -/
def asg (tr : List DTraceStep) (kp : List DInstance) : Nat → List Int × List Int
  | 0 => ([], [])
  | k + 1 => ((asg tr kp k).1 ++ [(asgC k (asg tr kp k).2 : Int)], asgF k (freeT tr kp k) (asg tr kp k).2)
theorem asgAt_cases (k : Nat) (fr : List Int) : (asgAt k fr = -1 ∧ ∀ c, c < fr.length → (k : Int) < fr.getD c default) ∨ ∃ q : Nat, q < fr.length ∧ asgAt k fr = q ∧ fr.getD q default ≤ k ∧ ∀ c, c < q → (k : Int) < fr.getD c default := by
  unfold asgAt idxI
  cases h : fr.findIdx? (fun z => decide (z ≤ (k : Int))) with
  | none =>
    rw [List.findIdx?_eq_none_iff] at h
    refine .inl ⟨rfl, fun c hc => ?_⟩
    have h1 := h (fr.getD c default) (by rw [List.getD_eq_getElem?_getD, List.getElem?_eq_getElem hc]; exact List.getElem_mem hc)
    rw [decide_eq_false_iff_not] at h1
    omega
  | some q =>
    rw [List.findIdx?_eq_some_iff_getElem] at h
    obtain ⟨h1, h2, h3⟩ := h
    refine .inr ⟨q, h1, rfl, ?_, fun c hc => ?_⟩
    · rw [decide_eq_true_eq] at h2
      rw [List.getD_eq_getElem?_getD, List.getElem?_eq_getElem h1]; exact h2
    · have h4 := h3 c hc
      rw [decide_eq_true_eq] at h4
      rw [List.getD_eq_getElem?_getD, List.getElem?_eq_getElem (Nat.lt_trans hc h1)]
      show (k : Int) < fr[c]
      omega
theorem asgF_len (k : Nat) (f : Int) (fr : List Int) : (asgF k f fr).length = if asgAt k fr < 0 then fr.length + 1 else fr.length := by
  unfold asgF
  split
  · simp
  · simp
theorem asg_len1 (tr : List DTraceStep) (kp : List DInstance) : ∀ k, (asg tr kp k).1.length = k
  | 0 => rfl
  | k + 1 => by
    show ((asg tr kp k).1 ++ [_]).length = k + 1
    rw [List.length_append, asg_len1 tr kp k]; rfl
theorem asg_len2 (tr : List DTraceStep) (kp : List DInstance) : ∀ k, (asg tr kp k).2.length ≤ k
  | 0 => Nat.le_refl _
  | k + 1 => by
    have ih := asg_len2 tr kp k
    show (asgF k (freeT tr kp k) (asg tr kp k).2).length ≤ k + 1
    rw [asgF_len]
    split <;> omega
theorem asg_same (tr : List DTraceStep) (kp : List DInstance) {j : Nat} : ∀ {k}, j < k → (asg tr kp k).1.getD j default = (asgC j (asg tr kp j).2 : Int)
  | k + 1, h => by
    show ((asg tr kp k).1 ++ [_]).getD j default = _
    rcases Nat.lt_or_ge j k with hj | hj
    · rw [List.getD_eq_getElem?_getD, List.getElem?_append_left (by rw [asg_len1]; exact hj), ← List.getD_eq_getElem?_getD]
      exact asg_same tr kp hj
    · obtain rfl : j = k := by omega
      rw [List.getD_eq_getElem?_getD, List.getElem?_append_right (by rw [asg_len1]; exact Nat.le_refl _), asg_len1, Nat.sub_self]
      rfl
theorem asgC_lt {k : Nat} {f : Int} {fr : List Int} : asgC k fr < (asgF k f fr).length := by
  rw [asgF_len]
  unfold asgC
  rcases asgAt_cases k fr with ⟨h, _⟩ | ⟨q, h1, h2, _⟩
  · rw [if_pos (by omega), if_pos (by omega)]; omega
  · rw [if_neg (by omega), if_neg (by omega), h2]; omega
theorem asg_mono (tr : List DTraceStep) (kp : List DInstance) (k : Nat) : (asg tr kp k).2.length ≤ (asg tr kp (k + 1)).2.length := by
  show _ ≤ (asgF k (freeT tr kp k) (asg tr kp k).2).length
  rw [asgF_len]
  split <;> omega
theorem asg_mono' (tr : List DTraceStep) (kp : List DInstance) {j : Nat} : ∀ {k}, j ≤ k → (asg tr kp j).2.length ≤ (asg tr kp k).2.length
  | 0, h => by obtain rfl : j = 0 := by omega
               exact Nat.le_refl _
  | k + 1, h => by
    rcases Nat.lt_or_ge k j with hj | hj
    · obtain rfl : j = k + 1 := by omega
      exact Nat.le_refl _
    · exact Nat.le_trans (asg_mono' tr kp hj) (asg_mono tr kp k)
theorem asg_lt (tr : List DTraceStep) (kp : List DInstance) {j k : Nat} (h : j < k) : asgC j (asg tr kp j).2 < (asg tr kp k).2.length :=
  Nat.lt_of_lt_of_le (asgC_lt (f := freeT tr kp j)) (asg_mono' tr kp (j := j + 1) h)
theorem getD_app {l : List Int} {z : Int} {c : Nat} (h : c < l.length) : (l ++ [z]).getD c default = l.getD c default := by
  rw [List.getD_eq_getElem?_getD, List.getD_eq_getElem?_getD, List.getElem?_append_left h]
theorem getD_app_len {l : List Int} {z : Int} : (l ++ [z]).getD l.length default = z := by
  rw [List.getD_eq_getElem?_getD, List.getElem?_append_right (Nat.le_refl _), Nat.sub_self]; rfl
/-- A cell is taken at m when some step's value in it is needed longer. -/
theorem asg_used (tr : List DTraceStep) (kp : List DInstance) : ∀ (k m c : Nat), k ≤ m + 1 → c < (asg tr kp k).2.length → ((m : Int) < (asg tr kp k).2.getD c default ↔ ∃ j, j < k ∧ asgC j (asg tr kp j).2 = c ∧ (m : Int) < freeT tr kp j)
  | 0, m, c, _, hc => absurd hc (Nat.not_lt_zero _)
  | k + 1, m, c, hm, hc => by
    have ih := asg_used tr kp k m c (by omega)
    have hc' : c < (asgF k (freeT tr kp k) (asg tr kp k).2).length := hc
    show (m : Int) < (asgF k (freeT tr kp k) (asg tr kp k).2).getD c default ↔ _
    have hlt : ∀ j, j < k → asgC j (asg tr kp j).2 < (asg tr kp k).2.length := fun j hj => asg_lt tr kp hj
    have hck : ∀ fr, fr = (asg tr kp k).2 → asgC k fr = asgC k (asg tr kp k).2 := fun fr e => by rw [e]
    generalize hfr : (asg tr kp k).2 = fr at *
    rw [asgF_len] at hc'
    rcases asgAt_cases k fr with ⟨h1, h2⟩ | ⟨q, h1, h2, h3, h4⟩
    · have e1 : asgF k (freeT tr kp k) fr = fr ++ [freeT tr kp k] := by unfold asgF; rw [if_pos (by omega)]
      have e2 : asgC k fr = fr.length := by unfold asgC; rw [if_pos (by omega)]
      rw [if_pos (by omega)] at hc'
      rw [e1]
      rcases Nat.lt_or_ge c fr.length with hl | hl
      · rw [getD_app hl, ih hl]
        refine ⟨fun ⟨j, a, b, d⟩ => ⟨j, by omega, b, d⟩, fun ⟨j, a, b, d⟩ => ?_⟩
        rcases Nat.lt_or_ge j k with hj | hj
        · exact ⟨j, hj, b, d⟩
        · obtain rfl : j = k := by omega
          rw [hfr, e2] at b
          omega
      · obtain rfl : c = fr.length := by omega
        rw [getD_app_len]
        refine ⟨fun h => ⟨k, by omega, by rw [hfr, e2], h⟩, fun ⟨j, a, b, d⟩ => ?_⟩
        rcases Nat.lt_or_ge j k with hj | hj
        · have := hlt j hj
          omega
        · obtain rfl : j = k := by omega
          exact d
    · have e1 : asgF k (freeT tr kp k) fr = fr.set q (freeT tr kp k) := by unfold asgF; rw [if_neg (by omega), h2]; rfl
      have e2 : asgC k fr = q := by unfold asgC; rw [if_neg (by omega), h2]; rfl
      rw [if_neg (by omega)] at hc'
      rw [e1]
      by_cases hq : q = c
      · subst hq
        rw [List.getD_eq_getElem?_getD, List.getElem?_set_self h1]
        show (m : Int) < freeT tr kp k ↔ _
        refine ⟨fun h => ⟨k, by omega, by rw [hfr, e2], h⟩, fun ⟨j, a, b, d⟩ => ?_⟩
        rcases Nat.lt_or_ge j k with hj | hj
        · have h5 := (ih h1).2 ⟨j, hj, b, d⟩
          omega
        · obtain rfl : j = k := by omega
          exact d
      · rw [List.getD_eq_getElem?_getD, List.getElem?_set_ne hq, ← List.getD_eq_getElem?_getD, ih hc']
        refine ⟨fun ⟨j, a, b, d⟩ => ⟨j, by omega, b, d⟩, fun ⟨j, a, b, d⟩ => ?_⟩
        rcases Nat.lt_or_ge j k with hj | hj
        · exact ⟨j, hj, b, d⟩
        · obtain rfl : j = k := by omega
          rw [hfr, e2] at b
          omega

theorem flat_set1 (f : Int) : ∀ (l : List Int) (k : Nat), (l.set k f).flatMap vU = (l.flatMap vU).set k (.int .i64 f)
  | [], _ => by simp
  | y :: l, 0 => by simp [vU]
  | y :: l, k + 1 => by
    have ih := flat_set1 f l k
    rw [List.set_cons_succ, List.flatMap_cons, List.flatMap_cons, ih]
    rfl
theorem row_set1 {w : World} {B g c k n : Nat} {l : List Int} (f : Int) (h : w.ownsRow B 3 1 (.slice (some ⟨g, 0, none⟩) n c) n (l.flatMap vU)) :
    (w.setCell ⟨g, k, none⟩ (.int .i64 f)).ownsRow B 3 1 (.slice (some ⟨g, 0, none⟩) n c) n ((l.set k f).flatMap vU) := by
  rw [flat_set1]
  exact (h.stored k _).1
end Go.Proofs.Ytopcpgbhmnlcnaa
