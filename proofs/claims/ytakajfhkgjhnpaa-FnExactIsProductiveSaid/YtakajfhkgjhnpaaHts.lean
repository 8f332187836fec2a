/-
  The least heights of the symbols of a grammar, round by round.
-/
import Derived.Test.YtakajfhkgjhnpaaSymNamed
namespace Go.Proofs.Ytakajfhkgjhnpaa
open Go.ChangeShapes Go.WideShapes Go.ChangeAt Go.RowKit Go.Deep

instance decBytes : DecidableEq ByteArray := fun a b => if h : a.data = b.data then isTrue (by cases a; cases b; simp_all) else isFalse fun e => h (by rw [e])
instance decMem (s : ByteArray) (L : List ByteArray) : Decidable (s ∈ L) := decidable_of_iff ((L.any fun x => decide (x = s)) = true) (by simp [List.any_eq_true])
def allPos (h : ByteArray → Int) (l : List ByteArray) : Bool := l.all fun s => decide (0 < h s)
/-- The left side of a rule, if it gets a height now. -/
def newOf (g : DGrammar) (h : ByteArray → Int) (r : DRule) : List ByteArray := if symB g.fSymbols r.fLeft = true ∧ h r.fLeft = 0 ∧ allPos h r.fRight = true then [r.fLeft] else []
theorem newOf_yes {g : DGrammar} {h : ByteArray → Int} {r : DRule} (h1 : symB g.fSymbols r.fLeft = true) (h2 : h r.fLeft = 0) (h3 : allPos h r.fRight = true) : newOf g h r = [r.fLeft] := if_pos ⟨h1, h2, h3⟩
theorem newOf_no1 {g : DGrammar} {h : ByteArray → Int} {r : DRule} (h1 : symB g.fSymbols r.fLeft = false) : newOf g h r = [] := if_neg fun e => by rw [h1] at e; exact absurd e.1 (by decide)
theorem newOf_no2 {g : DGrammar} {h : ByteArray → Int} {r : DRule} (h1 : h r.fLeft ≠ 0) : newOf g h r = [] := if_neg fun e => h1 e.2.1
theorem newOf_no3 {g : DGrammar} {h : ByteArray → Int} {r : DRule} (h1 : allPos h r.fRight = false) : newOf g h r = [] := if_neg fun e => by rw [h1] at e; exact absurd e.2.2 (by decide)
def newl (g : DGrammar) (h : ByteArray → Int) (l : List DRule) : List ByteArray := l.flatMap (newOf g h)
theorem newl_snoc (g : DGrammar) (h : ByteArray → Int) (l : List DRule) (r : DRule) : newl g h (l ++ [r]) = newl g h l ++ newOf g h r := by unfold newl; rw [List.flatMap_append, List.flatMap_cons, List.flatMap_nil, List.append_nil]
theorem newl_len (g : DGrammar) (h : ByteArray → Int) : ∀ l : List DRule, (newl g h l).length ≤ l.length
  | [] => Nat.le_refl _
  | r :: l => by
    have ih := newl_len g h l
    unfold newl at *
    rw [List.flatMap_cons, List.length_append, List.length_cons]
    have : (newOf g h r).length ≤ 1 := by unfold newOf; split <;> simp
    omega
theorem newl_mem {g : DGrammar} {h : ByteArray → Int} {l : List DRule} {s : ByteArray} : s ∈ newl g h l ↔ ∃ r ∈ l, r.fLeft = s ∧ symB g.fSymbols r.fLeft = true ∧ h r.fLeft = 0 ∧ allPos h r.fRight = true := by
  unfold newl
  rw [List.mem_flatMap]
  constructor
  · rintro ⟨r, hr, hs⟩
    unfold newOf at hs
    split at hs
    · rename_i hc
      rw [List.mem_singleton] at hs
      exact ⟨r, hr, hs.symm, hc⟩
    · simp at hs
  · rintro ⟨r, hr, rfl, hc⟩
    exact ⟨r, hr, by unfold newOf; rw [if_pos hc]; simp⟩
/-- The heights, once the names of L have height t. -/
def htSet (h : ByteArray → Int) (t : Int) (L : List ByteArray) : ByteArray → Int := fun s => if s ∈ L then t else h s
theorem htSet_nil (h : ByteArray → Int) (t : Int) : htSet h t [] = h := by funext s; simp [htSet]
theorem htSet_snoc_same (h : ByteArray → Int) (t : Int) (L : List ByteArray) (s : ByteArray) : htSet h t (L ++ [s]) s = t := by simp [htSet]
theorem htSet_snoc_other (h : ByteArray → Int) (t : Int) (L : List ByteArray) {s x : ByteArray} (hx : x ≠ s) : htSet h t (L ++ [s]) x = htSet h t L x := by simp [htSet, hx]
/-- The heights behind t rounds. -/
def hts (g : DGrammar) : Nat → ByteArray → Int
  | 0 => fun _ => 0
  | t + 1 => htSet (hts g t) ((t + 1 : Nat) : Int) (newl g (hts g t) g.fRules)
theorem hts_succ (g : DGrammar) (t : Nat) : hts g (t + 1) = htSet (hts g t) ((t + 1 : Nat) : Int) (newl g (hts g t) g.fRules) := rfl
theorem hts_bound (g : DGrammar) : ∀ (t : Nat) (s : ByteArray), 0 ≤ hts g t s ∧ hts g t s ≤ (t : Int)
  | 0, s => by show (0 : Int) ≤ 0 ∧ (0 : Int) ≤ _; omega
  | t + 1, s => by
    have ih := hts_bound g t s
    rw [hts_succ]
    unfold htSet
    split <;> omega
theorem hts_unlisted (g : DGrammar) {s : ByteArray} (h : symB g.fSymbols s = false) : ∀ t : Nat, hts g t s = 0
  | 0 => rfl
  | t + 1 => by
    have ih := hts_unlisted g h t
    rw [hts_succ]
    unfold htSet
    rw [if_neg (fun hm => ?_)]
    · exact ih
    · obtain ⟨r, _, rfl, h1, _⟩ := newl_mem.1 hm
      rw [h] at h1
      exact absurd h1 (by decide)
theorem hts_stable {g : DGrammar} {t : Nat} (h : newl g (hts g t) g.fRules = []) : ∀ n : Nat, hts g (t + n) = hts g t
  | 0 => rfl
  | n + 1 => by
    have ih := hts_stable h n
    rw [show t + (n + 1) = (t + n) + 1 by omega, hts_succ, ih, h, htSet_nil]
theorem countP_less {α : Type} {p q : α → Bool} : ∀ {l : List α}, (∀ a ∈ l, p a = true → q a = true) → (∃ a ∈ l, q a = true ∧ p a = false) → l.countP p < l.countP q
  | [], _, ⟨_, h, _⟩ => by simp at h
  | a :: l, h, ⟨b, hb, hq, hp⟩ => by
    have hm : l.countP p ≤ l.countP q := List.countP_mono_left fun x hx => h x (List.mem_cons_of_mem _ hx)
    rw [List.countP_cons, List.countP_cons]
    rcases List.mem_cons.1 hb with rfl | hb
    · rw [hq, hp]
      simp
      omega
    · have ih := countP_less (l := l) (fun x hx => h x (List.mem_cons_of_mem _ hx)) ⟨b, hb, hq, hp⟩
      have := h a (List.mem_cons_self ..)
      cases hpa : p a
      · simp; omega
      · rw [this hpa]
        simp
        omega
def zeros (g : DGrammar) (t : Nat) : Nat := g.fSymbols.countP fun y => decide (hts g t y.fName = 0)
theorem symB_mem {l : List DSymbol} {s : ByteArray} (h : symB l s = true) : ∃ y ∈ l, y.fName = s := by
  unfold symB idxI at h
  have h := of_decide_eq_true h
  split at h
  · rename_i k hk
    obtain ⟨hl, hp, _⟩ := List.findIdx?_eq_some_iff_getElem.1 hk
    exact ⟨l[k], List.getElem_mem hl, toList_inj9 (beq_iff_eq.1 hp)⟩
  · omega
theorem mem_symB {l : List DSymbol} {y : DSymbol} (h : y ∈ l) : symB l y.fName = true := by
  unfold symB idxI
  split
  · exact decide_eq_true (by omega)
  · rename_i hk
    have := List.findIdx?_eq_none_iff.1 hk y h
    unfold PSym at this
    simp at this
theorem zeros_less {g : DGrammar} {t : Nat} (h : newl g (hts g t) g.fRules ≠ []) : zeros g (t + 1) < zeros g t := by
  obtain ⟨s, hs⟩ := List.exists_mem_of_ne_nil _ h
  obtain ⟨r, hr, h1, h2, h3, h4⟩ := newl_mem.1 hs
  obtain ⟨y, hy, hyn⟩ := symB_mem h2
  refine countP_less (fun x _ hx => ?_) ⟨y, hy, ?_, ?_⟩
  · have hx := of_decide_eq_true hx
    refine decide_eq_true ?_
    rw [hts_succ] at hx
    unfold htSet at hx
    split at hx
    · omega
    · exact hx
  · rw [hyn]; exact decide_eq_true h3
  · refine decide_eq_false ?_
    rw [hts_succ]
    unfold htSet
    rw [hyn, h1, if_pos hs]
    omega
theorem zeros_count {g : DGrammar} : ∀ {t : Nat}, (∀ s, s < t → newl g (hts g s) g.fRules ≠ []) → zeros g t + t ≤ g.fSymbols.length
  | 0, _ => by unfold zeros; have := List.countP_le_length (p := fun y => decide (hts g 0 y.fName = 0)) (l := g.fSymbols); omega
  | t + 1, h => by
    have h1 := zeros_count (g := g) (t := t) fun s hs => h s (by omega)
    have h2 := zeros_less (h t (by omega))
    omega
/-- Where the rounds end, and what they hold then. -/
theorem hts_end {g : DGrammar} {t : Nat} (h : ∀ s, s < t → newl g (hts g s) g.fRules ≠ []) (h0 : newl g (hts g t) g.fRules = []) : hts g g.fSymbols.length = hts g t := by
  have h1 := zeros_count h
  have h2 := hts_stable h0 (g.fSymbols.length - t)
  rw [show t + (g.fSymbols.length - t) = g.fSymbols.length by omega] at h2
  exact h2
/-- The least height of the trees of a symbol; 0 where there are none. -/
def minH (g : DGrammar) (s : ByteArray) : Int := hts g g.fSymbols.length s
theorem minH_bound (g : DGrammar) (s : ByteArray) : 0 ≤ minH g s ∧ minH g s ≤ (g.fSymbols.length : Int) := hts_bound g _ s
/-- What the model reckons, symbol by symbol: a rule of the name with children that have heights. -/
def reached (h : ByteArray → Int) (nm : ByteArray) (l : List DRule) : Bool := l.any fun r => decide (r.fLeft = nm) && allPos h r.fRight
theorem reached_iff {g : DGrammar} {h : ByteArray → Int} {l : List DRule} {y : DSymbol} (hy : y ∈ g.fSymbols) : (h y.fName = 0 ∧ reached h y.fName l = true) ↔ y.fName ∈ newl g h l := by
  rw [newl_mem]
  unfold reached
  constructor
  · rintro ⟨h0, h1⟩
    obtain ⟨r, hr, h2⟩ := List.any_eq_true.1 h1
    rw [Bool.and_eq_true] at h2
    have e := of_decide_eq_true h2.1
    exact ⟨r, hr, e, by rw [e]; exact mem_symB hy, by rw [e]; exact h0, h2.2⟩
  · rintro ⟨r, hr, e, h1, h2, h3⟩
    rw [e] at h2
    exact ⟨h2, List.any_eq_true.2 ⟨r, hr, by rw [e]; simp [h3]⟩⟩
/-- One entry of the next round's row. -/
theorem hts_next {g : DGrammar} {t : Nat} {y : DSymbol} (hy : y ∈ g.fSymbols) : hts g (t + 1) y.fName = if hts g t y.fName = 0 ∧ reached (hts g t) y.fName g.fRules = true then ((t + 1 : Nat) : Int) else hts g t y.fName := by
  rw [hts_succ]
  unfold htSet
  by_cases h : y.fName ∈ newl g (hts g t) g.fRules
  · rw [if_pos h, if_pos ((reached_iff hy).2 h)]
  · rw [if_neg h, if_neg (fun e => h ((reached_iff hy).1 e))]
end Go.Proofs.Ytakajfhkgjhnpaa
