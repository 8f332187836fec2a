/-
  The circular occurrences of a rule: those of its plain occurrences whose attribute is circular.
-/
import Derived.Test.YticchgfhmfjknaaOccsT
import Derived.Test.YticchgfhmfjknaaMayUse
namespace Go.Proofs.Yticchgfhmfjknaa
open Go.ChangeShapes Go.WideShapes Go.ChangeAt Go.RowKit Go.Deep

theorem catL_mem {f : Nat → List DOccurrence} {o : DOccurrence} : ∀ {k : Nat}, o ∈ catL f k → ∃ j, j < k ∧ o ∈ f j
  | 0, h => by cases h
  | k + 1, h => by
    rcases List.mem_append.1 (show o ∈ catL f k ++ f k from h) with h | h
    · obtain ⟨j, hj, hm⟩ := catL_mem h
      exact ⟨j, by omega, hm⟩
    · exact ⟨k, by omega, h⟩
theorem mem_lsz {α : Type} {f : α → Nat} {a : α} : ∀ {l : List α}, a ∈ l → f a ≤ lsz f l
  | [], h => by cases h
  | b :: l, h => by
    unfold lsz
    rw [List.map_cons, List.sum_cons]
    rcases List.mem_cons.1 h with rfl | h
    · omega
    · have ih := mem_lsz (f := f) h
      unfold lsz at ih
      rw [List.length_cons]
      omega
/-- A plain occurrence of a rule: its position is one of the rule's, its name is not too long. -/
theorem occ_fit {g : DGrammar} (hg : g.sz ≤ 1048576) {x : DRule} (hx : x.sz ≤ 1048576) {o : DOccurrence} (ho : o ∈ occsOf g x) : inR o.fPos 0 x.fRight.length = true ∧ o.ok ∧ o.sz ≤ 1048576 := by
  obtain ⟨k, hk, hm⟩ := catL_mem ho
  obtain ⟨a, ha, rfl⟩ := List.mem_map.1 hm
  have h1 := rightlen hx
  have h2 : DAttribute.sz a ≤ lsz DAttribute.sz (plainS g (symbolAt x k)) := mem_lsz ha
  have h3 := plainS_sz hg (symbolAt x k)
  have h4 : a.fName.size ≤ 1048576 := Nat.le_trans (show a.fName.size ≤ _ from h2) h3
  refine ⟨inR_yes (show (0 : Int) ≤ (k : Int) by omega) (show (k : Int) ≤ (x.fRight.length : Int) by omega), ⟨?_, ?_⟩, h4⟩
  · show okI (k : Int)
    unfold okI
    omega
  · show okS a.fName
    unfold okS
    omega
/-- The attribute of an occurrence is circular. -/
def circB (g : DGrammar) (x : DRule) (o : DOccurrence) : Bool := (attAt g x o).1.fCircular
def circsL (g : DGrammar) (x : DRule) (l : List DOccurrence) : List DOccurrence := l.filter (circB g x)
/-- The circular occurrences of a rule. -/
def circsOf (g : DGrammar) (x : DRule) : List DOccurrence := circsL g x (occsOf g x)
theorem circsL_yes {g : DGrammar} {x : DRule} {l : List DOccurrence} {j : Nat} (hj : j < l.length) (h : circB g x (l.getD j default) = true) : circsL g x (l.take (j + 1)) = circsL g x (l.take j) ++ [l.getD j default] := by
  rw [take_snoc hj]; unfold circsL; rw [List.filter_append, List.filter_cons, if_pos h, List.filter_nil]
theorem circsL_no {g : DGrammar} {x : DRule} {l : List DOccurrence} {j : Nat} (hj : j < l.length) (h : circB g x (l.getD j default) = false) : circsL g x (l.take (j + 1)) = circsL g x (l.take j) := by
  rw [take_snoc hj]; unfold circsL; rw [List.filter_append, List.filter_cons, if_neg (by rw [h]; decide), List.filter_nil, List.append_nil]
theorem circsL_len (g : DGrammar) (x : DRule) (l : List DOccurrence) : (circsL g x l).length ≤ l.length := List.length_filter_le _ _
theorem circsOf_len {g : DGrammar} (h : g.sz ≤ 1048576) {x : DRule} (hx : x.sz ≤ 1048576) : (circsOf g x).length ≤ 1099511627776 := Nat.le_trans (circsL_len g x _) (occsOf_len h hx)
end Go.Proofs.Yticchgfhmfjknaa
