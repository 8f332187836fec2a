/-
  The order of occurrences: by position, then by name.
-/
import Derived.Test.YtoockfmkcjomhaaUniq
import Derived.Test.YtoockfmkcjomhaaTOccurrence
import Derived.Sort.Walk0
namespace Go.Proofs.Ytoockfmkcjomhaa
open Go.ChangeShapes Go.WideShapes Go.ChangeAt Go.RowKit

def ltN (a b : ByteArray) : Bool := Op.bytesLess a.toList b.toList
def ltO (a b : DOccurrence) : Bool := decide (a.fPos < b.fPos) || (decide (a.fPos = b.fPos) && ltN a.fName b.fName)
theorem ltN_iff {a b : ByteArray} : ltN a b = true ↔ a.data.toList < b.data.toList := by
  unfold ltN
  rw [Go.Proofs.bytesLess_eq, decide_eq_true_eq, Lib.toList_data, Lib.toList_data]
theorem strictN : Strict ltN where
  irrefl a := by
    cases h : ltN a a
    · rfl
    · exact absurd (ltN_iff.1 h) (List.lt_irrefl _)
  trans a b c h1 h2 := ltN_iff.2 (List.lt_trans (ltN_iff.1 h1) (ltN_iff.1 h2))
  total a b h1 h2 := by
    have n1 : ¬ a.data.toList < b.data.toList := fun h => by rw [ltN_iff.2 h] at h1; cases h1
    have n2 : ¬ b.data.toList < a.data.toList := fun h => by rw [ltN_iff.2 h] at h2; cases h2
    have h : a.data.toList = b.data.toList := List.le_antisymm (List.not_lt.1 n2) (List.not_lt.1 n1)
    cases a; cases b
    congr 1
    exact Array.toList_inj.1 h
theorem ltO_iff {a b : DOccurrence} : ltO a b = true ↔ a.fPos < b.fPos ∨ a.fPos = b.fPos ∧ ltN a.fName b.fName = true := by
  unfold ltO
  rw [Bool.or_eq_true, Bool.and_eq_true, decide_eq_true_eq, decide_eq_true_eq]
theorem strictO : Strict ltO where
  irrefl a := by
    unfold ltO
    rw [strictN.irrefl]
    simp
  trans a b c h1 h2 := by
    rw [ltO_iff] at *
    rcases h1 with h1 | ⟨h1, h1'⟩
    · rcases h2 with h2 | ⟨h2, _⟩
      · exact .inl (by omega)
      · exact .inl (by omega)
    · rcases h2 with h2 | ⟨h2, h2'⟩
      · exact .inl (by omega)
      · exact .inr ⟨by omega, strictN.trans _ _ _ h1' h2'⟩
  total a b h1 h2 := by
    have n1 : ¬ (a.fPos < b.fPos ∨ a.fPos = b.fPos ∧ ltN a.fName b.fName = true) := fun h => by rw [ltO_iff.2 h] at h1; cases h1
    have n2 : ¬ (b.fPos < a.fPos ∨ b.fPos = a.fPos ∧ ltN b.fName a.fName = true) := fun h => by rw [ltO_iff.2 h] at h2; cases h2
    have hp : a.fPos = b.fPos := by omega
    have hn : a.fName = b.fName := strictN.total _ _ (by
      cases e : ltN a.fName b.fName
      · rfl
      · exact absurd (.inr ⟨hp, e⟩) n1) (by
      cases e : ltN b.fName a.fName
      · rfl
      · exact absurd (.inr ⟨hp.symm, e⟩) n2)
    cases a; cases b
    dsimp only at hp hn
    rw [hp, hn]
end Go.Proofs.Ytoockfmkcjomhaa
