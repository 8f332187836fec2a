/-
  The occurrences of a rule: what OccurrencesOf and RequiredOccurrences list.
-/
import Derived.Test.YticchgfhmfjknaaPlain
import Derived.Test.YticchgfhmfjknaaSymAt
import Derived.Test.YticchgfhmfjknaaGInv
import Derived.Test.YticchgfhmfjknaaFreeA
import Derived.Test.YticchgfhmfjknaaTOccurrence
import Derived.Maps.AppendAt
import Derived.Deep.QuietTactic
import Derived.BigQuiet
namespace Go.Proofs.Yticchgfhmfjknaa
open Go.ChangeShapes Go.WideShapes Go.ChangeAt Go.RowKit Go.Deep

theorem info_Occ : (Try.prog.info? 64).map (fun i => (i.zero, i.size, i.bytes)) = some (some (.agg #[.int .i64 0, .string ⟨#[]⟩]), 2, 24) := by kernel_rfl
def vOcc (x : DOccurrence) : List Value := [.int .i64 x.fPos, .string x.fName]
theorem vOcc_len (x : DOccurrence) : (vOcc x).length = 2 := rfl
theorem vOcc_ct (x : DOccurrence) (c : Nat) (h : c < 2) : x.ct c = .lit ((vOcc x).getD c .nilFunc) := match c, h with | 0, _ => rfl | 1, _ => rfl
/-- The attributes of a list, as occurrences at a position. -/
def occP (k : Nat) (l : List DAttribute) : List DOccurrence := l.map fun a => ⟨(k : Int), a.fName⟩
theorem occP_step {k : Nat} {l : List DAttribute} {j : Nat} (hj : j < l.length) : occP k (l.take (j + 1)) = occP k (l.take j) ++ [⟨(k : Int), (l.getD j default).fName⟩] := by rw [take_snoc hj]; unfold occP; rw [List.map_append]; rfl
theorem occP_len (k : Nat) (l : List DAttribute) : (occP k l).length = l.length := List.length_map ..
/-- The lists of the positions, one behind the other. -/
def catL (f : Nat → List DOccurrence) : Nat → List DOccurrence
  | 0 => []
  | k + 1 => catL f k ++ f k
theorem catL_len {f : Nat → List DOccurrence} (hf : ∀ k, (f k).length ≤ 1048575) : ∀ k, (catL f k).length ≤ k * 1048575
  | 0 => by simp [catL]
  | k + 1 => by
    have h1 := catL_len hf k
    have h2 := hf k
    show (catL f k ++ f k).length ≤ _
    rw [List.length_append]
    omega
theorem sz1_at {α : Type} [Inhabited α] {f : α → Nat} : ∀ {l : List α} {k : Nat}, k < l.length → f (l.getD k default) + 1 ≤ lsz f l
  | [], k, h => absurd h (Nat.not_lt_zero _)
  | a :: l, 0, _ => by unfold lsz; rw [List.map_cons, List.sum_cons, List.length_cons]; show f a + 1 ≤ _; omega
  | a :: l, k + 1, h => by
    have ih := sz1_at (f := f) (l := l) (k := k) (by simpa using h)
    show f (l.getD k default) + 1 ≤ _
    unfold lsz at *
    rw [List.map_cons, List.sum_cons, List.length_cons]
    omega
theorem symG_len1 {g : DGrammar} (h : g.sz ≤ 1048576) (nm : ByteArray) : (symS g.fSymbols nm).fAttributes.length ≤ 1048575 := by
  have hz : lsz DSymbol.sz g.fSymbols ≤ 1048576 := by unfold DGrammar.sz at h; omega
  by_cases h0 : 0 ≤ idxI (PSym nm) g.fSymbols
  · obtain ⟨k, hk⟩ : ∃ k : Nat, idxI (PSym nm) g.fSymbols = k := ⟨(idxI (PSym nm) g.fSymbols).toNat, by omega⟩
    rw [symS_at hk]
    by_cases hl : k < g.fSymbols.length
    · have h1 := sz1_at (f := DSymbol.sz) hl
      have h2 : (g.fSymbols.getD k default).fAttributes.length ≤ DSymbol.sz (g.fSymbols.getD k default) := by unfold DSymbol.sz lsz; omega
      omega
    · rw [List.getD_eq_getElem?_getD, List.getElem?_eq_none (by omega)]
      exact Nat.zero_le _
  · unfold symS
    rw [if_neg h0]
    exact Nat.zero_le _
theorem plainS_len1 {g : DGrammar} (h : g.sz ≤ 1048576) (nm : ByteArray) : (plainS g nm).length ≤ 1048575 := by
  have h1 := symG_len1 h nm
  have h2 := plK_len (symS g.fSymbols nm).fAttributes (symS g.fSymbols nm).fAttributes.length
  unfold plainS plainL
  omega
theorem symbolAt_sz {x : DRule} (h : x.sz ≤ 1048576) (p : Int) : (symbolAt x p).size ≤ 1048576 := by
  unfold symbolAt
  split
  · unfold DRule.sz at h; omega
  · split
    · rename_i h1
      have h2 : lsz ByteArray.size x.fRight ≤ 1048576 := by unfold DRule.sz at h; omega
      have h3 := szle_at (f := ByteArray.size) x.fRight (p.toNat - 1) (by omega)
      omega
    · exact Nat.zero_le _
theorem symbolAt_ok {x : DRule} (h : x.sz ≤ 1048576) (p : Int) : okS (symbolAt x p) := by have := symbolAt_sz h p; unfold okS; omega
def occAt (g : DGrammar) (x : DRule) (k : Nat) : List DOccurrence := occP k (plainS g (symbolAt x k))
theorem occAt_len {g : DGrammar} (h : g.sz ≤ 1048576) (x : DRule) (k : Nat) : (occAt g x k).length ≤ 1048575 := by unfold occAt; rw [occP_len]; exact plainS_len1 h _
/-- The plain occurrences of a rule. -/
def occsOf (g : DGrammar) (x : DRule) : List DOccurrence := catL (occAt g x) (x.fRight.length + 1)
theorem rightlen {x : DRule} (h : x.sz ≤ 1048576) : x.fRight.length ≤ 1048576 := by unfold DRule.sz lsz at h; omega
theorem occsOf_len {g : DGrammar} (h : g.sz ≤ 1048576) {x : DRule} (hx : x.sz ≤ 1048576) : (occsOf g x).length ≤ 1099511627776 := by
  have h1 := catL_len (f := occAt g x) (occAt_len h x) (x.fRight.length + 1)
  have h2 := rightlen hx
  unfold occsOf
  omega
def modeD (p : Int) : Int := if p = 0 then 2 else 1
def reqF (k : Nat) (l : List DAttribute) : List DAttribute := l.filter fun a => a.fMode == modeD k
theorem reqF_yes {k : Nat} {l : List DAttribute} {j : Nat} (hj : j < l.length) (h : (l.getD j default).fMode = modeD k) : occP k (reqF k (l.take (j + 1))) = occP k (reqF k (l.take j)) ++ [⟨(k : Int), (l.getD j default).fName⟩] := by
  rw [take_snoc hj]; unfold reqF; rw [List.filter_append, List.filter_cons, if_pos (by rw [h]; simp), List.filter_nil]; unfold occP; rw [List.map_append]; rfl
theorem reqF_no {k : Nat} {l : List DAttribute} {j : Nat} (hj : j < l.length) (h : (l.getD j default).fMode ≠ modeD k) : occP k (reqF k (l.take (j + 1))) = occP k (reqF k (l.take j)) := by
  rw [take_snoc hj]; unfold reqF; rw [List.filter_append, List.filter_cons, if_neg (by simpa using h), List.filter_nil, List.append_nil]
theorem reqF_len (k : Nat) (l : List DAttribute) : (occP k (reqF k l)).length ≤ l.length := by rw [occP_len]; exact List.length_filter_le _ _
def reqAt (g : DGrammar) (x : DRule) (k : Nat) : List DOccurrence := occP k (reqF k (symS g.fSymbols (symbolAt x k)).fAttributes)
theorem reqAt_len {g : DGrammar} (h : g.sz ≤ 1048576) (x : DRule) (k : Nat) : (reqAt g x k).length ≤ 1048575 := Nat.le_trans (reqF_len _ _) (symG_len1 h _)
/-- The required occurrences of a rule. -/
def reqsOf (g : DGrammar) (x : DRule) : List DOccurrence := catL (reqAt g x) (x.fRight.length + 1)
theorem reqsOf_len {g : DGrammar} (h : g.sz ≤ 1048576) {x : DRule} (hx : x.sz ≤ 1048576) : (reqsOf g x).length ≤ 1099511627776 := by
  have h1 := catL_len (f := reqAt g x) (reqAt_len h x) (x.fRight.length + 1)
  have h2 := rightlen hx
  unfold reqsOf
  omega
end Go.Proofs.Yticchgfhmfjknaa
