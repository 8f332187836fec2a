/-
  FormatSymbol: what it computes.
-/
import Derived.Test.YteeehpldkhceoaaSymVal
import Derived.Test.YteeehpldkhceoaaJoinV
namespace Go.Proofs.Yteeehpldkhceoaa
open Go.ChangeShapes Go.WideShapes Go.ChangeAt Go.RowKit Go.Deep

def mW : Nat → ByteArray
  | 0 => ⟨#[]⟩ | 1 => ⟨#[105, 110, 104]⟩ | 2 => ⟨#[115, 121, 110]⟩ | 3 => ⟨#[99, 111, 108]⟩ | _ => ⟨#[]⟩
def tW : Nat → ByteArray
  | 0 => ⟨#[]⟩ | 1 => ⟨#[110, 117, 109]⟩ | 2 => ⟨#[115, 101, 116]⟩ | 3 => ⟨#[98, 111, 111, 108]⟩ | 4 => ⟨#[110, 111, 100, 101]⟩ | _ => ⟨#[]⟩
theorem mW_size (m : Nat) : (mW m).size ≤ 4 := match m with | 0 => by decide | 1 => by decide | 2 => by decide | 3 => by decide | _ + 4 => (show (⟨#[]⟩ : ByteArray).size ≤ 4 from by decide)
theorem tW_size (m : Nat) : (tW m).size ≤ 4 := match m with | 0 => by decide | 1 => by decide | 2 => by decide | 3 => by decide | 4 => by decide | _ + 5 => (show (⟨#[]⟩ : ByteArray).size ≤ 4 from by decide)
theorem mW_cell {m : Nat} (h : m < 4) : (#[.string ⟨#[]⟩, .string ⟨#[105, 110, 104]⟩, .string ⟨#[115, 121, 110]⟩, .string ⟨#[99, 111, 108]⟩] : Array Value)[m]? = some (.string (mW m)) := match m, h with | 0, _ | 1, _ | 2, _ | 3, _ => rfl
theorem tW_cell {m : Nat} (h : m < 5) : (#[.string ⟨#[]⟩, .string ⟨#[110, 117, 109]⟩, .string ⟨#[115, 101, 116]⟩, .string ⟨#[98, 111, 111, 108]⟩, .string ⟨#[110, 111, 100, 101]⟩] : Array Value)[m]? = some (.string (tW m)) := match m, h with | 0, _ | 1, _ | 2, _ | 3, _ | 4, _ => rfl
/-- An attribute's words. -/
def attrW (nm : ByteArray) (m t : Nat) : ByteArray := (((nm ++ ⟨#[58]⟩) ++ mW m) ++ ⟨#[58]⟩) ++ tW t
def attrT (a : DAttribute) : ByteArray := if a.fCircular then attrW a.fName a.fMode.toNat a.fType.toNat ++ ⟨#[33]⟩ else attrW a.fName a.fMode.toNat a.fType.toNat
def outW (o nm : ByteArray) (m t : Nat) : ByteArray := (((((o ++ ⟨#[32]⟩) ++ nm) ++ ⟨#[58]⟩) ++ mW m) ++ ⟨#[58]⟩) ++ tW t
def outS (o : ByteArray) (a : DAttribute) : ByteArray := if a.fCircular then outW o a.fName a.fMode.toNat a.fType.toNat ++ ⟨#[33]⟩ else outW o a.fName a.fMode.toNat a.fType.toNat
def outA (nm : ByteArray) (l : List DAttribute) : ByteArray := l.foldl outS ((⟨#[115, 121, 109, 98, 111, 108, 32]⟩ : ByteArray) ++ nm)
theorem outA_step {nm : ByteArray} {l : List DAttribute} {j : Nat} (hj : j < l.length) : outA nm (l.take (j + 1)) = outS (outA nm (l.take j)) (l.getD j default) := by
  unfold outA
  rw [take_snoc hj, List.foldl_append]
  rfl
def wordsS (nm : ByteArray) (l : List DAttribute) : List ByteArray := [⟨#[115, 121, 109, 98, 111, 108]⟩, nm] ++ l.map attrT
theorem words_step {nm : ByteArray} {l : List DAttribute} {j : Nat} (hj : j < l.length) : wordsS nm (l.take (j + 1)) = wordsS nm (l.take j) ++ [attrT (l.getD j default)] := by
  unfold wordsS
  rw [take_snoc hj, List.map_append, ← List.append_assoc]
  rfl
theorem words_len {nm : ByteArray} {l : List DAttribute} {j : Nat} (hj : j ≤ l.length) : (wordsS nm (l.take j)).length = j + 2 := by
  unfold wordsS
  rw [List.length_append, List.length_map, List.length_take]
  show 2 + _ = _
  omega
def tx (s : ByteArray) : List UInt8 := s.data.toList
theorem tx_append (a b : ByteArray) : tx (a ++ b) = tx a ++ tx b := by
  unfold tx
  rw [ByteArray.data_append, Array.toList_append]
theorem join_snoc (L : List (List UInt8)) (x sep : List UInt8) (h : L ≠ []) : Lib.join (L ++ [x]) sep = Lib.join L sep ++ (sep ++ x) := by
  unfold Lib.join
  induction L with
  | nil => exact absurd rfl h
  | cons y L ih =>
    cases L with
    | nil => simp [List.intercalate]
    | cons z L =>
      have h2 := ih (by simp)
      rw [List.cons_append, List.cons_append, List.intercalate_cons_cons, ← List.cons_append, h2, List.intercalate_cons_cons]
      simp only [List.append_assoc]
theorem outS_tx (o : ByteArray) (a : DAttribute) : tx (outS o a) = tx o ++ ([32] ++ tx (attrT a)) := by
  unfold outS attrT
  cases a.fCircular
  · simp only [Bool.false_eq_true, if_false, outW, attrW, tx_append, List.append_assoc]; rfl
  · simp only [if_true, outW, attrW, tx_append, List.append_assoc]; rfl
theorem outA_join (nm : ByteArray) : ∀ (l : List DAttribute) (j : Nat), j ≤ l.length → tx (outA nm (l.take j)) = Lib.join ((wordsS nm (l.take j)).map tx) [32]
  | l, 0, _ => by
    show tx ((⟨#[115, 121, 109, 98, 111, 108, 32]⟩ : ByteArray) ++ nm) = Lib.join [tx ⟨#[115, 121, 109, 98, 111, 108]⟩, tx nm] [32]
    rw [tx_append]
    unfold Lib.join
    rw [List.intercalate_cons_cons]
    simp [List.intercalate]
    rfl
  | l, j + 1, hj => by
    rw [outA_step hj, outS_tx, outA_join nm l j (by omega), words_step hj, List.map_append]
    show _ = Lib.join (_ ++ [tx (attrT (l.getD j default))]) [32]
    rw [join_snoc _ _ _ (by unfold wordsS; simp)]
/-- What FormatSymbol returns. -/
def fmtSym (nm : ByteArray) (l : List DAttribute) : ByteArray := if symV nm l then outA nm l else ⟨#[]⟩
theorem fmtSym_yes {nm : ByteArray} {l : List DAttribute} (h : symV nm l = true) : fmtSym nm l = outA nm l := by unfold fmtSym; rw [h]; rfl
theorem fmtSym_no {nm : ByteArray} {l : List DAttribute} (h : symV nm l = false) : fmtSym nm l = ⟨#[]⟩ := by unfold fmtSym; rw [h]; rfl
theorem fmtSym_join {nm : ByteArray} {l : List DAttribute} (h : symV nm l = true) : (⟨(Lib.join ((wordsS nm l).map (·.data.toList)) [32]).toArray⟩ : ByteArray) = fmtSym nm l := by
  rw [fmtSym_yes h]
  have h2 := outA_join nm l l.length (Nat.le_refl _)
  rw [List.take_length] at h2
  show (⟨(Lib.join ((wordsS nm l).map tx) [32]).toArray⟩ : ByteArray) = _
  rw [← h2]
  unfold tx
  rw [Array.toArray_toList]
theorem sz_app (a b : ByteArray) : (a ++ b).size = a.size + b.size := ByteArray.size_append
theorem attrW_size (nm : ByteArray) (m t : Nat) : (attrW nm m t).size ≤ nm.size + 10 := by
  have h1 := mW_size m
  have h2 := tW_size t
  have h3 : (⟨#[58]⟩ : ByteArray).size = 1 := rfl
  unfold attrW
  rw [sz_app, sz_app, sz_app, sz_app, h3]
  omega
theorem attrT_size (a : DAttribute) : (attrT a).size ≤ a.fName.size + 11 := by
  have h1 := attrW_size a.fName a.fMode.toNat a.fType.toNat
  have h3 : (⟨#[33]⟩ : ByteArray).size = 1 := rfl
  unfold attrT
  split
  · rw [sz_app, h3]; omega
  · omega
theorem outW_size (o nm : ByteArray) (m t : Nat) : (outW o nm m t).size ≤ o.size + nm.size + 11 := by
  have h1 := mW_size m
  have h2 := tW_size t
  have h3 : (⟨#[58]⟩ : ByteArray).size = 1 := rfl
  have h4 : (⟨#[32]⟩ : ByteArray).size = 1 := rfl
  unfold outW
  rw [sz_app, sz_app, sz_app, sz_app, sz_app, sz_app, h3, h4]
  omega
theorem outS_size (o : ByteArray) (a : DAttribute) : (outS o a).size ≤ o.size + a.fName.size + 12 := by
  have h1 := outW_size o a.fName a.fMode.toNat a.fType.toNat
  have h3 : (⟨#[33]⟩ : ByteArray).size = 1 := rfl
  unfold outS
  split
  · rw [sz_app, h3]; omega
  · omega
/-- A valid symbol: short, and its numbers are those of words. -/
structure GoodS (nm : ByteArray) (l : List DAttribute) : Prop where
  name : nm.size ≤ 8
  len : l.length ≤ 4
  attr : ∀ k, k < l.length → (l.getD k default).fName.size ≤ 8 ∧ (∃ m : Nat, (l.getD k default).fMode = (m : Int) ∧ m < 4) ∧ ∃ t : Nat, (l.getD k default).fType = (t : Int) ∧ t < 5
theorem validName_size {s : ByteArray} (h : validName s = true) : s.size ≤ 8 := by
  unfold validName at h
  simp only [Bool.and_eq_true, decide_eq_true_eq] at h
  exact h.1.2
theorem goodS {nm : ByteArray} {l : List DAttribute} (h : symV nm l = true) : GoodS nm l := by
  unfold symV at h
  simp only [Bool.and_eq_true, decide_eq_true_eq, List.all_eq_true] at h
  obtain ⟨h1, h2, h3, _⟩ := h
  refine ⟨validName_size h1, h2, fun k hk => ?_⟩
  have h4 := h3 (l.getD k default) (by rw [List.getD_eq_getElem?_getD, List.getElem?_eq_getElem hk]; exact List.getElem_mem hk)
  unfold attrV attrB at h4
  rw [Bool.and_eq_true] at h4
  refine ⟨validName_size h4.1, ?_⟩
  have h5 := h4.2
  unfold kindB at h5
  simp only [Bool.and_eq_true] at h5
  have h6 : inR (l.getD k default).fType 1 4 = true := by
    cases h : inR (l.getD k default).fType 1 4
    · rw [h] at h5; simp at h5
    · rfl
  have h7 : inR (l.getD k default).fMode 1 3 = true := by
    cases h : inR (l.getD k default).fMode 1 3
    · rw [h] at h5; simp at h5
    · rfl
  obtain ⟨a1, a2⟩ := inR_iff.1 h6
  obtain ⟨b1, b2⟩ := inR_iff.1 h7
  exact ⟨⟨(l.getD k default).fMode.toNat, by omega, by omega⟩, ⟨(l.getD k default).fType.toNat, by omega, by omega⟩⟩
theorem outA_size {nm : ByteArray} {l : List DAttribute} (h : GoodS nm l) : ∀ j, j ≤ l.length → (outA nm (l.take j)).size ≤ 15 + 20 * j
  | 0, _ => by
    show ((⟨#[115, 121, 109, 98, 111, 108, 32]⟩ : ByteArray) ++ nm).size ≤ _
    have h1 : ((⟨#[115, 121, 109, 98, 111, 108, 32]⟩ : ByteArray) : ByteArray).size = 7 := rfl
    have h2 := h.name
    rw [sz_app, h1]
    omega
  | j + 1, hj => by
    rw [outA_step hj]
    have h1 := outS_size (outA nm (l.take j)) (l.getD j default)
    have h2 := outA_size h j (by omega)
    have h3 := (h.attr j hj).1
    omega
theorem words_sum {nm : ByteArray} {l : List DAttribute} (h : GoodS nm l) : sumSize (wordsS nm l) ≤ 1000 := by
  have h1 : ∀ m : List DAttribute, (∀ a ∈ m, a.fName.size ≤ 8) → ((m.map attrT).map ByteArray.size).sum ≤ 19 * m.length := by
    intro m hm
    induction m with
    | nil => exact Nat.le_refl _
    | cons a m ih =>
      have h2 := ih (fun b hb => hm b (List.mem_cons_of_mem _ hb))
      have h3 := attrT_size a
      have h4 := hm a (List.mem_cons_self ..)
      simp only [List.map_cons, List.sum_cons, List.length_cons]
      omega
  have h2 := h1 l (fun a ha => by
    obtain ⟨k, hk, rfl⟩ := List.getElem_of_mem ha
    have h3 := (h.attr k hk).1
    rwa [List.getD_eq_getElem?_getD, List.getElem?_eq_getElem hk] at h3)
  have h3 := h.name
  have h4 := h.len
  have h5 : sumSize (wordsS nm l) = 6 + (nm.size + ((l.map attrT).map ByteArray.size).sum) := by
    unfold sumSize wordsS
    rw [List.map_append, List.sum_append, List.map_cons, List.map_cons, List.map_nil, List.sum_cons, List.sum_cons, List.sum_nil]
    have h6 : (⟨#[115, 121, 109, 98, 111, 108]⟩ : ByteArray).size = 6 := rfl
    rw [h6]
    omega
  omega
end Go.Proofs.Yteeehpldkhceoaa
