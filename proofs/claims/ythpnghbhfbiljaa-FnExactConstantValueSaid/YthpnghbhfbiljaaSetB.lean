/-
  A map from strings to truth values that a call makes and uses as a set: which strings it holds as true.
-/
import Derived.Test.YthpnghbhfbiljaaKit
import Derived.Maps.OwnOps
import Derived.Maps.Views
import Derived.WalkSpells
import Derived.WalkSmall
import Derived.WalkLawsBesides
import Derived.Lib.Hide
namespace Go.Proofs.Ythpnghbhfbiljaa
open Go.ChangeShapes Go.WideShapes Go.ChangeAt Go.RowKit
open Go.Maps (Keyed)
open Go.WideMaps (keyOf_string_mk)

theorem bytes_of_list {s x : ByteArray} (h : s.data.toList = x.data.toList) : s = x := by
  cases s; cases x; simp_all [Array.toList_inj]

def memB (s : ByteArray) (L : List ByteArray) : Bool := L.any fun x => decide (s.data.toList = x.data.toList)
theorem memB_nil (s : ByteArray) : memB s [] = false := rfl
theorem memB_same (s : ByteArray) (L : List ByteArray) : memB s (s :: L) = true := by unfold memB; simp
theorem memB_iff {s : ByteArray} {L : List ByteArray} : memB s L = true ↔ s ∈ L := by
  unfold memB
  rw [List.any_eq_true]
  exact ⟨fun ⟨x, h1, h2⟩ => by rw [bytes_of_list (of_decide_eq_true h2)]; exact h1, fun h => ⟨s, h, decide_eq_true rfl⟩⟩
theorem memB_other {s x : ByteArray} (h : s ≠ x) (L : List ByteArray) : memB s (x :: L) = memB s L := by
  unfold memB
  rw [List.any_cons, decide_eq_false (fun e => h (bytes_of_list e)), Bool.false_or]
theorem memB_no {s : ByteArray} {L : List ByteArray} (h : s ∉ L) : memB s L = false := by
  cases e : memB s L
  · rfl
  · exact absurd (memB_iff.1 e) h
theorem memB_yes {s : ByteArray} {L : List ByteArray} (h : s ∈ L) : memB s L = true := memB_iff.2 h

/-- Block b is a map of at most n entries; it holds true at just the strings of L. -/
def BoolSet (P : Program) (k e : TypeId) (w : World) (b n : Nat) (L : List ByteArray) : Prop :=
  ∃ D : DataW Unit, w.ownsMap P k (plainElem P e) b n D ∧ Maps.IsMap D ∧ ∀ s : ByteArray, D.atKey (.string s.data.toList) (.lit (.bool false)) = .lit (.bool (memB s L))

section
variable {P : Program} {k e : TypeId} {w : World} {b n : Nat} {L : List ByteArray}

theorem BoolSet.made (w : World) : BoolSet P k e (w.alloc (.map #[] 0)) w.heap.size 0 [] :=
  ⟨.map [], World.ownsMap_made _ _ _ _, ⟨_, rfl⟩, fun s => by rw [memB_nil]; rfl⟩
theorem BoolSet.lt (h : BoolSet P k e w b n L) : b < w.heap.size := by obtain ⟨D, h1, _⟩ := h; exact h1.lt
theorem BoolSet.kept {w' : World} {row : Option Nat} (h : BoolSet P k e w b n L) (hg : w.grownBy w' row) (hne : some b ≠ row) : BoolSet P k e w' b n L := by
  obtain ⟨D, h1, h2⟩ := h; exact ⟨D, h1.kept hg hne, h2⟩
theorem BoolSet.later {w' : World} (h : BoolSet P k e w b n L) (hb : Below w.heap.size w w') : BoolSet P k e w' b n L := by
  have hl := h.lt
  obtain ⟨D, ⟨es, clock, h1, h3⟩, h2⟩ := h
  exact ⟨D, ⟨es, clock, (hb.block b hl).trans h1, h3⟩, h2⟩

theorem BoolSet.put (hk : P.underlying k = some .string) (he : P.underlying e = some .bool) {t : TypeId} (ht : P.underlying t = some (.map k e)) (h : BoolSet P k e w b n L) (hn : n < maxLen) (s : ByteArray) (hs : s.size ≤ maxLen) :
    ∃ w', (Instr.mapUpdate t (.map (some b)) (.string s) (.bool true)).run P w = .ok () w' ∧ BoolSet P k e w' b (n + 1) (s :: L) ∧ w.grownBy w' (some b) := by
  obtain ⟨D, h1, h2, h3⟩ := h
  obtain ⟨w', r1, r2, r3⟩ := h1.update (Maps.string_keyed hk) ht hn (keyOf_string_mk hk hs) (plainElem_bool he true)
  refine ⟨w', r1, ⟨_, r2, ?_, fun x => ?_⟩, r3⟩
  · obtain ⟨es, rfl⟩ := h2; exact ⟨_, rfl⟩
  · by_cases hx : x = s
    · subst hx; rw [Maps.atKey_put_same h2 (by trivial), memB_same]
    · rw [Maps.atKey_put_other (fun e => hx (bytes_of_list (by injection e))), h3, memB_other hx]

theorem BoolSet.look (hk : P.underlying k = some .string) (he : P.underlying e = some .bool) {t : TypeId} (ht : P.underlying t = some (.map k e)) (hz : (zeroValue e).run P w = .ok (.bool false) w) (h : BoolSet P k e w b n L) (s : ByteArray) (hs : s.size ≤ maxLen) :
    (Instr.lookup t (.map (some b)) (.string s) false).run P w = .ok (.bool (memB s L)) w := by
  obtain ⟨D, h1, h2, h3⟩ := h
  obtain ⟨v, ps, r1, r2⟩ := h1.lookup (Maps.string_keyed hk) ht hz (plainElem_bool he false) (keyOf_string_mk hk hs)
  rw [h3] at r2
  have : v = .bool (memB s L) := by
    unfold plainElem at r2
    rw [he] at r2
    cases v <;> simp at r2
    rw [r2.1]
  rw [r1, this]
end

section
variable {P : Program} (w : World) {ops : Array Oper} {rest : List Oper} {o : Oper} {a : Act} {Q : Exit → Act → World → Prop}

theorem wpList_insert_set (hg : o.guard = none) (m x v : Operand) (t : TypeId) (hop : o.op = Op.insert t m x v) (k e : TypeId) (hk : P.underlying k = some .string) (he : P.underlying e = some .bool) (ht : P.underlying t = some (.map k e))
    (b n : Nat) (L : List ByteArray) (hm : a.eval m = .map (some b)) (hs : BoolSet P k e w b n L) (hn : n < maxLen) (s : ByteArray) (hx : a.eval x = .string s) (hv : a.eval v = .bool true) (hsz : s.size ≤ maxLen)
    (hK : ∀ w', BoolSet P k e w' b (n + 1) (s :: L) → w.grownBy w' (some b) → wpList P ops Q rest (a.put o.dst undef) w') : wpList P ops Q (o :: rest) a w := by
  refine wpList_plain hg fun K' hK' => ?_
  obtain ⟨w', hrun, r1, r2⟩ := hs.put hk he ht hn s hsz
  unfold Oper.wp
  simp [execOp, hop, hm, hx, hv, hrun, Result.andThen]
  exact hK' _ _ (hK w' r1 r2)

theorem wpList_update_set (hg : o.guard = none) (m x v : Operand) (t : TypeId) (hop : o.op = Op.mapUpdate t m x v) (k e : TypeId) (hk : P.underlying k = some .string) (he : P.underlying e = some .bool) (ht : P.underlying t = some (.map k e))
    (b n : Nat) (L : List ByteArray) (hm : a.eval m = .map (some b)) (hs : BoolSet P k e w b n L) (hn : n < maxLen) (s : ByteArray) (hx : a.eval x = .string s) (hv : a.eval v = .bool true) (hsz : s.size ≤ maxLen)
    (hK : ∀ w', BoolSet P k e w' b (n + 1) (s :: L) → w.grownBy w' (some b) → wpList P ops Q rest (a.put o.dst undef) w') : wpList P ops Q (o :: rest) a w := by
  refine wpList_plain hg fun K' hK' => ?_
  obtain ⟨w', hrun, r1, r2⟩ := hs.put hk he ht hn s hsz
  unfold Oper.wp
  simp [execOp, hop, hm, hx, hv, hrun, Result.andThen]
  exact hK' _ _ (hK w' r1 r2)

theorem wpList_lookup_set (hg : o.guard = none) (m x : Operand) (t : TypeId) (hop : o.op = Op.lookup t m x false) (k e : TypeId) (hk : P.underlying k = some .string) (he : P.underlying e = some .bool) (ht : P.underlying t = some (.map k e)) (hz : (zeroValue e).run P w = .ok (.bool false) w)
    (b n : Nat) (L : List ByteArray) (hm : a.eval m = .map (some b)) (hs : BoolSet P k e w b n L) (s : ByteArray) (hx : a.eval x = .string s) (hsz : s.size ≤ maxLen)
    (hK : wpList P ops Q rest (a.put o.dst (.bool (memB s L))) w) : wpList P ops Q (o :: rest) a w := by
  refine wpList_plain hg fun K' hK' => ?_
  have hrun := hs.look hk he ht hz s hsz
  unfold Oper.wp
  simp [execOp, hop, hm, hx, hrun, Result.andThen]
  exact hK' _ _ hK
end
end Go.Proofs.Ythpnghbhfbiljaa
