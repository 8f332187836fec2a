/-
  A region that draws its order, as XFreeK has it; and a store may write an old block again that an earlier store of the region wrote.
-/
import Derived.Test.YthgpompoionfoaaFreeK
namespace Go.Proofs.Ythgpompoionfoaa
open Go.ChangeShapes Go.WideShapes Go.ChangeAt Go.RowKit Go.Deep

/-- What an operation writes: nothing of old but FJ; what operation t allocated; an old block of its own; the block of store r again, behind store p. -/
inductive OvL where
  | none
  | new (t : Nat)
  | old
  | again (r p : Nat)
def OvL.isOld : OvL → Bool
  | .old => true
  | _ => false
def OvL.isNew (t : Nat) : OvL → Bool
  | .new u => u == t
  | _ => false
def OvL.kills (t : Nat) : OvL → Bool
  | .new u => u == t
  | .again _ u => u == t
  | _ => false
def OvL.isAgain (r : Nat) : OvL → Bool
  | .again u _ => u == r
  | _ => false
def OvL.anyAgain : OvL → Bool
  | .again _ _ => true
  | _ => false
theorem OvL.of_again {o : OvL} {r : Nat} (h : o.isAgain r = true) : ∃ p, o = .again r p := by
  cases o with
  | again u p => exact ⟨p, by rw [show u = r by simpa [OvL.isAgain] using h]⟩
  | _ => cases h
theorem OvL.of_old {o : OvL} (h : o.isOld = true) : o = .old := by cases o <;> first | rfl | cases h
theorem OvL.of_new {o : OvL} {t : Nat} (h : o.isNew t = true) : o = .new t := by
  cases o with
  | new u => exact congrArg OvL.new (by simpa [OvL.isNew] using h)
  | _ => cases h
/-- The operations whose facts it wants; what it writes; the stores into old blocks that may have run before it. -/
abbrev LineL := List Nat × OvL × List Nat
def lineL (ls : List LineL) (i : Nat) : LineL := ls.getD i ([], .none, [])
def ovL (ls : List LineL) (i : Nat) : OvL := (lineL ls i).2.1

/-- The checks on a region. -/
def freeLB (l : List Oper) (ls : List LineL) (live os : List Nat) : Bool :=
  Region.noSelect l.toArray && ls.length == l.length &&
  ((List.range l.length).all fun i => match l[i]? with
    | none => true
    | some o => (o.after.all fun e => !Region.binds .any e || decide (e.on < i)) &&
      (List.range l.length).all fun j => i == j || match l[j]? with
        | none => true
        | some oj => match oj.dst with
          | none => true
          | some d => (!(o.looksAt l.toArray).contains d || Region.waitsFor .any l.toArray i j || Region.waitsFor .any l.toArray j i) && o.dst != some d) &&
  ((List.range l.length).all fun i => match l[i]? with
    | none => true
    | some o => match o.dst with
      | none => true
      | some d => !(o.looksAt l.toArray).contains d) &&
  ((List.range l.length).all fun i => match ovL ls i with
    | .new t => Region.waitsFor .any l.toArray i t && !((ovL ls t).isOld || (ovL ls t).anyAgain) && (List.range l.length).all fun j => i == j || !(ovL ls j).kills t
    | .old => os.contains i
    | .again r p => os.contains r && ((ancK l i).contains p && i != p) && ((ancK l i).contains r && i != r) && ((List.range l.length).all fun j => i == j || !(ovL ls j).kills p) &&
        (List.range l.length).all fun j => i == j || p == j || !(r == j || (ovL ls j).isAgain r) || (ancK l j).contains i || (List.range l.length).any fun s => i != s && (ancK l i).contains s && (ovL ls s).kills j
    | .none => true) &&
  ((List.range l.length).all fun i => (lineL ls i).1.all fun j => ((ancK l i).contains j && i != j) && (List.range l.length).all fun s => s == i || !(ovL ls s).kills j) &&
  ((List.range l.length).all fun i => os.all fun j => (lineL ls i).2.2.contains j || (ancK l j).contains i) &&
  (os.all fun i => decide (i < l.length) && (ovL ls i).isOld) &&
  live.all fun i => decide (i < l.length) && (List.range l.length).all fun s => !(ovL ls s).kills i

structure FreeOkL (l : List Oper) (ls : List LineL) (live os : List Nat) : Prop where
  sel : Region.noSelect l.toArray = true
  len : ls.length = l.length
  back : ∀ (i : Nat) (o : Oper), l[i]? = some o → ∀ e ∈ o.after, Region.binds .any e = true → e.on < i
  looks : ∀ (i : Nat) (o : Oper) (j : Nat) (oj : Oper) d, l[i]? = some o → l[j]? = some oj → oj.dst = some d → d ∈ o.looksAt l.toArray → Region.waitsFor .any l.toArray i j = true ∨ Region.waitsFor .any l.toArray j i = true
  dst : ∀ (i : Nat) (o : Oper) (j : Nat) (oj : Oper) d, i ≠ j → l[i]? = some o → l[j]? = some oj → oj.dst = some d → o.dst ≠ some d
  over : ∀ i t, i < l.length → ovL ls i = .new t → Region.waitsFor .any l.toArray i t = true ∧ ovL ls t ≠ .old ∧ ∀ j, j < l.length → (ovL ls j).kills t = true → j = i
  again : ∀ i r p, i < l.length → ovL ls i = .again r p → r ∈ os ∧ (p ∈ ancK l i ∧ i ≠ p) ∧ (r ∈ ancK l i ∧ i ≠ r) ∧ (∀ j, j < l.length → (ovL ls j).kills p = true → j = i) ∧ ∀ j, j < l.length → j ≠ i → j ≠ p → (j = r ∨ ∃ q, ovL ls j = .again r q) → i ∈ ancK l j ∨ ∃ s, s < l.length ∧ s ≠ i ∧ s ∈ ancK l i ∧ (ovL ls s).kills j = true
  olds : ∀ i, i < l.length → ovL ls i = .old → i ∈ os
  deps : ∀ i j, i < l.length → j ∈ (lineL ls i).1 → (j ∈ ancK l i ∧ i ≠ j) ∧ ∀ s, s < l.length → (ovL ls s).kills j = true → s = i
  ms : ∀ i j, i < l.length → j ∈ os → j ∈ (lineL ls i).2.2 ∨ i ∈ ancK l j
  oss : ∀ i, i ∈ os → i < l.length ∧ ovL ls i = .old
  lives : ∀ i, i ∈ live → i < l.length ∧ ∀ s, s < l.length → (ovL ls s).kills i = false

theorem freeOkL {l : List Oper} {ls : List LineL} {live os : List Nat} (h : freeLB l ls live os = true) : FreeOkL l ls live os := by
  simp only [freeLB, Bool.and_eq_true, decide_eq_true_eq, List.all_eq_true, List.mem_range, Bool.or_eq_true, beq_iff_eq] at h
  obtain ⟨⟨⟨⟨⟨⟨⟨⟨h1, h2⟩, h3⟩, h4⟩, h5⟩, h6⟩, h8⟩, h9⟩, h7⟩ := h
  have hnew : ∀ {b : Bool}, (!b) = true → b = true → False := fun hn e => by subst e; cases hn
  have hold : ∀ {o : OvL}, (!o.isOld) = true → o ≠ .old := fun hn e => by subst e; simp [OvL.isOld] at hn
  refine ⟨h1, h2, fun i o ho e he hb => ?_, fun i o j oj d ho hoj hd hl => ?_, fun i o j oj d hij ho hoj hd => ?_, fun i t hi ht => ?_, fun i r p hi ht => ?_, fun i hi ht => ?_, fun i j hi hj => ?_, fun i j hi hj => ?_, fun i hi => ?_, fun i hi => ?_⟩
  · have := h3 i (lt_of_get ho)
    simp only [ho, Bool.and_eq_true] at this
    have h7 := Array.all_eq_true_iff_forall_mem.1 this.1 e he
    simpa [hb] using h7
  · by_cases hij : i = j
    · subst hij
      have := h4 i (lt_of_get ho)
      obtain rfl : o = oj := Option.some.inj (ho.symm.trans hoj)
      simp [ho, hd, hl] at this
    · have := h3 i (lt_of_get ho)
      simp only [ho, Bool.and_eq_true, List.all_eq_true, List.mem_range] at this
      have h7 := this.2 j (lt_of_get hoj)
      simp [hij, hoj, hd, hl] at h7
      exact h7.1
  · have := h3 i (lt_of_get ho)
    simp only [ho, Bool.and_eq_true, List.all_eq_true, List.mem_range] at this
    have h7 := this.2 j (lt_of_get hoj)
    simp [hij, hoj, hd] at h7
    exact h7.2
  · have := h5 i hi
    rw [ht] at this
    simp only [Bool.and_eq_true, List.all_eq_true, List.mem_range, Bool.or_eq_true, beq_iff_eq] at this
    refine ⟨this.1.1, fun e => ?_, fun j hj hjt => by
      rcases this.2 j hj with h | h
      · exact h.symm
      · exact (hnew h hjt).elim⟩
    have h2 := this.1.2
    rw [e] at h2
    simp [OvL.isOld] at h2
  · have := h5 i hi
    rw [ht] at this
    simp only [Bool.and_eq_true, List.all_eq_true, List.mem_range, Bool.or_eq_true, beq_iff_eq, List.any_eq_true, bne_iff_ne, List.contains_iff_mem] at this
    obtain ⟨⟨⟨⟨a1, a2⟩, a3⟩, a4⟩, a5⟩ := this
    refine ⟨a1, a2, a3, fun j hj hjt => ?_, fun j hj hji hjp hg => ?_⟩
    · rcases a4 j hj with h | h
      · exact h.symm
      · exact (hnew h hjt).elim
    · rcases a5 j hj with (((h | h) | h) | h) | h
      · exact absurd h.symm hji
      · exact absurd h.symm hjp
      · exfalso
        rcases hg with rfl | ⟨q, hq⟩
        · simp at h
        · rw [hq] at h; simp [OvL.isAgain] at h
      · exact .inl h
      · obtain ⟨s, hs, ⟨h1, h2⟩, h3⟩ := h
        exact .inr ⟨s, hs, Ne.symm h1, h2, h3⟩
  · have := h5 i hi
    rw [ht] at this
    simpa using this
  · have := h6 i hi j hj
    exact ⟨⟨by simpa using this.1.1, by simpa using this.1.2⟩, fun s hs hsj => by
      rcases this.2 s hs with h | h
      · exact h
      · exact (hnew h hsj).elim⟩
  · have := h8 i hi j hj
    simpa using this
  · have := h9 i hi
    exact ⟨this.1, OvL.of_old this.2⟩
  · have := h7 i hi
    exact ⟨this.1, fun s hs => by simpa using this.2 s hs⟩

def ownL (ls : List LineL) (ob : Nat → Nat) (i y : Nat) : Prop := (ovL ls i = .old ∧ y = ob i) ∨ ∃ r p, ovL ls i = .again r p ∧ y = ob r
def LiveL (l : List Oper) (ls : List LineL) (on : Nat → Bool) (i : Nat) : Prop := i < l.length ∧ on i = true ∧ ∀ s, s < l.length → (ovL ls s).kills i = true → on s = false
def LocalL (ls : List LineL) (Gs : Nat → Sp) : Prop := ∀ k V V' L H w, V k = V' k → (∀ j, j ∈ (lineL ls k).1 → V j = V' j) → Gs k V L H w → Gs k V' L H w
/-- What operation i must show. -/
def ShowsL (ls : List LineL) (FJ : Nat → Prop) (J : World → Prop) (ob : Nat → Nat) (Gs : Nat → Sp) (V : Nat → Value) (L H : Nat → Nat) (w : World) (i : Nat) (v : Value) (w' : World) : Prop :=
  match ovL ls i with
  | .none => (WritesF FJ w w' ∧ J w') ∧ Gs i (upd V i v) w.heap.size w'.heap.size w'
  | .new t => Touches (L t) (H t) w w' ∧ Gs i (upd V i v) (L t) (H t) w'
  | .old => Touches (ob i) (ob i + 1) w w' ∧ Gs i (upd V i v) w.heap.size w'.heap.size w'
  | .again r _ => Touches (ob r) (ob r + 1) w w' ∧ Gs i (upd V i v) w.heap.size w'.heap.size w'

structure FreeInvL (l : List Oper) (ls : List LineL) (os : List Nat) (a0 : Act) (w0 : World) (FJ : Nat → Prop) (J : World → Prop) (ob : Nat → Nat) (Gs : Nat → Sp) (listed : Array Bool) (V : Nat → Value) (L H : Nat → Nat) (a : Act) (w : World) : Prop where
  size : listed.size = l.length
  closed : ∀ j oj, l[j]? = some oj → listed.getD j false = true → ∀ e ∈ oj.after, Region.binds .any e = true → listed.getD e.on false = true
  act : a = actOf (fun k => listed.getD k false) V 0 l a0
  wrote : WritesF (FAK FJ ob os) w0 w
  inv : J w
  notyet : ∀ i, i ∈ os → listed.getD i false = false → w.heap[ob i]? = w0.heap[ob i]?
  held : ∀ i, LiveL l ls (fun k => listed.getD k false) i → heldK w0.heap.size Gs V L H w i
  dead : ∀ s i, s < l.length → ovL ls s = .new i → listed.getD s false = true → L s = L i ∧ H s = H i ∧ ∃ wo, Gs i V (L i) (H i) wo
  apart : ∀ i j, i ≠ j → LiveL l ls (fun k => listed.getD k false) i → LiveL l ls (fun k => listed.getD k false) j → H i ≤ L j ∨ H j ≤ L i

theorem ready_someL {l : List Oper} {ls : List LineL} {live os : List Nat} (ok : FreeOkL l ls live os) {listed : Array Bool} (hsz : listed.size = l.length) : ∀ i, i < l.length → listed.getD i true = false → ∃ j, j ∈ Region.ready .any l.toArray listed := by
  intro i
  induction i using Nat.strongRecOn with
  | _ i ih =>
    intro hil hu
    by_cases hr : i ∈ Region.ready .any l.toArray listed
    · exact ⟨i, hr⟩
    · have h1 : ¬ (listed.getD i true = false ∧ ∃ o, l.toArray[i]? = some o ∧ ∀ e ∈ o.after, Region.binds .any e = true → listed.getD e.on false = true) := fun h => hr (mem_ready.2 h)
      have h2 : ∃ e ∈ (l[i]'hil).after, Region.binds .any e = true ∧ ¬ listed.getD e.on false = true := by
        by_cases h3 : ∃ e ∈ (l[i]'hil).after, Region.binds .any e = true ∧ ¬ listed.getD e.on false = true
        · exact h3
        · exact absurd ⟨hu, l[i]'hil, by simp [hil], fun e he hb => by
            by_cases h4 : listed.getD e.on false = true
            · exact h4
            · exact absurd ⟨e, he, hb, h4⟩ h3⟩ h1
      obtain ⟨e, he, hb, hn⟩ := h2
      have hlt := ok.back i _ (by simp [hil]) e he hb
      exact ih e.on hlt (by omega) (getD_in (by omega) (by simpa using hn))

section
variable {P : Program}

theorem wpAny_freeL {l : List Oper} {ls : List LineL} {live os : List Nat} {a0 : Act} {w0 : World} {FJ : Nat → Prop} {J : World → Prop} {ob : Nat → Nat} {Gs : Nat → Sp} {Q : Exit → Act → World → Prop} (ok : FreeOkL l ls live os)
    (hob : ObLK w0.heap.size FJ ob os) (hF : ∀ y, FJ y → y < w0.heap.size)
    (hJ : ∀ w1 w2, w0.heap.size ≤ w1.heap.size → J w1 → Kept (fun y => y < w0.heap.size ∧ NeAllK ob y os) w1 w2 → J w2)
    (hloc : LocalL ls Gs) (hlast : ∀ i, i < l.length → LastsK w0.heap.size FJ ob os (ownL ls ob i) (Gs i))
    (hrun : ∀ i o, l[i]? = some o → ∀ V L H w, WritesF (FAK FJ ob os) w0 w → Kept (fun y => y < w0.heap.size ∧ ¬ FJ y ∧ NeAllK ob y (lineL ls i).2.2) w0 w → J w → (∀ j, j ∈ (lineL ls i).1 → heldK w0.heap.size Gs V L H w j) →
      wpList P l.toArray (FreePost Q (lexOf V 0 (l.take i) a0) o.dst (ShowsL ls FJ J ob Gs V L H w i)) [o] (lexOf V 0 (l.take i) a0) w)
    (hend : ∀ V L H w, WritesF (FAK FJ ob os) w0 w → J w → (∀ j, j ∈ live → heldK w0.heap.size Gs V L H w j) → (∀ i j, i ∈ live → j ∈ live → i ≠ j → H i ≤ L j ∨ H j ≤ L i) →
      (∀ s i, s < l.length → ovL ls s = .new i → L s = L i ∧ H s = H i ∧ ∃ wo, Gs i V (L i) (H i) wo) → Q .normal (lexOf V 0 l a0) w) :
    ∀ (f : Nat) (listed : Array Bool) (V : Nat → Value) (L H : Nat → Nat) (a : Act) (w : World), FreeInvL l ls os a0 w0 FJ J ob Gs listed V L H a w →
      (List.range l.length).countP (fun i => listed.getD i true == false) = f → wpAny P .any l.toArray Q f listed a w
  | 0, listed, V, L, H, a, w, inv, hf => by
    have hall : ∀ i, i < l.length → listed.getD i true = true := fun i hi => by
      have h1 := List.countP_eq_zero.1 hf i (List.mem_range.2 hi)
      simpa using h1
    have hallf : ∀ i, i < l.length → listed.getD i false = true := fun i hi => by
      have h1 := hall i hi
      have h2 : i < listed.size := by have := inv.size; omega
      simp [h2] at h1 ⊢; exact h1
    have hlv : ∀ i, i ∈ live → LiveL l ls (fun k => listed.getD k false) i := fun i hi => ⟨(ok.lives i hi).1, hallf i (ok.lives i hi).1, fun s hs h => by rw [(ok.lives i hi).2 s hs] at h; cases h⟩
    have hact : a = lexOf V 0 l a0 := by
      rw [inv.act]
      exact actOf_all _ _ _ fun m hm => by rw [Nat.zero_add]; exact hallf m hm
    refine ⟨?_, ?_⟩
    · cases hr : Region.ready .any l.toArray listed with
      | nil => rfl
      | cons i r =>
        have hi : i ∈ Region.ready .any l.toArray listed := by rw [hr]; exact List.mem_cons_self
        obtain ⟨hun, o, ho, _⟩ := mem_ready.1 hi
        have hil : i < l.length := lt_of_get (by simpa using ho)
        rw [hall i hil] at hun
        cases hun
    · rw [hact]
      exact hend V L H w inv.wrote inv.inv (fun j hj => inv.held j (hlv j hj)) (fun i j hi hj hij => inv.apart i j hij (hlv i hi) (hlv j hj)) (fun s i hs hsi => inv.dead s i hs hsi (hallf s hs))
  | f + 1, listed, V, L, H, a, w, inv, hf => by
    have hsz := inv.size
    have hex : ∃ i, i < l.length ∧ listed.getD i true = false := by
      have h1 : 0 < (List.range l.length).countP (fun i => listed.getD i true == false) := by omega
      obtain ⟨i, hi, h2⟩ := List.countP_pos_iff.1 h1
      exact ⟨i, List.mem_range.1 hi, by simpa using h2⟩
    obtain ⟨i0, hi0, hu0⟩ := hex
    refine ⟨fun h0 => ?_, fun i hi => ?_⟩
    · obtain ⟨j, hj⟩ := ready_someL ok hsz i0 hi0 hu0
      rw [h0] at hj; cases hj
    · obtain ⟨hun, o, ho, hall⟩ := mem_ready.1 hi
      have ho' : l[i]? = some o := by simpa using ho
      have hil := lt_of_get ho'
      have hoff : listed.getD i false = false := getD_both hun
      have hwaits : ∀ j, Region.waitsFor .any l.toArray i j = true → j < i ∧ listed.getD j false = true := fun j hj => by
        obtain ⟨oj, hoj, e, he, hb, hon⟩ := Region.waitsFor_spec hj
        obtain rfl : oj = o := Option.some.inj (hoj.symm.trans ho)
        exact ⟨hon ▸ ok.back i oj ho' e he hb, hon ▸ hall e he hb⟩
      have hlive : ∀ j, Region.waitsFor .any l.toArray i j = true → (∀ s, s < l.length → (ovL ls s).kills j = true → s = i) → LiveL l ls (fun k => listed.getD k false) j := fun j hj hs =>
        ⟨by have := (hwaits j hj).1; omega, (hwaits j hj).2, fun s hsl hsj => by rw [hs s hsl hsj]; exact hoff⟩
      have hclosed : ∀ j oj, l[j]? = some oj → (listed.setIfInBounds i true).getD j false = true → ∀ e ∈ oj.after, Region.binds .any e = true → (listed.setIfInBounds i true).getD e.on false = true := fun j oj hoj hl e he hb => by
        by_cases hij : i = j
        · subst hij
          obtain rfl : oj = o := Option.some.inj (hoj.symm.trans ho')
          exact getD_set_true (hall e he hb)
        · rw [getD_set_ne false hij] at hl
          exact getD_set_true (inv.closed j oj hoj hl e he hb)
      have hanc : ∀ j, j ∈ ancK l i → i ≠ j → listed.getD j false = true := fun j hj hij => by
        have h1 := closGo_specK hclosed (i + 1) [i] (fun s hs => by rw [List.mem_singleton.1 hs]; simp [show i < listed.size by omega]) j hj
        rwa [getD_set_ne false hij] at h1
      have hlive2 : ∀ j, j ∈ ancK l i → i ≠ j → (∀ s, s < l.length → (ovL ls s).kills j = true → s = i) → LiveL l ls (fun k => listed.getD k false) j := fun j hj hij hs =>
        ⟨by have h1 := hanc j hj hij; rcases Nat.lt_or_ge j listed.size with h2 | h2; (· omega); (· simp [h2] at h1), hanc j hj hij, fun s hsl hsj => by rw [hs s hsl hsj]; exact hoff⟩
      -- a store that must come behind i has not run
      have hlater : ∀ j, j ∈ os → i ∈ ancK l j → listed.getD j false = false := fun j hj ha => by
        cases hl : listed.getD j false with
        | false => rfl
        | true =>
          have := closGo_specK inv.closed (j + 1) [j] (fun s hs => by rw [List.mem_singleton.1 hs]; exact hl) i ha
          rw [hoff] at this; cases this
      have hkept : Kept (fun y => y < w0.heap.size ∧ ¬ FJ y ∧ NeAllK ob y (lineL ls i).2.2) w0 w := ⟨inv.wrote.size, fun y hy hlt => by
        obtain ⟨_, h2, h3⟩ := hy
        by_cases hya : NeAllK ob y os
        · exact inv.wrote.block y hlt (fun h => h.elim h2 (fun h => h hya))
        · obtain ⟨j, hj, hyj⟩ : ∃ j, j ∈ os ∧ y = ob j := by
            by_cases h : ∃ j, j ∈ os ∧ y = ob j
            · exact h
            · exact absurd (neAll_iffK.2 fun j hj e => h ⟨j, hj, e⟩) hya
          subst hyj
          rcases ok.ms i j hil hj with h | h
          · exact absurd rfl (neAll_iffK.1 h3 j h)
          · exact inv.notyet j hj (hlater j hj h)⟩
      have hR := hrun i o ho' V L H w inv.wrote hkept inv.inv (fun j hj => inv.held j (hlive2 j (ok.deps i j hil hj).1.1 (ok.deps i j hil hj).1.2 (ok.deps i j hil hj).2))
      have hagree : ∀ t, t ∈ o.looksAt l.toArray → a.eval (.tmp t) = (lexOf V 0 (l.take i) a0).eval (.tmp t) := fun t ht => by
        rw [inv.act]
        refine agreeK l 0 i a0 a0 rfl rfl fun m o2 hm hd => ?_
        rw [Nat.zero_add]
        rcases ok.looks i o m o2 t ho' hm hd ht with hw | hw
        · exact .inl (hwaits m hw)
        · obtain ⟨o3, ho3, e, he, hb, hon⟩ := Region.waitsFor_spec hw
          have ho3' : l[m]? = some o3 := by simpa using ho3
          have hlt := ok.back m o3 ho3' e he hb
          refine .inr ⟨by omega, ?_⟩
          cases hl : listed.getD m false with
          | false => rfl
          | true =>
            have := inv.closed m o3 ho3' hl e he hb
            rw [hon, hoff] at this
            cases this
      unfold wpOp
      simp only [ho]
      refine wp_of_free (wanted_same (by rw [inv.act, actOf_size, lexOf_size]) fun t ht => hagree t ht) (Region.noSelect_spec ok.sel i o · · ho) (fun x hx => ?_) (by rw [inv.act, actOf_size, lexOf_size]) (fun v w' hS => ?_) hR
      · cases x with
        | tmp t => exact hagree t (List.mem_append_left _ (List.mem_filterMap.2 ⟨.tmp t, by simpa using hx, rfl⟩))
        | _ => rfl
      · have hgs : ∀ j, (listed.setIfInBounds i true).getD j false = (j == 0 + i || listed.getD j false) := fun j => by
          by_cases hji : j = i
          · subst hji; simp [show j < listed.size by omega]
          · rw [getD_set_ne false (Ne.symm hji)]; simp [hji]
        have hact : actOf (fun k => (listed.setIfInBounds i true).getD k false) (upd V i v) 0 l a0 = a.put o.dst v := by
          have hact := actOf_set (on := fun k => listed.getD k false) (V := V) (v := v) l 0 i a0 o ho' (fun m' o2 hm hne d hd hd2 => ok.dst m' o2 i o d hne hm ho' hd hd2)
          rcases hact with hact | hact
          · rw [inv.act, ← hact]
            congr 1
            · funext j; exact hgs j
            · funext j; simp [upd]
          · rw [Nat.zero_add] at hact; rw [hact] at hoff; cases hoff
        have hcnt : (List.range l.length).countP (fun j => (listed.setIfInBounds i true).getD j true == false) = f := by
          have h1 := countP_flip (p := fun j => listed.getD j true == false) (q := fun j => (listed.setIfInBounds i true).getD j true == false) (i := i) (List.range l.length) List.nodup_range (List.mem_range.2 hil) (by simpa using hun) (by simp [show i < listed.size by omega]) (fun j hj => by simp only [getD_set_ne true (Ne.symm hj)])
          omega
        have hold : ∀ j, j ≠ i → LiveL l ls (fun k => (listed.setIfInBounds i true).getD k false) j → LiveL l ls (fun k => listed.getD k false) j ∧ (ovL ls i).kills j ≠ true := fun j hji ⟨h1, h2, h3⟩ =>
          ⟨⟨h1, by have := h2; simp only [hgs j, Nat.zero_add] at this; simpa [hji] using this, fun s hs hsj => by
              have h4 := h3 s hs hsj
              simp only [hgs s, Bool.or_eq_false_iff] at h4
              exact h4.2⟩, fun h => by have h4 := h3 i hil h; simp [hgs i] at h4⟩
        have htgt : ∀ s t, s < l.length → ovL ls s = .new t → listed.getD s false = true → listed.getD t false = true := fun s t hs hst hl => by
          obtain ⟨os, hos, e, he, hb, hon⟩ := Region.waitsFor_spec (ok.over s t hs hst).1
          exact hon ▸ inv.closed s os (by simpa using hos) hl e he hb
        have hni : ∀ t, listed.getD t false = true → t ≠ i := fun t ht e => by rw [e, hoff] at ht; cases ht
        have hmv : ∀ k, k < l.length → listed.getD k false = true → ∀ L H w, Gs k V L H w → Gs k (upd V i v) L H w := fun k hk hon L H w hG =>
          hloc k V (upd V i v) L H w (upd_ne (hni k hon)).symm (fun j hj => (upd_ne (hni j (by
            exact closGo_specK inv.closed (k + 1) [k] (fun s hs => by rw [List.mem_singleton.1 hs]; exact hon) j (ok.deps k j hk hj).1.1))).symm) hG
        have htlt : ∀ s t, s < l.length → ovL ls s = .new t → t < l.length := fun s t hs hst => by
          obtain ⟨os, hos, e, he, hb, hon⟩ := Region.waitsFor_spec (ok.over s t hs hst).1
          have h5 := ok.back s os (by simpa using hos) e he hb
          omega
        -- a live one's blocks are none of FJ
        have hfj : ∀ j, LiveL l ls (fun k => listed.getD k false) j → ∀ y, L j ≤ y → y < H j → ¬ FJ y := fun j hlj y h1 h2 hy => by
          obtain ⟨g1, _⟩ := inv.held j hlj
          unfold lowK at g1
          have := hF y hy
          omega
        have hB : w0.heap.size ≤ w.heap.size := inv.wrote.size
        cases hov : ovL ls i with
        | none =>
          unfold ShowsL at hS
          rw [hov] at hS
          obtain ⟨⟨hb, hj'⟩, hG⟩ := hS
          have hios : i ∉ os := fun h => by have := (ok.oss i h).2; rw [hov] at this; cases this
          refine wpAny_freeL ok hob hF hJ hloc hlast hrun hend f (listed.setIfInBounds i true) (upd V i v) (fun j => if j = i then w.heap.size else L j) (fun j => if j = i then w'.heap.size else H j) _ w' ⟨by simpa using hsz, hclosed, hact.symm, inv.wrote.trans (hb.sub fun _ h => .inl h), hj', ?_, ?_, ?_, ?_⟩ hcnt
          · intro j hj hl
            rw [hgs j] at hl
            have hl' : listed.getD j false = false := by
              cases h : listed.getD j false with
              | false => rfl
              | true => rw [h, Bool.or_true] at hl; cases hl
            exact (hb.block _ (Nat.lt_of_lt_of_le (hob.at j hj).1 hB) (hob.at j hj).2).trans (inv.notyet j hj hl')
          · intro j hj
            unfold heldK
            by_cases hji : j = i
            · subst hji
              simp only [if_true]
              refine ⟨?_, hb.size, Nat.le_refl _, hG⟩
              unfold lowK
              simp only [if_true]
              exact inv.wrote.size
            · simp only [hji, if_false]
              have hlj := (hold j hji hj).1
              obtain ⟨h1, h2, h3, h4⟩ := inv.held j hlj
              refine ⟨?_, h2, Nat.le_trans h3 hb.size, hlast j hj.1 _ _ _ w w' hB h3 ⟨hb.size, fun y hy hlt => hb.block y hlt ?_⟩ (hmv j hj.1 hlj.2.1 _ _ _ h4)⟩
              · unfold lowK at h1 ⊢
                simp only [hji, if_false]
                exact h1
              · rcases hy with hy | hy | hy
                · exact hy.2.1
                · exact hfj j hlj y hy.1 hy.2
                · rcases hy with hy | ⟨r, p, hr, hy⟩
                  · rw [hy.2]; exact (hob.at j (ok.olds j hlj.1 hy.1)).2
                  · rw [hy]; exact (hob.at r (ok.again j r p hlj.1 hr).1).2
          · intro s t hs hst hl
            rw [hgs s] at hl
            by_cases hsi : s = i
            · subst hsi; rw [hov] at hst; cases hst
            · have hl' : listed.getD s false = true := by simpa [hsi] using hl
              have hti := hni t (htgt s t hs hst hl')
              obtain ⟨e1, e2, wo, hG'⟩ := inv.dead s t hs hst hl'
              simp only [hsi, hti, if_false]
              exact ⟨e1, e2, wo, hmv t (htlt s t hs hst) (htgt s t hs hst hl') _ _ _ hG'⟩
          · intro j k hjk hlj hlk
            by_cases hji : j = i
            · subst hji
              simp only [if_true, Ne.symm hjk, if_false]
              exact .inr (inv.held k (hold k (Ne.symm hjk) hlk).1).2.2.1
            · by_cases hki : k = i
              · subst hki
                simp only [if_true, hji, if_false]
                exact .inl (inv.held j (hold j hji hlj).1).2.2.1
              · simp only [hji, hki, if_false]
                exact inv.apart j k hjk (hold j hji hlj).1 (hold k hki hlk).1
        | new t =>
          unfold ShowsL at hS
          rw [hov] at hS
          obtain ⟨hb, hG⟩ := hS
          obtain ⟨hwt, hto, huni⟩ := ok.over i t hil hov
          have hlt : LiveL l ls (fun k => listed.getD k false) t := hlive t hwt (fun s hs h => huni s hs h)
          obtain ⟨t1, t2, t3, t4⟩ := inv.held t hlt
          have t1' : w0.heap.size ≤ L t := t1
          have hne : ∀ j, j ≠ i → LiveL l ls (fun k => (listed.setIfInBounds i true).getD k false) j → j ≠ t := fun j hji hj e => (hold j hji hj).2 (by rw [e, hov]; simp [OvL.kills])
          have hios : i ∉ os := fun h => by have := (ok.oss i h).2; rw [hov] at this; cases this
          refine wpAny_freeL ok hob hF hJ hloc hlast hrun hend f (listed.setIfInBounds i true) (upd V i v) (fun j => if j = i then L t else L j) (fun j => if j = i then H t else H j) _ w' ⟨by simpa using hsz, hclosed, hact.symm, inv.wrote.touchedK hb (fun b h1 _ h2 => by omega), hJ w w' hB inv.inv ⟨hb.size, fun y hy hlt => hb.block y hlt (fun h => by have := hy.1; omega)⟩, ?_, ?_, ?_, ?_⟩ hcnt
          · intro j hj hl
            rw [hgs j] at hl
            have hl' : listed.getD j false = false := by
              cases h : listed.getD j false with
              | false => rfl
              | true => rw [h, Bool.or_true] at hl; cases hl
            have hoj := (hob.at j hj).1
            exact (hb.block _ (Nat.lt_of_lt_of_le hoj hB) (fun h => by omega)).trans (inv.notyet j hj hl')
          · intro j hj
            unfold heldK
            by_cases hji : j = i
            · subst hji
              simp only [if_true]
              refine ⟨?_, t2, Nat.le_trans t3 hb.size, hG⟩
              unfold lowK
              simp only [if_true]
              exact t1'
            · simp only [hji, if_false]
              have hlj := (hold j hji hj).1
              obtain ⟨h1, h2, h3, h4⟩ := inv.held j hlj
              have hap := inv.apart j t (hne j hji hj) hlj hlt
              refine ⟨?_, h2, Nat.le_trans h3 hb.size, hlast j hj.1 _ _ _ w w' hB h3 ⟨hb.size, fun y hy hlt => hb.block y hlt (fun hb3 => ?_)⟩ (hmv j hj.1 hlj.2.1 _ _ _ h4)⟩
              · unfold lowK at h1 ⊢
                simp only [hji, if_false]
                exact h1
              · rcases hy with hy | hy | hy
                · have := hy.1; omega
                · rcases hap with h | h <;> omega
                · rcases hy with hy | ⟨r, p, hr, hy⟩
                  · have := (hob.at j (ok.olds j hlj.1 hy.1)).1; have := hy.2; omega
                  · have := (hob.at r (ok.again j r p hlj.1 hr).1).1; omega
          · intro s u hs hst hl
            rw [hgs s] at hl
            by_cases hsi : s = i
            · subst hsi
              obtain rfl : t = u := by rw [hov] at hst; exact OvL.new.inj hst
              have hti := hni t hlt.2.1
              simp only [hti, if_true, if_false]
              exact ⟨trivial, trivial, w, hmv t hlt.1 hlt.2.1 _ _ _ t4⟩
            · have hl' : listed.getD s false = true := by simpa [hsi] using hl
              have hti := hni u (htgt s u hs hst hl')
              obtain ⟨e1, e2, wo, hG'⟩ := inv.dead s u hs hst hl'
              simp only [hsi, hti, if_false]
              exact ⟨e1, e2, wo, hmv u (htlt s u hs hst) (htgt s u hs hst hl') _ _ _ hG'⟩
          · intro j k hjk hlj hlk
            by_cases hji : j = i
            · subst hji
              simp only [if_true, Ne.symm hjk, if_false]
              exact (inv.apart t k (Ne.symm (hne k (Ne.symm hjk) hlk)) hlt (hold k (Ne.symm hjk) hlk).1)
            · by_cases hki : k = i
              · subst hki
                simp only [if_true, hji, if_false]
                exact (inv.apart j t (hne j hji hlj) (hold j hji hlj).1 hlt)
              · simp only [hji, hki, if_false]
                exact inv.apart j k hjk (hold j hji hlj).1 (hold k hki hlk).1
        | old =>
          unfold ShowsL at hS
          rw [hov] at hS
          obtain ⟨hb, hG⟩ := hS
          have hios := ok.olds i hil hov
          obtain ⟨ho1, ho2⟩ := hob.at i hios
          refine wpAny_freeL ok hob hF hJ hloc hlast hrun hend f (listed.setIfInBounds i true) (upd V i v) (fun j => if j = i then w.heap.size else L j) (fun j => if j = i then w'.heap.size else H j) _ w' ⟨by simpa using hsz, hclosed, hact.symm, inv.wrote.touchedK hb (fun b h1 hn h2 => hn (.inr (fun hne => neAll_iffK.1 hne i hios (by omega)))), hJ w w' hB inv.inv ⟨hb.size, fun y hy hlt => hb.block y hlt (fun h => by have := neAll_iffK.1 hy.2 i hios; omega)⟩, ?_, ?_, ?_, ?_⟩ hcnt
          · intro j hj hl
            rw [hgs j] at hl
            have hji : j ≠ i := fun e => by subst e; simp at hl
            have hl' : listed.getD j false = false := by
              cases h : listed.getD j false with
              | false => rfl
              | true => rw [h, Bool.or_true] at hl; cases hl
            have hne := hob.ne j hj i hios hji
            exact (hb.block _ (Nat.lt_of_lt_of_le (hob.at j hj).1 hB) (fun h => by omega)).trans (inv.notyet j hj hl')
          · intro j hj
            unfold heldK
            by_cases hji : j = i
            · subst hji
              simp only [if_true]
              refine ⟨?_, hb.size, Nat.le_refl _, hG⟩
              unfold lowK
              simp only [if_true]
              exact inv.wrote.size
            · simp only [hji, if_false]
              have hlj := (hold j hji hj).1
              obtain ⟨h1, h2, h3, h4⟩ := inv.held j hlj
              refine ⟨?_, h2, Nat.le_trans h3 hb.size, hlast j hj.1 _ _ _ w w' hB h3 ⟨hb.size, fun y hy hlt => hb.block y hlt (fun hb3 => ?_)⟩ (hmv j hj.1 hlj.2.1 _ _ _ h4)⟩
              · unfold lowK at h1 ⊢
                simp only [hji, if_false]
                exact h1
              · rcases hy with hy | hy | hy
                · have := neAll_iffK.1 hy.2.2 i hios; omega
                · unfold lowK at h1; omega
                · rcases hy with hy | ⟨r, p, hr, hy⟩
                  · have := hob.ne i hios j (ok.olds j hlj.1 hy.1) (Ne.symm hji); have := hy.2; omega
                  · have hag := ok.again j r p hlj.1 hr
                    have hri : i ≠ r := fun e => by
                      have := closGo_specK inv.closed (j + 1) [j] (fun s hs => by rw [List.mem_singleton.1 hs]; exact hlj.2.1) r hag.2.2.1.1
                      rw [← e, hoff] at this; cases this
                    have := hob.ne i hios r hag.1 hri; omega
          · intro s t hs hst hl
            rw [hgs s] at hl
            by_cases hsi : s = i
            · subst hsi; rw [hov] at hst; cases hst
            · have hl' : listed.getD s false = true := by simpa [hsi] using hl
              have hti := hni t (htgt s t hs hst hl')
              obtain ⟨e1, e2, wo, hG'⟩ := inv.dead s t hs hst hl'
              simp only [hsi, hti, if_false]
              exact ⟨e1, e2, wo, hmv t (htlt s t hs hst) (htgt s t hs hst hl') _ _ _ hG'⟩
          · intro j k hjk hlj hlk
            by_cases hji : j = i
            · subst hji
              simp only [if_true, Ne.symm hjk, if_false]
              exact .inr (inv.held k (hold k (Ne.symm hjk) hlk).1).2.2.1
            · by_cases hki : k = i
              · subst hki
                simp only [if_true, hji, if_false]
                exact .inl (inv.held j (hold j hji hlj).1).2.2.1
              · simp only [hji, hki, if_false]
                exact inv.apart j k hjk (hold j hji hlj).1 (hold k hki hlk).1
        | again r p =>
          unfold ShowsL at hS
          rw [hov] at hS
          obtain ⟨hb, hG⟩ := hS
          obtain ⟨hros, hpa, hra, hpu, hgr⟩ := ok.again i r p hil hov
          have hios : i ∉ os := fun h => by have := (ok.oss i h).2; rw [hov] at this; cases this
          have hron := hanc r hra.1 hra.2
          obtain ⟨ho1, ho2⟩ := hob.at r hros
          refine wpAny_freeL ok hob hF hJ hloc hlast hrun hend f (listed.setIfInBounds i true) (upd V i v) (fun j => if j = i then w.heap.size else L j) (fun j => if j = i then w'.heap.size else H j) _ w' ⟨by simpa using hsz, hclosed, hact.symm, inv.wrote.touchedK hb (fun b h1 hn h2 => hn (.inr (fun hne => neAll_iffK.1 hne r hros (by omega)))), hJ w w' hB inv.inv ⟨hb.size, fun y hy hlt => hb.block y hlt (fun h => by have := neAll_iffK.1 hy.2 r hros; omega)⟩, ?_, ?_, ?_, ?_⟩ hcnt
          · intro j hj hl
            rw [hgs j] at hl
            have hji : j ≠ i := fun e => by subst e; simp at hl
            have hl' : listed.getD j false = false := by
              cases h : listed.getD j false with
              | false => rfl
              | true => rw [h, Bool.or_true] at hl; cases hl
            have hjr : j ≠ r := fun e => by rw [e, hron] at hl'; cases hl'
            have hne := hob.ne j hj r hros hjr
            exact (hb.block _ (Nat.lt_of_lt_of_le (hob.at j hj).1 hB) (fun h => by omega)).trans (inv.notyet j hj hl')
          · intro j hj
            unfold heldK
            by_cases hji : j = i
            · subst hji
              simp only [if_true]
              refine ⟨?_, hb.size, Nat.le_refl _, hG⟩
              unfold lowK
              simp only [if_true]
              exact inv.wrote.size
            · simp only [hji, if_false]
              have hlj := (hold j hji hj).1
              obtain ⟨h1, h2, h3, h4⟩ := inv.held j hlj
              refine ⟨?_, h2, Nat.le_trans h3 hb.size, hlast j hj.1 _ _ _ w w' hB h3 ⟨hb.size, fun y hy hlt => hb.block y hlt (fun hb3 => ?_)⟩ (hmv j hj.1 hlj.2.1 _ _ _ h4)⟩
              · unfold lowK at h1 ⊢
                simp only [hji, if_false]
                exact h1
              · rcases hy with hy | hy | hy
                · have := neAll_iffK.1 hy.2.2 r hros; omega
                · unfold lowK at h1; omega
                · have hjp : j ≠ p := fun e => (hold j hji hj).2 (by rw [e, hov]; simp [OvL.kills])
                  have hno : (j = r ∨ ∃ q, ovL ls j = .again r q) → False := fun hg => by
                    rcases hgr j hlj.1 hji hjp hg with h | ⟨s, hs, hsi, hsa, hsk⟩
                    · have := closGo_specK inv.closed (j + 1) [j] (fun s hs => by rw [List.mem_singleton.1 hs]; exact hlj.2.1) i h
                      rw [hoff] at this; cases this
                    · have h1 := hanc s hsa (Ne.symm hsi)
                      have h2 : listed.getD s false = false := hlj.2.2 s hs hsk; rw [h2] at h1; cases h1
                  rcases hy with hy | ⟨r2, p2, hr, hy⟩
                  · have := hob.ne r hros j (ok.olds j hlj.1 hy.1) (fun e => hno (.inl e.symm)); have := hy.2; omega
                  · have := hob.ne r hros r2 (ok.again j r2 p2 hlj.1 hr).1 (fun e => hno (.inr ⟨p2, e ▸ hr⟩)); omega
          · intro s t hs hst hl
            rw [hgs s] at hl
            by_cases hsi : s = i
            · subst hsi; rw [hov] at hst; cases hst
            · have hl' : listed.getD s false = true := by simpa [hsi] using hl
              have hti := hni t (htgt s t hs hst hl')
              obtain ⟨e1, e2, wo, hG'⟩ := inv.dead s t hs hst hl'
              simp only [hsi, hti, if_false]
              exact ⟨e1, e2, wo, hmv t (htlt s t hs hst) (htgt s t hs hst hl') _ _ _ hG'⟩
          · intro j k hjk hlj hlk
            by_cases hji : j = i
            · subst hji
              simp only [if_true, Ne.symm hjk, if_false]
              exact .inr (inv.held k (hold k (Ne.symm hjk) hlk).1).2.2.1
            · by_cases hki : k = i
              · subst hki
                simp only [if_true, hji, if_false]
                exact .inl (inv.held j (hold j hji hlj).1).2.2.1
              · simp only [hji, hki, if_false]
                exact inv.apart j k hjk (hold j hji hlj).1 (hold k hki hlk).1

/-- What an operation of this kind must show. -/
def effL (FJ : Nat → Prop) (J : World → Prop) (ob : Nat → Nat) (Gs : Nat → Sp) (V : Nat → Value) (L H : Nat → Nat) (w : World) (k : Nat) : OvL → Value → World → Prop
  | .none, v, w' => (WritesF FJ w w' ∧ J w') ∧ Gs k (upd V k v) w.heap.size w'.heap.size w'
  | .new t, v, w' => Touches (L t) (H t) w w' ∧ Gs k (upd V k v) (L t) (H t) w'
  | .old, v, w' => Touches (ob k) (ob k + 1) w w' ∧ Gs k (upd V k v) w.heap.size w'.heap.size w'
  | .again r _, v, w' => Touches (ob r) (ob r + 1) w w' ∧ Gs k (upd V k v) w.heap.size w'.heap.size w'

/-- The whole walk: operation by operation; then what stands behind the region. -/
def freeL (P : Program) (ops : Array Oper) (Q : Exit → Act → World → Prop) (w0 : World) (FJ : Nat → Prop) (J : World → Prop) (ob : Nat → Nat) (Gs : Nat → Sp) (live os : List Nat) (ls : List LineL) : Nat → ((Nat → Value) → Act) → List Oper → List LineL → Prop
  | _, A, [], [] => ∀ V L H w, WritesF (FAK FJ ob os) w0 w → J w → heldOfK w0.heap.size Gs V L H w live → (∀ i j, i ∈ live → j ∈ live → i ≠ j → H i ≤ L j ∨ H j ≤ L i) → (∀ s i, s < ls.length → ovL ls s = .new i → L s = L i ∧ H s = H i ∧ ∃ wo, Gs i V (L i) (H i) wo) → wpList P ops Q [] (A V) w
  | _, _, [], _ :: _ => False
  | _, _, _ :: _, [] => False
  | k, A, o :: l, (ds, ov, ms) :: dss => (∀ V L H w, WritesF (FAK FJ ob os) w0 w → Kept (fun y => y < w0.heap.size ∧ ¬ FJ y ∧ NeAllK ob y ms) w0 w → J w → heldOfK w0.heap.size Gs V L H w ds → wpList P ops (FreePost Q (A V) o.dst (effL FJ J ob Gs V L H w k ov)) [o] (A V) w) ∧
      freeL P ops Q w0 FJ J ob Gs live os ls (k + 1) (fun V => (A V).put o.dst (V k)) l dss

theorem freeL_spec {ops : Array Oper} {Q : Exit → Act → World → Prop} {w0 : World} {FJ : Nat → Prop} {J : World → Prop} {ob : Nat → Nat} {Gs : Nat → Sp} {live os : List Nat} {ls : List LineL} {a0 : Act} : ∀ (dss pd : List LineL) (l pre : List Oper) (A : (Nat → Value) → Act), pd.length = pre.length → (∀ V, A V = lexOf V 0 pre a0) → pd ++ dss = ls →
    freeL P ops Q w0 FJ J ob Gs live os ls pre.length A l dss →
    (∀ i o, l[i]? = some o → ∀ V L H w, WritesF (FAK FJ ob os) w0 w → Kept (fun y => y < w0.heap.size ∧ ¬ FJ y ∧ NeAllK ob y (lineL dss i).2.2) w0 w → J w → heldOfK w0.heap.size Gs V L H w (lineL dss i).1 →
      wpList P ops (FreePost Q (lexOf V 0 (pre ++ l.take i) a0) o.dst (ShowsL ls FJ J ob Gs V L H w (pre.length + i))) [o] (lexOf V 0 (pre ++ l.take i) a0) w) ∧
    (∀ V L H w, WritesF (FAK FJ ob os) w0 w → J w → heldOfK w0.heap.size Gs V L H w live → (∀ i j, i ∈ live → j ∈ live → i ≠ j → H i ≤ L j ∨ H j ≤ L i) → (∀ s i, s < ls.length → ovL ls s = .new i → L s = L i ∧ H s = H i ∧ ∃ wo, Gs i V (L i) (H i) wo) → wpList P ops Q [] (lexOf V 0 (pre ++ l) a0) w)
  | [], pd, [], pre, A, hp, hA, hls, h => by
    refine ⟨fun i o hi => absurd hi (by simp), fun V L H w hb hj hh hd hx => ?_⟩
    unfold freeL at h
    have := h V L H w hb hj hh hd hx
    rw [hA] at this
    simpa using this
  | [], _, _ :: _, pre, A, hp, hA, hls, h => by unfold freeL at h; exact h.elim
  | _ :: _, _, [], pre, A, hp, hA, hls, h => by unfold freeL at h; exact h.elim
  | (ds, ov, ms) :: dss, pd, o :: l, pre, A, hp, hA, hls, h => by
    have hov : ovL ls pre.length = ov := by
      unfold ovL lineL
      rw [← hls, ← hp, List.getD_eq_getElem?_getD, List.getElem?_append_right (Nat.le_refl _)]
      simp
    unfold freeL at h
    obtain ⟨h1, h2⟩ := h
    have ih := freeL_spec (a0 := a0) dss (pd ++ [(ds, ov, ms)]) l (pre ++ [o]) (fun V => (A V).put o.dst (V pre.length)) (by simp [hp]) (fun V => by rw [hA V, lexOf_snoc, Nat.zero_add]) (by simpa using hls) (by simpa using h2)
    refine ⟨fun i o' ho V L H w hb hk hj hh => ?_, fun V L H w hb hj hh hd hx => ?_⟩
    · cases i with
      | zero =>
        obtain rfl : o = o' := by simpa using ho
        have := h1 V L H w hb (by simpa [lineL] using hk) hj (by simpa [lineL] using hh)
        rw [hA] at this
        have he : ShowsL ls FJ J ob Gs V L H w (pre.length + 0) = effL FJ J ob Gs V L H w pre.length ov := by
          funext v w'
          unfold ShowsL
          rw [Nat.add_zero, hov]
          cases ov <;> rfl
        rw [he]
        simpa using this
      | succ i =>
        have := ih.1 i o' (by simpa using ho) V L H w hb (by simpa [lineL] using hk) hj (by simpa [lineL] using hh)
        simpa [Nat.add_assoc, Nat.add_comm 1 i] using this
    · have := ih.2 V L H w hb hj hh hd hx
      simpa using this

theorem wp_region_freeL {id : Nat} {Q : Exit → Act → World → Prop} {a : Act} {w : World} {l : List Oper} (ls : List LineL) (live os : List Nat) (FJ : Nat → Prop) (J : World → Prop) (ob : Nat → Nat) (Gs : Nat → Sp) (hm : P.follows .mixedOrders = true)
    (hB : freeLB l ls live os = true) (hob : ObLK w.heap.size FJ ob os) (hF : ∀ y, FJ y → y < w.heap.size) (hJ0 : J w)
    (hJ : ∀ w1 w2, w.heap.size ≤ w1.heap.size → J w1 → Kept (fun y => y < w.heap.size ∧ NeAllK ob y os) w1 w2 → J w2)
    (hloc : LocalL ls Gs) (hlast : ∀ i, i < l.length → LastsK w.heap.size FJ ob os (ownL ls ob i) (Gs i))
    (h : freeL P l.toArray Q w FJ J ob Gs live os ls 0 (fun _ => a) l ls) : (Code.region id l.toArray true).wp P Q a w := by
  have ok := freeOkL hB
  obtain ⟨h1, h2⟩ := freeL_spec (a0 := a) ls [] l [] (fun _ => a) rfl (fun _ => rfl) rfl h
  simp only [List.nil_append, List.length_nil, Nat.zero_add] at h1 h2
  refine wp_region_any hm ?_
  have hcount : (List.range l.length).countP (fun i => (Array.replicate l.toArray.size false).getD i true == false) = l.length := by
    rw [List.countP_eq_length.2, List.length_range]
    intro i hi
    have : i < l.length := List.mem_range.1 hi
    simp [this]
  have := wpAny_freeL (P := P) (Q := Q) (a0 := a) (w0 := w) (Gs := Gs) ok hob hF hJ hloc hlast (fun i o ho V L H w' hb hk hj hd => h1 i o ho V L H w' hb hk hj (heldOfK_of _ hd))
    (fun V L H w' hb hj hd hap hdead => by simpa [wpList] using h2 V L H w' hb hj (heldOfK_of _ hd) hap (fun s i hs => hdead s i (ok.len ▸ hs)))
    _ (Array.replicate l.toArray.size false) (fun _ => undef) (fun _ => 0) (fun _ => 0) a { w with drawn := w.drawn + 1 }
    ⟨by simp, fun j oj _ hl => (by rw [getD_replicate_false] at hl; cases hl),
      (actOf_off _ _ _ fun m _ => getD_replicate_false _ _).symm, ⟨rfl, rfl, rfl, Nat.le_refl _, fun _ _ _ => rfl⟩, hJ w _ (Nat.le_refl _) hJ0 ⟨Nat.le_refl _, fun _ _ _ => rfl⟩, fun i _ _ => rfl, fun i hl => absurd hl.2.1 (by simp only [getD_replicate_false]; decide), fun s i _ _ hl => (by rw [getD_replicate_false] at hl; cases hl), fun i j _ hl => absurd hl.2.1 (by simp only [getD_replicate_false]; decide)⟩ hcount
  simpa using this
end
end Go.Proofs.Ythgpompoionfoaa
