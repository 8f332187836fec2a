/-
  A region that draws its order, whose operations may write: blocks of FJ (under an invariant J that each keeps), and, a store each, one old block of its own. Walked once, each operation by itself.
-/
import Derived.Test.YtjlcbbaicengbaaDoorFree
import Derived.Test.YtjlcbbaicengbaaDoorMark
namespace Go.Proofs.YtjlcbbaicengbaaDoor
open Go.ChangeShapes Go.WideShapes Go.ChangeAt Go.RowKit Go.Deep

/-- What an operation writes: nothing of old but FJ; what operation t allocated; an old block of its own. -/
inductive OvK where
  | none
  | new (t : Nat)
  | old
def OvK.isOld : OvK → Bool
  | .old => true
  | _ => false
def OvK.isNew (t : Nat) : OvK → Bool
  | .new u => u == t
  | _ => false
theorem OvK.of_old {o : OvK} (h : o.isOld = true) : o = .old := by cases o <;> first | rfl | cases h
theorem OvK.of_new {o : OvK} {t : Nat} (h : o.isNew t = true) : o = .new t := by
  cases o with
  | new u => exact congrArg OvK.new (by simpa [OvK.isNew] using h)
  | _ => cases h
/-- The operations whose facts it wants; what it writes; the stores into old blocks that may have run before it. -/
abbrev LineK := List Nat × OvK × List Nat
def lineK (ls : List LineK) (i : Nat) : LineK := ls.getD i ([], .none, [])
def ovK (ls : List LineK) (i : Nat) : OvK := (lineK ls i).2.1

def backsK (l : List Oper) (k : Nat) : List Nat := match l[k]? with
  | none => []
  | some o => (o.after.toList.filter (Region.binds .any)).map (·.on)
def closGoK (l : List Oper) : Nat → List Nat → List Nat
  | 0, S => S
  | k + 1, S => closGoK l k (if S.contains k then backsK l k ++ S else S)
/-- What must have run when operation i has run. -/
def ancK (l : List Oper) (i : Nat) : List Nat := closGoK l (i + 1) [i]
theorem closGo_specK {l : List Oper} {listed : Array Bool} (hcl : ∀ j oj, l[j]? = some oj → listed.getD j false = true → ∀ e ∈ oj.after, Region.binds .any e = true → listed.getD e.on false = true) : ∀ k S, (∀ s ∈ S, listed.getD s false = true) → ∀ s ∈ closGoK l k S, listed.getD s false = true
  | 0, S, h, s, hs => h s hs
  | k + 1, S, h, s, hs => by
    refine closGo_specK hcl k _ (fun s hs => ?_) s hs
    split at hs
    · rename_i hc
      rcases List.mem_append.1 hs with h1 | h1
      · have hk := h k (by simpa using hc)
        unfold backsK at h1
        cases ho : l[k]? with
        | none => rw [ho] at h1; simp at h1
        | some o =>
          rw [ho] at h1
          simp only [List.mem_map, List.mem_filter, Array.mem_toList_iff] at h1
          obtain ⟨e, ⟨he, hb⟩, rfl⟩ := h1
          exact hcl k o ho hk e he hb
      · exact h s h1
    · exact h s hs

theorem actOf_offT {on : Nat → Bool} {V : Nat → Value} {t : Tmp} : ∀ (l : List Oper) (k : Nat) (a : Act), (∀ m o, l[m]? = some o → o.dst = some t → on (k + m) = false) → (actOf on V k l a).eval (.tmp t) = a.eval (.tmp t)
  | [], _, _, _ => rfl
  | o :: l, k, a, h => by
    simp only [actOf]
    rw [actOf_offT l (k + 1) _ fun m o2 hm hd => by have := h (m + 1) o2 (by simpa using hm) hd; rw [show k + 1 + m = k + (m + 1) by omega]; exact this]
    by_cases hk : on k = true
    · rw [if_pos hk, eval_put_ne fun hd => by have := h 0 o (by simp) hd; rw [Nat.add_zero, hk] at this; cases this]
    · rw [if_neg hk]
/-- What an operation sees of a slot: what has run ahead of it has written there; what writes there later has not run. -/
theorem agreeK {on : Nat → Bool} {V : Nat → Value} {t : Tmp} : ∀ (l : List Oper) (k i : Nat) (a a' : Act), a.tmps.size = a'.tmps.size → a.eval (.tmp t) = a'.eval (.tmp t) → (∀ m o, l[m]? = some o → o.dst = some t → (m < i ∧ on (k + m) = true) ∨ (i ≤ m ∧ on (k + m) = false)) →
    (actOf on V k l a).eval (.tmp t) = (lexOf V k (l.take i) a').eval (.tmp t)
  | [], k, i, a, a', _, he, _ => by simpa [actOf, lexOf] using he
  | o :: l, k, 0, a, a', hs, he, h => by
    simp only [List.take_zero, lexOf]
    rw [actOf_offT (o :: l) k a fun m o2 hm hd => by
      rcases h m o2 hm hd with h | h
      · exact absurd h.1 (by omega)
      · exact h.2]
    exact he
  | o :: l, k, i + 1, a, a', hs, he, h => by
    simp only [List.take_succ_cons, lexOf, actOf]
    have h' : ∀ m o2, l[m]? = some o2 → o2.dst = some t → (m < i ∧ on (k + 1 + m) = true) ∨ (i ≤ m ∧ on (k + 1 + m) = false) := fun m o2 hm hd => by
      have := h (m + 1) o2 (by simpa using hm) hd
      rw [show k + 1 + m = k + (m + 1) by omega]
      rcases this with h | h
      · exact .inl ⟨by omega, h.2⟩
      · exact .inr ⟨by omega, h.2⟩
    by_cases hd : o.dst = some t
    · have h0 : on k = true := by
        rcases h 0 o (by simp) hd with h | h
        · exact h.2
        · exact absurd h.1 (by omega)
      rw [if_pos h0]
      refine agreeK l (k + 1) i _ _ (by rw [put_size, put_size]; exact hs) ?_ h'
      rw [hd]
      exact put_eval_same a a' t (V k) hs
    · refine agreeK l (k + 1) i _ _ ?_ ?_ h'
      · rw [put_size]; split <;> simp [put_size, hs]
      · rw [eval_put_ne hd]; split
        · rw [eval_put_ne hd]; exact he
        · exact he

/-- The checks on a region. -/
def freeKB (l : List Oper) (ls : List LineK) (live os : List Nat) : Bool :=
  Region.noSelect l.toArray && ls.length == l.length &&
  ((List.range l.length).all fun i => match l[i]? with
    | none => true
    | some o => (o.after.all fun e => !Region.binds .any e || decide (e.on < i)) &&
      (List.range l.length).all fun j => i == j || match l[j]? with
        | none => true
        | some oj => match oj.dst with
          | none => true
          | some d => (!(o.looksAt l.toArray).contains d || Region.waitsFor .any l.toArray i j || Region.waitsFor .any l.toArray j i) && o.dst != some d) &&
  ((List.range l.length).all fun i => match l[i]? with
    | none => true
    | some o => match o.dst with
      | none => true
      | some d => !(o.looksAt l.toArray).contains d) &&
  ((List.range l.length).all fun i => match ovK ls i with
    | .new t => Region.waitsFor .any l.toArray i t && !(ovK ls t).isOld && (List.range l.length).all fun j => i == j || !(ovK ls j).isNew t
    | .old => os.contains i
    | .none => true) &&
  ((List.range l.length).all fun i => (lineK ls i).1.all fun j => ((ancK l i).contains j && i != j) && (List.range l.length).all fun s => s == i || !(ovK ls s).isNew j) &&
  ((List.range l.length).all fun i => os.all fun j => (lineK ls i).2.2.contains j || (ancK l j).contains i) &&
  (os.all fun i => decide (i < l.length) && (ovK ls i).isOld) &&
  live.all fun i => decide (i < l.length) && (List.range l.length).all fun s => !(ovK ls s).isNew i

structure FreeOkK (l : List Oper) (ls : List LineK) (live os : List Nat) : Prop where
  sel : Region.noSelect l.toArray = true
  len : ls.length = l.length
  back : ∀ (i : Nat) (o : Oper), l[i]? = some o → ∀ e ∈ o.after, Region.binds .any e = true → e.on < i
  looks : ∀ (i : Nat) (o : Oper) (j : Nat) (oj : Oper) d, l[i]? = some o → l[j]? = some oj → oj.dst = some d → d ∈ o.looksAt l.toArray → Region.waitsFor .any l.toArray i j = true ∨ Region.waitsFor .any l.toArray j i = true
  dst : ∀ (i : Nat) (o : Oper) (j : Nat) (oj : Oper) d, i ≠ j → l[i]? = some o → l[j]? = some oj → oj.dst = some d → o.dst ≠ some d
  over : ∀ i t, i < l.length → ovK ls i = .new t → Region.waitsFor .any l.toArray i t = true ∧ ovK ls t ≠ .old ∧ ∀ j, j < l.length → ovK ls j = .new t → j = i
  olds : ∀ i, i < l.length → ovK ls i = .old → i ∈ os
  deps : ∀ i j, i < l.length → j ∈ (lineK ls i).1 → (j ∈ ancK l i ∧ i ≠ j) ∧ ∀ s, s < l.length → ovK ls s = .new j → s = i
  ms : ∀ i j, i < l.length → j ∈ os → j ∈ (lineK ls i).2.2 ∨ i ∈ ancK l j
  oss : ∀ i, i ∈ os → i < l.length ∧ ovK ls i = .old
  lives : ∀ i, i ∈ live → i < l.length ∧ ∀ s, s < l.length → ovK ls s ≠ .new i

theorem freeOkK {l : List Oper} {ls : List LineK} {live os : List Nat} (h : freeKB l ls live os = true) : FreeOkK l ls live os := by
  simp only [freeKB, Bool.and_eq_true, decide_eq_true_eq, List.all_eq_true, List.mem_range, Bool.or_eq_true, beq_iff_eq] at h
  obtain ⟨⟨⟨⟨⟨⟨⟨⟨h1, h2⟩, h3⟩, h4⟩, h5⟩, h6⟩, h8⟩, h9⟩, h7⟩ := h
  have hnew : ∀ {o : OvK} {t : Nat}, (!o.isNew t) = true → o ≠ .new t := fun hn e => by subst e; simp [OvK.isNew] at hn
  have hold : ∀ {o : OvK}, (!o.isOld) = true → o ≠ .old := fun hn e => by subst e; simp [OvK.isOld] at hn
  refine ⟨h1, h2, fun i o ho e he hb => ?_, fun i o j oj d ho hoj hd hl => ?_, fun i o j oj d hij ho hoj hd => ?_, fun i t hi ht => ?_, fun i hi ht => ?_, fun i j hi hj => ?_, fun i j hi hj => ?_, fun i hi => ?_, fun i hi => ?_⟩
  · have := h3 i (lt_of_get ho)
    simp only [ho, Bool.and_eq_true] at this
    have h7 := Array.all_eq_true_iff_forall_mem.1 this.1 e he
    simpa [hb] using h7
  · by_cases hij : i = j
    · subst hij
      have := h4 i (lt_of_get ho)
      obtain rfl : o = oj := Option.some.inj (ho.symm.trans hoj)
      simp [ho, hd, hl] at this
    · have := h3 i (lt_of_get ho)
      simp only [ho, Bool.and_eq_true, List.all_eq_true, List.mem_range] at this
      have h7 := this.2 j (lt_of_get hoj)
      simp [hij, hoj, hd, hl] at h7
      exact h7.1
  · have := h3 i (lt_of_get ho)
    simp only [ho, Bool.and_eq_true, List.all_eq_true, List.mem_range] at this
    have h7 := this.2 j (lt_of_get hoj)
    simp [hij, hoj, hd] at h7
    exact h7.2
  · have := h5 i hi
    rw [ht] at this
    simp only [Bool.and_eq_true, List.all_eq_true, List.mem_range, Bool.or_eq_true, beq_iff_eq] at this
    exact ⟨this.1.1, hold this.1.2, fun j hj hjt => by
      rcases this.2 j hj with h | h
      · exact h.symm
      · exact absurd hjt (hnew h)⟩
  · have := h5 i hi
    rw [ht] at this
    simpa using this
  · have := h6 i hi j hj
    exact ⟨⟨by simpa using this.1.1, by simpa using this.1.2⟩, fun s hs hsj => by
      rcases this.2 s hs with h | h
      · exact h
      · exact absurd hsj (hnew h)⟩
  · have := h8 i hi j hj
    simpa using this
  · have := h9 i hi
    exact ⟨this.1, OvK.of_old this.2⟩
  · have := h7 i hi
    exact ⟨this.1, fun s hs => hnew (this.2 s hs)⟩

/-- Block y is none of the listed stores'. -/
def NeAllK (ob : Nat → Nat) (y : Nat) : List Nat → Prop
  | [] => True
  | j :: r => y ≠ ob j ∧ NeAllK ob y r
theorem neAll_iffK {ob : Nat → Nat} {y : Nat} : ∀ {os : List Nat}, NeAllK ob y os ↔ ∀ j ∈ os, y ≠ ob j
  | [] => by simp [NeAllK]
  | j :: r => by simp [NeAllK, neAll_iffK (os := r)]
/-- The stores' blocks are old, none of FJ, and apart. -/
def ObLK (B : Nat) (FJ : Nat → Prop) (ob : Nat → Nat) : List Nat → Prop
  | [] => True
  | i :: r => (ob i < B ∧ ¬ FJ (ob i)) ∧ NeAllK ob (ob i) r ∧ ObLK B FJ ob r
theorem ObLK.at {B : Nat} {FJ : Nat → Prop} {ob : Nat → Nat} : ∀ {os : List Nat}, ObLK B FJ ob os → ∀ i ∈ os, ob i < B ∧ ¬ FJ (ob i)
  | [], _, i, hi => by simp at hi
  | j :: r, h, i, hi => by
    rcases List.mem_cons.1 hi with rfl | hi'
    · exact h.1
    · exact h.2.2.at i hi'
theorem ObLK.ne {B : Nat} {FJ : Nat → Prop} {ob : Nat → Nat} : ∀ {os : List Nat}, ObLK B FJ ob os → ∀ i ∈ os, ∀ j ∈ os, i ≠ j → ob i ≠ ob j
  | [], _, i, hi => by simp at hi
  | k :: r, h, i, hi => fun j hj hij => by
    rcases List.mem_cons.1 hi with rfl | hi'
    · rcases List.mem_cons.1 hj with rfl | hj'
      · exact absurd rfl hij
      · exact neAll_iffK.1 h.2.1 j hj'
    · rcases List.mem_cons.1 hj with rfl | hj'
      · exact fun e => neAll_iffK.1 h.2.1 i hi' e.symm
      · exact h.2.2.ne i hi' j hj' hij

theorem WritesF.touchedK {F : Nat → Prop} {w0 w w' : World} {L H : Nat} (h : WritesF F w0 w) (hb : Touches L H w w') (hL : ∀ b, b < w0.heap.size → ¬ F b → ¬ (L ≤ b ∧ b < H)) : WritesF F w0 w' :=
  ⟨hb.os.trans h.os, hb.tape.trans h.tape, hb.output.trans h.output, Nat.le_trans h.size hb.size, fun b h1 hn => (hb.block b (Nat.lt_of_lt_of_le h1 h.size) (hL b h1 hn)).trans (h.block b h1 hn)⟩

/-- What may be written of old. -/
def FAK (FJ : Nat → Prop) (ob : Nat → Nat) (os : List Nat) (y : Nat) : Prop := FJ y ∨ ¬ NeAllK ob y os
/-- It lasts while no block below B is written but those of FJ and the stores', and none from L to H. -/
def LastsK (B : Nat) (FJ : Nat → Prop) (ob : Nat → Nat) (os : List Nat) (own : Nat → Prop) (G : Sp) : Prop := ∀ V L H w w', B ≤ w.heap.size → H ≤ w.heap.size → Kept (fun y => (y < B ∧ ¬ FJ y ∧ NeAllK ob y os) ∨ (L ≤ y ∧ y < H) ∨ own y) w w' → G V L H w → G V L H w'
def ownK (ls : List LineK) (ob : Nat → Nat) (i y : Nat) : Prop := ovK ls i = .old ∧ y = ob i
def lowK (B : Nat) (L : Nat → Nat) (i : Nat) : Prop := B ≤ L i
def heldK (B : Nat) (Gs : Nat → Sp) (V : Nat → Value) (L H : Nat → Nat) (w : World) (j : Nat) : Prop := lowK B L j ∧ L j ≤ H j ∧ H j ≤ w.heap.size ∧ Gs j V (L j) (H j) w
def LiveK (l : List Oper) (ls : List LineK) (on : Nat → Bool) (i : Nat) : Prop := i < l.length ∧ on i = true ∧ ∀ s, s < l.length → ovK ls s = .new i → on s = false
def LocalK (ls : List LineK) (Gs : Nat → Sp) : Prop := ∀ k V V' L H w, V k = V' k → (∀ j, j ∈ (lineK ls k).1 → V j = V' j) → Gs k V L H w → Gs k V' L H w
/-- What operation i must show. -/
def ShowsK (ls : List LineK) (FJ : Nat → Prop) (J : World → Prop) (ob : Nat → Nat) (Gs : Nat → Sp) (V : Nat → Value) (L H : Nat → Nat) (w : World) (i : Nat) (v : Value) (w' : World) : Prop :=
  match ovK ls i with
  | .none => (WritesF FJ w w' ∧ J w') ∧ Gs i (upd V i v) w.heap.size w'.heap.size w'
  | .new t => Touches (L t) (H t) w w' ∧ Gs i (upd V i v) (L t) (H t) w'
  | .old => Touches (ob i) (ob i + 1) w w' ∧ Gs i (upd V i v) w.heap.size w'.heap.size w'

structure FreeInvK (l : List Oper) (ls : List LineK) (os : List Nat) (a0 : Act) (w0 : World) (FJ : Nat → Prop) (J : World → Prop) (ob : Nat → Nat) (Gs : Nat → Sp) (listed : Array Bool) (V : Nat → Value) (L H : Nat → Nat) (a : Act) (w : World) : Prop where
  size : listed.size = l.length
  closed : ∀ j oj, l[j]? = some oj → listed.getD j false = true → ∀ e ∈ oj.after, Region.binds .any e = true → listed.getD e.on false = true
  act : a = actOf (fun k => listed.getD k false) V 0 l a0
  wrote : WritesF (FAK FJ ob os) w0 w
  inv : J w
  notyet : ∀ i, i ∈ os → listed.getD i false = false → w.heap[ob i]? = w0.heap[ob i]?
  held : ∀ i, LiveK l ls (fun k => listed.getD k false) i → heldK w0.heap.size Gs V L H w i
  dead : ∀ s i, s < l.length → ovK ls s = .new i → listed.getD s false = true → L s = L i ∧ H s = H i ∧ ∃ wo, Gs i V (L i) (H i) wo
  apart : ∀ i j, i ≠ j → LiveK l ls (fun k => listed.getD k false) i → LiveK l ls (fun k => listed.getD k false) j → H i ≤ L j ∨ H j ≤ L i

theorem ready_someK {l : List Oper} {ls : List LineK} {live os : List Nat} (ok : FreeOkK l ls live os) {listed : Array Bool} (hsz : listed.size = l.length) : ∀ i, i < l.length → listed.getD i true = false → ∃ j, j ∈ Region.ready .any l.toArray listed := by
  intro i
  induction i using Nat.strongRecOn with
  | _ i ih =>
    intro hil hu
    by_cases hr : i ∈ Region.ready .any l.toArray listed
    · exact ⟨i, hr⟩
    · have h1 : ¬ (listed.getD i true = false ∧ ∃ o, l.toArray[i]? = some o ∧ ∀ e ∈ o.after, Region.binds .any e = true → listed.getD e.on false = true) := fun h => hr (mem_ready.2 h)
      have h2 : ∃ e ∈ (l[i]'hil).after, Region.binds .any e = true ∧ ¬ listed.getD e.on false = true := by
        by_cases h3 : ∃ e ∈ (l[i]'hil).after, Region.binds .any e = true ∧ ¬ listed.getD e.on false = true
        · exact h3
        · exact absurd ⟨hu, l[i]'hil, by simp [hil], fun e he hb => by
            by_cases h4 : listed.getD e.on false = true
            · exact h4
            · exact absurd ⟨e, he, hb, h4⟩ h3⟩ h1
      obtain ⟨e, he, hb, hn⟩ := h2
      have hlt := ok.back i _ (by simp [hil]) e he hb
      exact ih e.on hlt (by omega) (getD_in (by omega) (by simpa using hn))

section
variable {P : Program}

theorem wpAny_freeK {l : List Oper} {ls : List LineK} {live os : List Nat} {a0 : Act} {w0 : World} {FJ : Nat → Prop} {J : World → Prop} {ob : Nat → Nat} {Gs : Nat → Sp} {Q : Exit → Act → World → Prop} (ok : FreeOkK l ls live os)
    (hob : ObLK w0.heap.size FJ ob os) (hF : ∀ y, FJ y → y < w0.heap.size)
    (hJ : ∀ w1 w2, w0.heap.size ≤ w1.heap.size → J w1 → Kept (fun y => y < w0.heap.size ∧ NeAllK ob y os) w1 w2 → J w2)
    (hloc : LocalK ls Gs) (hlast : ∀ i, i < l.length → LastsK w0.heap.size FJ ob os (ownK ls ob i) (Gs i))
    (hrun : ∀ i o, l[i]? = some o → ∀ V L H w, WritesF (FAK FJ ob os) w0 w → Kept (fun y => y < w0.heap.size ∧ ¬ FJ y ∧ NeAllK ob y (lineK ls i).2.2) w0 w → J w → (∀ j, j ∈ (lineK ls i).1 → heldK w0.heap.size Gs V L H w j) →
      wpList P l.toArray (FreePost Q (lexOf V 0 (l.take i) a0) o.dst (ShowsK ls FJ J ob Gs V L H w i)) [o] (lexOf V 0 (l.take i) a0) w)
    (hend : ∀ V L H w, WritesF (FAK FJ ob os) w0 w → J w → (∀ j, j ∈ live → heldK w0.heap.size Gs V L H w j) → (∀ i j, i ∈ live → j ∈ live → i ≠ j → H i ≤ L j ∨ H j ≤ L i) →
      (∀ s i, s < l.length → ovK ls s = .new i → L s = L i ∧ H s = H i ∧ ∃ wo, Gs i V (L i) (H i) wo) → Q .normal (lexOf V 0 l a0) w) :
    ∀ (f : Nat) (listed : Array Bool) (V : Nat → Value) (L H : Nat → Nat) (a : Act) (w : World), FreeInvK l ls os a0 w0 FJ J ob Gs listed V L H a w →
      (List.range l.length).countP (fun i => listed.getD i true == false) = f → wpAny P .any l.toArray Q f listed a w
  | 0, listed, V, L, H, a, w, inv, hf => by
    have hall : ∀ i, i < l.length → listed.getD i true = true := fun i hi => by
      have h1 := List.countP_eq_zero.1 hf i (List.mem_range.2 hi)
      simpa using h1
    have hallf : ∀ i, i < l.length → listed.getD i false = true := fun i hi => by
      have h1 := hall i hi
      have h2 : i < listed.size := by have := inv.size; omega
      simp [h2] at h1 ⊢; exact h1
    have hlv : ∀ i, i ∈ live → LiveK l ls (fun k => listed.getD k false) i := fun i hi => ⟨(ok.lives i hi).1, hallf i (ok.lives i hi).1, fun s hs h => absurd h ((ok.lives i hi).2 s hs)⟩
    have hact : a = lexOf V 0 l a0 := by
      rw [inv.act]
      exact actOf_all _ _ _ fun m hm => by rw [Nat.zero_add]; exact hallf m hm
    refine ⟨?_, ?_⟩
    · cases hr : Region.ready .any l.toArray listed with
      | nil => rfl
      | cons i r =>
        have hi : i ∈ Region.ready .any l.toArray listed := by rw [hr]; exact List.mem_cons_self
        obtain ⟨hun, o, ho, _⟩ := mem_ready.1 hi
        have hil : i < l.length := lt_of_get (by simpa using ho)
        rw [hall i hil] at hun
        cases hun
    · rw [hact]
      exact hend V L H w inv.wrote inv.inv (fun j hj => inv.held j (hlv j hj)) (fun i j hi hj hij => inv.apart i j hij (hlv i hi) (hlv j hj)) (fun s i hs hsi => inv.dead s i hs hsi (hallf s hs))
  | f + 1, listed, V, L, H, a, w, inv, hf => by
    have hsz := inv.size
    have hex : ∃ i, i < l.length ∧ listed.getD i true = false := by
      have h1 : 0 < (List.range l.length).countP (fun i => listed.getD i true == false) := by omega
      obtain ⟨i, hi, h2⟩ := List.countP_pos_iff.1 h1
      exact ⟨i, List.mem_range.1 hi, by simpa using h2⟩
    obtain ⟨i0, hi0, hu0⟩ := hex
    refine ⟨fun h0 => ?_, fun i hi => ?_⟩
    · obtain ⟨j, hj⟩ := ready_someK ok hsz i0 hi0 hu0
      rw [h0] at hj; cases hj
    · obtain ⟨hun, o, ho, hall⟩ := mem_ready.1 hi
      have ho' : l[i]? = some o := by simpa using ho
      have hil := lt_of_get ho'
      have hoff : listed.getD i false = false := getD_both hun
      have hwaits : ∀ j, Region.waitsFor .any l.toArray i j = true → j < i ∧ listed.getD j false = true := fun j hj => by
        obtain ⟨oj, hoj, e, he, hb, hon⟩ := Region.waitsFor_spec hj
        obtain rfl : oj = o := Option.some.inj (hoj.symm.trans ho)
        exact ⟨hon ▸ ok.back i oj ho' e he hb, hon ▸ hall e he hb⟩
      have hlive : ∀ j, Region.waitsFor .any l.toArray i j = true → (∀ s, s < l.length → ovK ls s = .new j → s = i) → LiveK l ls (fun k => listed.getD k false) j := fun j hj hs =>
        ⟨by have := (hwaits j hj).1; omega, (hwaits j hj).2, fun s hsl hsj => by rw [hs s hsl hsj]; exact hoff⟩
      have hclosed : ∀ j oj, l[j]? = some oj → (listed.setIfInBounds i true).getD j false = true → ∀ e ∈ oj.after, Region.binds .any e = true → (listed.setIfInBounds i true).getD e.on false = true := fun j oj hoj hl e he hb => by
        by_cases hij : i = j
        · subst hij
          obtain rfl : oj = o := Option.some.inj (hoj.symm.trans ho')
          exact getD_set_true (hall e he hb)
        · rw [getD_set_ne false hij] at hl
          exact getD_set_true (inv.closed j oj hoj hl e he hb)
      have hanc : ∀ j, j ∈ ancK l i → i ≠ j → listed.getD j false = true := fun j hj hij => by
        have h1 := closGo_specK hclosed (i + 1) [i] (fun s hs => by rw [List.mem_singleton.1 hs]; simp [show i < listed.size by omega]) j hj
        rwa [getD_set_ne false hij] at h1
      have hlive2 : ∀ j, j ∈ ancK l i → i ≠ j → (∀ s, s < l.length → ovK ls s = .new j → s = i) → LiveK l ls (fun k => listed.getD k false) j := fun j hj hij hs =>
        ⟨by have h1 := hanc j hj hij; rcases Nat.lt_or_ge j listed.size with h2 | h2; (· omega); (· simp [h2] at h1), hanc j hj hij, fun s hsl hsj => by rw [hs s hsl hsj]; exact hoff⟩
      -- a store that must come behind i has not run
      have hlater : ∀ j, j ∈ os → i ∈ ancK l j → listed.getD j false = false := fun j hj ha => by
        cases hl : listed.getD j false with
        | false => rfl
        | true =>
          have := closGo_specK inv.closed (j + 1) [j] (fun s hs => by rw [List.mem_singleton.1 hs]; exact hl) i ha
          rw [hoff] at this; cases this
      have hkept : Kept (fun y => y < w0.heap.size ∧ ¬ FJ y ∧ NeAllK ob y (lineK ls i).2.2) w0 w := ⟨inv.wrote.size, fun y hy hlt => by
        obtain ⟨_, h2, h3⟩ := hy
        by_cases hya : NeAllK ob y os
        · exact inv.wrote.block y hlt (fun h => h.elim h2 (fun h => h hya))
        · obtain ⟨j, hj, hyj⟩ : ∃ j, j ∈ os ∧ y = ob j := by
            by_cases h : ∃ j, j ∈ os ∧ y = ob j
            · exact h
            · exact absurd (neAll_iffK.2 fun j hj e => h ⟨j, hj, e⟩) hya
          subst hyj
          rcases ok.ms i j hil hj with h | h
          · exact absurd rfl (neAll_iffK.1 h3 j h)
          · exact inv.notyet j hj (hlater j hj h)⟩
      have hR := hrun i o ho' V L H w inv.wrote hkept inv.inv (fun j hj => inv.held j (hlive2 j (ok.deps i j hil hj).1.1 (ok.deps i j hil hj).1.2 (ok.deps i j hil hj).2))
      have hagree : ∀ t, t ∈ o.looksAt l.toArray → a.eval (.tmp t) = (lexOf V 0 (l.take i) a0).eval (.tmp t) := fun t ht => by
        rw [inv.act]
        refine agreeK l 0 i a0 a0 rfl rfl fun m o2 hm hd => ?_
        rw [Nat.zero_add]
        rcases ok.looks i o m o2 t ho' hm hd ht with hw | hw
        · exact .inl (hwaits m hw)
        · obtain ⟨o3, ho3, e, he, hb, hon⟩ := Region.waitsFor_spec hw
          have ho3' : l[m]? = some o3 := by simpa using ho3
          have hlt := ok.back m o3 ho3' e he hb
          refine .inr ⟨by omega, ?_⟩
          cases hl : listed.getD m false with
          | false => rfl
          | true =>
            have := inv.closed m o3 ho3' hl e he hb
            rw [hon, hoff] at this
            cases this
      unfold wpOp
      simp only [ho]
      refine wp_of_free (wanted_same (by rw [inv.act, actOf_size, lexOf_size]) fun t ht => hagree t ht) (Region.noSelect_spec ok.sel i o · · ho) (fun x hx => ?_) (by rw [inv.act, actOf_size, lexOf_size]) (fun v w' hS => ?_) hR
      · cases x with
        | tmp t => exact hagree t (List.mem_append_left _ (List.mem_filterMap.2 ⟨.tmp t, by simpa using hx, rfl⟩))
        | _ => rfl
      · have hgs : ∀ j, (listed.setIfInBounds i true).getD j false = (j == 0 + i || listed.getD j false) := fun j => by
          by_cases hji : j = i
          · subst hji; simp [show j < listed.size by omega]
          · rw [getD_set_ne false (Ne.symm hji)]; simp [hji]
        have hact : actOf (fun k => (listed.setIfInBounds i true).getD k false) (upd V i v) 0 l a0 = a.put o.dst v := by
          have hact := actOf_set (on := fun k => listed.getD k false) (V := V) (v := v) l 0 i a0 o ho' (fun m' o2 hm hne d hd hd2 => ok.dst m' o2 i o d hne hm ho' hd hd2)
          rcases hact with hact | hact
          · rw [inv.act, ← hact]
            congr 1
            · funext j; exact hgs j
            · funext j; simp [upd]
          · rw [Nat.zero_add] at hact; rw [hact] at hoff; cases hoff
        have hcnt : (List.range l.length).countP (fun j => (listed.setIfInBounds i true).getD j true == false) = f := by
          have h1 := countP_flip (p := fun j => listed.getD j true == false) (q := fun j => (listed.setIfInBounds i true).getD j true == false) (i := i) (List.range l.length) List.nodup_range (List.mem_range.2 hil) (by simpa using hun) (by simp [show i < listed.size by omega]) (fun j hj => by simp only [getD_set_ne true (Ne.symm hj)])
          omega
        have hold : ∀ j, j ≠ i → LiveK l ls (fun k => (listed.setIfInBounds i true).getD k false) j → LiveK l ls (fun k => listed.getD k false) j ∧ ovK ls i ≠ .new j := fun j hji ⟨h1, h2, h3⟩ =>
          ⟨⟨h1, by have := h2; simp only [hgs j, Nat.zero_add] at this; simpa [hji] using this, fun s hs hsj => by
              have h4 := h3 s hs hsj
              simp only [hgs s, Bool.or_eq_false_iff] at h4
              exact h4.2⟩, fun h => by have h4 := h3 i hil h; simp [hgs i] at h4⟩
        have htgt : ∀ s t, s < l.length → ovK ls s = .new t → listed.getD s false = true → listed.getD t false = true := fun s t hs hst hl => by
          obtain ⟨os, hos, e, he, hb, hon⟩ := Region.waitsFor_spec (ok.over s t hs hst).1
          exact hon ▸ inv.closed s os (by simpa using hos) hl e he hb
        have hni : ∀ t, listed.getD t false = true → t ≠ i := fun t ht e => by rw [e, hoff] at ht; cases ht
        have hmv : ∀ k, k < l.length → listed.getD k false = true → ∀ L H w, Gs k V L H w → Gs k (upd V i v) L H w := fun k hk hon L H w hG =>
          hloc k V (upd V i v) L H w (upd_ne (hni k hon)).symm (fun j hj => (upd_ne (hni j (by
            exact closGo_specK inv.closed (k + 1) [k] (fun s hs => by rw [List.mem_singleton.1 hs]; exact hon) j (ok.deps k j hk hj).1.1))).symm) hG
        have htlt : ∀ s t, s < l.length → ovK ls s = .new t → t < l.length := fun s t hs hst => by
          obtain ⟨os, hos, e, he, hb, hon⟩ := Region.waitsFor_spec (ok.over s t hs hst).1
          have h5 := ok.back s os (by simpa using hos) e he hb
          omega
        -- a live one's blocks are none of FJ
        have hfj : ∀ j, LiveK l ls (fun k => listed.getD k false) j → ∀ y, L j ≤ y → y < H j → ¬ FJ y := fun j hlj y h1 h2 hy => by
          obtain ⟨g1, _⟩ := inv.held j hlj
          unfold lowK at g1
          have := hF y hy
          omega
        have hB : w0.heap.size ≤ w.heap.size := inv.wrote.size
        cases hov : ovK ls i with
        | none =>
          unfold ShowsK at hS
          rw [hov] at hS
          obtain ⟨⟨hb, hj'⟩, hG⟩ := hS
          have hios : i ∉ os := fun h => by have := (ok.oss i h).2; rw [hov] at this; cases this
          refine wpAny_freeK ok hob hF hJ hloc hlast hrun hend f (listed.setIfInBounds i true) (upd V i v) (fun j => if j = i then w.heap.size else L j) (fun j => if j = i then w'.heap.size else H j) _ w' ⟨by simpa using hsz, hclosed, hact.symm, inv.wrote.trans (hb.sub fun _ h => .inl h), hj', ?_, ?_, ?_, ?_⟩ hcnt
          · intro j hj hl
            rw [hgs j] at hl
            have hl' : listed.getD j false = false := by
              cases h : listed.getD j false with
              | false => rfl
              | true => rw [h, Bool.or_true] at hl; cases hl
            exact (hb.block _ (Nat.lt_of_lt_of_le (hob.at j hj).1 hB) (hob.at j hj).2).trans (inv.notyet j hj hl')
          · intro j hj
            unfold heldK
            by_cases hji : j = i
            · subst hji
              simp only [if_true]
              refine ⟨?_, hb.size, Nat.le_refl _, hG⟩
              unfold lowK
              simp only [if_true]
              exact inv.wrote.size
            · simp only [hji, if_false]
              have hlj := (hold j hji hj).1
              obtain ⟨h1, h2, h3, h4⟩ := inv.held j hlj
              refine ⟨?_, h2, Nat.le_trans h3 hb.size, hlast j hj.1 _ _ _ w w' hB h3 ⟨hb.size, fun y hy hlt => hb.block y hlt ?_⟩ (hmv j hj.1 hlj.2.1 _ _ _ h4)⟩
              · unfold lowK at h1 ⊢
                simp only [hji, if_false]
                exact h1
              · rcases hy with hy | hy | hy
                · exact hy.2.1
                · exact hfj j hlj y hy.1 hy.2
                · rw [hy.2]; exact (hob.at j (ok.olds j hlj.1 hy.1)).2
          · intro s t hs hst hl
            rw [hgs s] at hl
            by_cases hsi : s = i
            · subst hsi; rw [hov] at hst; cases hst
            · have hl' : listed.getD s false = true := by simpa [hsi] using hl
              have hti := hni t (htgt s t hs hst hl')
              obtain ⟨e1, e2, wo, hG'⟩ := inv.dead s t hs hst hl'
              simp only [hsi, hti, if_false]
              exact ⟨e1, e2, wo, hmv t (htlt s t hs hst) (htgt s t hs hst hl') _ _ _ hG'⟩
          · intro j k hjk hlj hlk
            by_cases hji : j = i
            · subst hji
              simp only [if_true, Ne.symm hjk, if_false]
              exact .inr (inv.held k (hold k (Ne.symm hjk) hlk).1).2.2.1
            · by_cases hki : k = i
              · subst hki
                simp only [if_true, hji, if_false]
                exact .inl (inv.held j (hold j hji hlj).1).2.2.1
              · simp only [hji, hki, if_false]
                exact inv.apart j k hjk (hold j hji hlj).1 (hold k hki hlk).1
        | new t =>
          unfold ShowsK at hS
          rw [hov] at hS
          obtain ⟨hb, hG⟩ := hS
          obtain ⟨hwt, hto, huni⟩ := ok.over i t hil hov
          have hlt : LiveK l ls (fun k => listed.getD k false) t := hlive t hwt (fun s hs h => huni s hs h)
          obtain ⟨t1, t2, t3, t4⟩ := inv.held t hlt
          have t1' : w0.heap.size ≤ L t := t1
          have hne : ∀ j, j ≠ i → LiveK l ls (fun k => (listed.setIfInBounds i true).getD k false) j → j ≠ t := fun j hji hj e => (hold j hji hj).2 (e ▸ hov)
          have hios : i ∉ os := fun h => by have := (ok.oss i h).2; rw [hov] at this; cases this
          refine wpAny_freeK ok hob hF hJ hloc hlast hrun hend f (listed.setIfInBounds i true) (upd V i v) (fun j => if j = i then L t else L j) (fun j => if j = i then H t else H j) _ w' ⟨by simpa using hsz, hclosed, hact.symm, inv.wrote.touchedK hb (fun b h1 _ h2 => by omega), hJ w w' hB inv.inv ⟨hb.size, fun y hy hlt => hb.block y hlt (fun h => by have := hy.1; omega)⟩, ?_, ?_, ?_, ?_⟩ hcnt
          · intro j hj hl
            rw [hgs j] at hl
            have hl' : listed.getD j false = false := by
              cases h : listed.getD j false with
              | false => rfl
              | true => rw [h, Bool.or_true] at hl; cases hl
            have hoj := (hob.at j hj).1
            exact (hb.block _ (Nat.lt_of_lt_of_le hoj hB) (fun h => by omega)).trans (inv.notyet j hj hl')
          · intro j hj
            unfold heldK
            by_cases hji : j = i
            · subst hji
              simp only [if_true]
              refine ⟨?_, t2, Nat.le_trans t3 hb.size, hG⟩
              unfold lowK
              simp only [if_true]
              exact t1'
            · simp only [hji, if_false]
              have hlj := (hold j hji hj).1
              obtain ⟨h1, h2, h3, h4⟩ := inv.held j hlj
              have hap := inv.apart j t (hne j hji hj) hlj hlt
              refine ⟨?_, h2, Nat.le_trans h3 hb.size, hlast j hj.1 _ _ _ w w' hB h3 ⟨hb.size, fun y hy hlt => hb.block y hlt (fun hb3 => ?_)⟩ (hmv j hj.1 hlj.2.1 _ _ _ h4)⟩
              · unfold lowK at h1 ⊢
                simp only [hji, if_false]
                exact h1
              · rcases hy with hy | hy | hy
                · have := hy.1; omega
                · rcases hap with h | h <;> omega
                · have := (hob.at j (ok.olds j hlj.1 hy.1)).1; have := hy.2; omega
          · intro s u hs hst hl
            rw [hgs s] at hl
            by_cases hsi : s = i
            · subst hsi
              obtain rfl : t = u := by rw [hov] at hst; exact OvK.new.inj hst
              have hti := hni t hlt.2.1
              simp only [hti, if_true, if_false]
              exact ⟨trivial, trivial, w, hmv t hlt.1 hlt.2.1 _ _ _ t4⟩
            · have hl' : listed.getD s false = true := by simpa [hsi] using hl
              have hti := hni u (htgt s u hs hst hl')
              obtain ⟨e1, e2, wo, hG'⟩ := inv.dead s u hs hst hl'
              simp only [hsi, hti, if_false]
              exact ⟨e1, e2, wo, hmv u (htlt s u hs hst) (htgt s u hs hst hl') _ _ _ hG'⟩
          · intro j k hjk hlj hlk
            by_cases hji : j = i
            · subst hji
              simp only [if_true, Ne.symm hjk, if_false]
              exact (inv.apart t k (Ne.symm (hne k (Ne.symm hjk) hlk)) hlt (hold k (Ne.symm hjk) hlk).1)
            · by_cases hki : k = i
              · subst hki
                simp only [if_true, hji, if_false]
                exact (inv.apart j t (hne j hji hlj) (hold j hji hlj).1 hlt)
              · simp only [hji, hki, if_false]
                exact inv.apart j k hjk (hold j hji hlj).1 (hold k hki hlk).1
        | old =>
          unfold ShowsK at hS
          rw [hov] at hS
          obtain ⟨hb, hG⟩ := hS
          have hios := ok.olds i hil hov
          obtain ⟨ho1, ho2⟩ := hob.at i hios
          refine wpAny_freeK ok hob hF hJ hloc hlast hrun hend f (listed.setIfInBounds i true) (upd V i v) (fun j => if j = i then w.heap.size else L j) (fun j => if j = i then w'.heap.size else H j) _ w' ⟨by simpa using hsz, hclosed, hact.symm, inv.wrote.touchedK hb (fun b h1 hn h2 => hn (.inr (fun hne => neAll_iffK.1 hne i hios (by omega)))), hJ w w' hB inv.inv ⟨hb.size, fun y hy hlt => hb.block y hlt (fun h => by have := neAll_iffK.1 hy.2 i hios; omega)⟩, ?_, ?_, ?_, ?_⟩ hcnt
          · intro j hj hl
            rw [hgs j] at hl
            have hji : j ≠ i := fun e => by subst e; simp at hl
            have hl' : listed.getD j false = false := by
              cases h : listed.getD j false with
              | false => rfl
              | true => rw [h, Bool.or_true] at hl; cases hl
            have hne := hob.ne j hj i hios hji
            exact (hb.block _ (Nat.lt_of_lt_of_le (hob.at j hj).1 hB) (fun h => by omega)).trans (inv.notyet j hj hl')
          · intro j hj
            unfold heldK
            by_cases hji : j = i
            · subst hji
              simp only [if_true]
              refine ⟨?_, hb.size, Nat.le_refl _, hG⟩
              unfold lowK
              simp only [if_true]
              exact inv.wrote.size
            · simp only [hji, if_false]
              have hlj := (hold j hji hj).1
              obtain ⟨h1, h2, h3, h4⟩ := inv.held j hlj
              refine ⟨?_, h2, Nat.le_trans h3 hb.size, hlast j hj.1 _ _ _ w w' hB h3 ⟨hb.size, fun y hy hlt => hb.block y hlt (fun hb3 => ?_)⟩ (hmv j hj.1 hlj.2.1 _ _ _ h4)⟩
              · unfold lowK at h1 ⊢
                simp only [hji, if_false]
                exact h1
              · rcases hy with hy | hy | hy
                · have := neAll_iffK.1 hy.2.2 i hios; omega
                · unfold lowK at h1; omega
                · have := hob.ne i hios j (ok.olds j hlj.1 hy.1) (Ne.symm hji); have := hy.2; omega
          · intro s t hs hst hl
            rw [hgs s] at hl
            by_cases hsi : s = i
            · subst hsi; rw [hov] at hst; cases hst
            · have hl' : listed.getD s false = true := by simpa [hsi] using hl
              have hti := hni t (htgt s t hs hst hl')
              obtain ⟨e1, e2, wo, hG'⟩ := inv.dead s t hs hst hl'
              simp only [hsi, hti, if_false]
              exact ⟨e1, e2, wo, hmv t (htlt s t hs hst) (htgt s t hs hst hl') _ _ _ hG'⟩
          · intro j k hjk hlj hlk
            by_cases hji : j = i
            · subst hji
              simp only [if_true, Ne.symm hjk, if_false]
              exact .inr (inv.held k (hold k (Ne.symm hjk) hlk).1).2.2.1
            · by_cases hki : k = i
              · subst hki
                simp only [if_true, hji, if_false]
                exact .inl (inv.held j (hold j hji hlj).1).2.2.1
              · simp only [hji, hki, if_false]
                exact inv.apart j k hjk (hold j hji hlj).1 (hold k hki hlk).1

/-- What is held of the operations in the list. -/
def heldOfK (B : Nat) (Gs : Nat → Sp) (V : Nat → Value) (L H : Nat → Nat) (w : World) : List Nat → Prop
  | [] => True
  | j :: js => heldK B Gs V L H w j ∧ heldOfK B Gs V L H w js
theorem heldOfK_of {B : Nat} {Gs : Nat → Sp} {V : Nat → Value} {L H : Nat → Nat} {w : World} : ∀ (js : List Nat), (∀ j ∈ js, heldK B Gs V L H w j) → heldOfK B Gs V L H w js
  | [], _ => trivial
  | j :: js, h => ⟨h j List.mem_cons_self, heldOfK_of js fun k hk => h k (List.mem_cons_of_mem _ hk)⟩

/-- What an operation of this kind must show. -/
def effK (FJ : Nat → Prop) (J : World → Prop) (ob : Nat → Nat) (Gs : Nat → Sp) (V : Nat → Value) (L H : Nat → Nat) (w : World) (k : Nat) : OvK → Value → World → Prop
  | .none, v, w' => (WritesF FJ w w' ∧ J w') ∧ Gs k (upd V k v) w.heap.size w'.heap.size w'
  | .new t, v, w' => Touches (L t) (H t) w w' ∧ Gs k (upd V k v) (L t) (H t) w'
  | .old, v, w' => Touches (ob k) (ob k + 1) w w' ∧ Gs k (upd V k v) w.heap.size w'.heap.size w'

/-- The whole walk: operation by operation; then what stands behind the region. -/
def freeK (P : Program) (ops : Array Oper) (Q : Exit → Act → World → Prop) (w0 : World) (FJ : Nat → Prop) (J : World → Prop) (ob : Nat → Nat) (Gs : Nat → Sp) (live os : List Nat) (ls : List LineK) : Nat → ((Nat → Value) → Act) → List Oper → List LineK → Prop
  | _, A, [], [] => ∀ V L H w, WritesF (FAK FJ ob os) w0 w → J w → heldOfK w0.heap.size Gs V L H w live → (∀ i j, i ∈ live → j ∈ live → i ≠ j → H i ≤ L j ∨ H j ≤ L i) → (∀ s i, s < ls.length → ovK ls s = .new i → L s = L i ∧ H s = H i ∧ ∃ wo, Gs i V (L i) (H i) wo) → wpList P ops Q [] (A V) w
  | _, _, [], _ :: _ => False
  | _, _, _ :: _, [] => False
  | k, A, o :: l, (ds, ov, ms) :: dss => (∀ V L H w, WritesF (FAK FJ ob os) w0 w → Kept (fun y => y < w0.heap.size ∧ ¬ FJ y ∧ NeAllK ob y ms) w0 w → J w → heldOfK w0.heap.size Gs V L H w ds → wpList P ops (FreePost Q (A V) o.dst (effK FJ J ob Gs V L H w k ov)) [o] (A V) w) ∧
      freeK P ops Q w0 FJ J ob Gs live os ls (k + 1) (fun V => (A V).put o.dst (V k)) l dss

theorem freeK_spec {ops : Array Oper} {Q : Exit → Act → World → Prop} {w0 : World} {FJ : Nat → Prop} {J : World → Prop} {ob : Nat → Nat} {Gs : Nat → Sp} {live os : List Nat} {ls : List LineK} {a0 : Act} : ∀ (dss pd : List LineK) (l pre : List Oper) (A : (Nat → Value) → Act), pd.length = pre.length → (∀ V, A V = lexOf V 0 pre a0) → pd ++ dss = ls →
    freeK P ops Q w0 FJ J ob Gs live os ls pre.length A l dss →
    (∀ i o, l[i]? = some o → ∀ V L H w, WritesF (FAK FJ ob os) w0 w → Kept (fun y => y < w0.heap.size ∧ ¬ FJ y ∧ NeAllK ob y (lineK dss i).2.2) w0 w → J w → heldOfK w0.heap.size Gs V L H w (lineK dss i).1 →
      wpList P ops (FreePost Q (lexOf V 0 (pre ++ l.take i) a0) o.dst (ShowsK ls FJ J ob Gs V L H w (pre.length + i))) [o] (lexOf V 0 (pre ++ l.take i) a0) w) ∧
    (∀ V L H w, WritesF (FAK FJ ob os) w0 w → J w → heldOfK w0.heap.size Gs V L H w live → (∀ i j, i ∈ live → j ∈ live → i ≠ j → H i ≤ L j ∨ H j ≤ L i) → (∀ s i, s < ls.length → ovK ls s = .new i → L s = L i ∧ H s = H i ∧ ∃ wo, Gs i V (L i) (H i) wo) → wpList P ops Q [] (lexOf V 0 (pre ++ l) a0) w)
  | [], pd, [], pre, A, hp, hA, hls, h => by
    refine ⟨fun i o hi => absurd hi (by simp), fun V L H w hb hj hh hd hx => ?_⟩
    unfold freeK at h
    have := h V L H w hb hj hh hd hx
    rw [hA] at this
    simpa using this
  | [], _, _ :: _, pre, A, hp, hA, hls, h => by unfold freeK at h; exact h.elim
  | _ :: _, _, [], pre, A, hp, hA, hls, h => by unfold freeK at h; exact h.elim
  | (ds, ov, ms) :: dss, pd, o :: l, pre, A, hp, hA, hls, h => by
    have hov : ovK ls pre.length = ov := by
      unfold ovK lineK
      rw [← hls, ← hp, List.getD_eq_getElem?_getD, List.getElem?_append_right (Nat.le_refl _)]
      simp
    unfold freeK at h
    obtain ⟨h1, h2⟩ := h
    have ih := freeK_spec (a0 := a0) dss (pd ++ [(ds, ov, ms)]) l (pre ++ [o]) (fun V => (A V).put o.dst (V pre.length)) (by simp [hp]) (fun V => by rw [hA V, lexOf_snoc, Nat.zero_add]) (by simpa using hls) (by simpa using h2)
    refine ⟨fun i o' ho V L H w hb hk hj hh => ?_, fun V L H w hb hj hh hd hx => ?_⟩
    · cases i with
      | zero =>
        obtain rfl : o = o' := by simpa using ho
        have := h1 V L H w hb (by simpa [lineK] using hk) hj (by simpa [lineK] using hh)
        rw [hA] at this
        have he : ShowsK ls FJ J ob Gs V L H w (pre.length + 0) = effK FJ J ob Gs V L H w pre.length ov := by
          funext v w'
          unfold ShowsK
          rw [Nat.add_zero, hov]
          cases ov <;> rfl
        rw [he]
        simpa using this
      | succ i =>
        have := ih.1 i o' (by simpa using ho) V L H w hb (by simpa [lineK] using hk) hj (by simpa [lineK] using hh)
        simpa [Nat.add_assoc, Nat.add_comm 1 i] using this
    · have := ih.2 V L H w hb hj hh hd hx
      simpa using this

theorem wp_region_freeK {id : Nat} {Q : Exit → Act → World → Prop} {a : Act} {w : World} {l : List Oper} (ls : List LineK) (live os : List Nat) (FJ : Nat → Prop) (J : World → Prop) (ob : Nat → Nat) (Gs : Nat → Sp) (hm : P.follows .mixedOrders = true)
    (hB : freeKB l ls live os = true) (hob : ObLK w.heap.size FJ ob os) (hF : ∀ y, FJ y → y < w.heap.size) (hJ0 : J w)
    (hJ : ∀ w1 w2, w.heap.size ≤ w1.heap.size → J w1 → Kept (fun y => y < w.heap.size ∧ NeAllK ob y os) w1 w2 → J w2)
    (hloc : LocalK ls Gs) (hlast : ∀ i, i < l.length → LastsK w.heap.size FJ ob os (ownK ls ob i) (Gs i))
    (h : freeK P l.toArray Q w FJ J ob Gs live os ls 0 (fun _ => a) l ls) : (Code.region id l.toArray true).wp P Q a w := by
  have ok := freeOkK hB
  obtain ⟨h1, h2⟩ := freeK_spec (a0 := a) ls [] l [] (fun _ => a) rfl (fun _ => rfl) rfl h
  simp only [List.nil_append, List.length_nil, Nat.zero_add] at h1 h2
  refine wp_region_any hm ?_
  have hcount : (List.range l.length).countP (fun i => (Array.replicate l.toArray.size false).getD i true == false) = l.length := by
    rw [List.countP_eq_length.2, List.length_range]
    intro i hi
    have : i < l.length := List.mem_range.1 hi
    simp [this]
  have := wpAny_freeK (P := P) (Q := Q) (a0 := a) (w0 := w) (Gs := Gs) ok hob hF hJ hloc hlast (fun i o ho V L H w' hb hk hj hd => h1 i o ho V L H w' hb hk hj (heldOfK_of _ hd))
    (fun V L H w' hb hj hd hap hdead => by simpa [wpList] using h2 V L H w' hb hj (heldOfK_of _ hd) hap (fun s i hs => hdead s i (ok.len ▸ hs)))
    _ (Array.replicate l.toArray.size false) (fun _ => undef) (fun _ => 0) (fun _ => 0) a { w with drawn := w.drawn + 1 }
    ⟨by simp, fun j oj _ hl => (by rw [getD_replicate_false] at hl; cases hl),
      (actOf_off _ _ _ fun m _ => getD_replicate_false _ _).symm, ⟨rfl, rfl, rfl, Nat.le_refl _, fun _ _ _ => rfl⟩, hJ w _ (Nat.le_refl _) hJ0 ⟨Nat.le_refl _, fun _ _ _ => rfl⟩, fun i _ _ => rfl, fun i hl => absurd hl.2.1 (by simp only [getD_replicate_false]; decide), fun s i _ _ hl => (by rw [getD_replicate_false] at hl; cases hl), fun i j _ hl => absurd hl.2.1 (by simp only [getD_replicate_false]; decide)⟩ hcount
  simpa using this
end
end Go.Proofs.YtjlcbbaicengbaaDoor
