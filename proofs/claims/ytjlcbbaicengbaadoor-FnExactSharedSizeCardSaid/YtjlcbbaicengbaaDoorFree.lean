/-
  A region that draws its order, each of whose operations leaves something that lasts (a value; blocks behind all that was there): walked once, each operation by itself, in whatever world it comes: no order is gone through.
-/
import Derived.StillTail
import Derived.Below
import Derived.Tactics
import Derived.KernelRfl
import Derived.Test.YtjlcbbaicengbaaDoorOwn
namespace Go.Proofs.YtjlcbbaicengbaaDoor
open Go.ChangeShapes Go.WideShapes Go.ChangeAt Go.RowKit Go.Deep

/-- What is said of the operations' values and of the blocks from L to H in a world. -/
abbrev Sp := (Nat → Value) → Nat → Nat → World → Prop
def upd (V : Nat → Value) (i : Nat) (v : Value) : Nat → Value := fun j => if j = i then v else V j
theorem upd_ne {V : Nat → Value} {i : Nat} {v : Value} {j : Nat} (h : j ≠ i) : upd V i v j = V j := if_neg h
theorem upd_self {V : Nat → Value} {i : Nat} {v : Value} : upd V i v i = v := if_pos rfl
/-- It lasts while no block below B and none from L to H is written. -/
def Lasts (B : Nat) (G : Sp) : Prop := ∀ V L H w w', B ≤ w.heap.size → H ≤ w.heap.size → Kept (fun y => y < B ∨ L ≤ y ∧ y < H) w w' → G V L H w → G V L H w'
/-- Only blocks from L to H are written. -/
structure Touches (L H : Nat) (w w' : World) : Prop where
  os : w'.os = w.os
  tape : w'.tape = w.tape
  output : w'.output = w.output
  size : w.heap.size ≤ w'.heap.size
  block : ∀ k, k < w.heap.size → ¬ (L ≤ k ∧ k < H) → w'.heap[k]? = w.heap[k]?
theorem Touches.refl {L H : Nat} {w : World} : Touches L H w w := ⟨rfl, rfl, rfl, Nat.le_refl _, fun _ _ _ => rfl⟩
theorem Touches.put {L H : Nat} {a w : World} (h : Touches L H a w) {p : Addr} (hp : L ≤ p.block ∧ p.block < H) (u : Value) : Touches L H a (w.setCell p u) :=
  ⟨h.os, h.tape, h.output, by simp [World.setCell]; exact h.size, fun k hk hn => (Below.heap_setCell _ _ _ _ (fun e => hn (by rw [e]; exact hp))).trans (h.block k hk hn)⟩

def actOf (on : Nat → Bool) (V : Nat → Value) : Nat → List Oper → Act → Act
  | _, [], a => a
  | k, o :: l, a => actOf on V (k + 1) l (if on k then a.put o.dst (V k) else a)
def lexOf (V : Nat → Value) : Nat → List Oper → Act → Act
  | _, [], a => a
  | k, o :: l, a => lexOf V (k + 1) l (a.put o.dst (V k))

theorem put_size (a : Act) (x : Option Tmp) (v : Value) : (a.put x v).tmps.size = a.tmps.size := by
  cases x <;> simp [Act.put]
theorem put_eval_same (a a' : Act) (t : Tmp) (v : Value) (h : a.tmps.size = a'.tmps.size) : (a.put (some t) v).eval (.tmp t) = (a'.put (some t) v).eval (.tmp t) := by
  by_cases ht : t < a.tmps.size
  · simp [Act.eval, Act.put, ht, h ▸ ht]
  · have ht' : ¬ t < a'.tmps.size := h ▸ ht
    simp [Act.eval, Act.put, ht, ht']
theorem put_inj {lx a : Act} {x : Option Tmp} {v v' : Value} (hs : a.tmps.size = lx.tmps.size) (h : lx.put x v = lx.put x v') : a.put x v = a.put x v' := by
  cases x with
  | none => rfl
  | some d =>
    by_cases hd : d < lx.tmps.size
    · have h1 : (lx.put (some d) v).tmps[d]? = (lx.put (some d) v').tmps[d]? := by rw [h]
      simp [Act.put, hd] at h1
      rw [h1]
    · have hd' : a.tmps.size ≤ d := by rw [hs]; exact Nat.le_of_not_lt hd
      simp only [Act.put]
      rw [Array.setIfInBounds_eq_of_size_le hd', Array.setIfInBounds_eq_of_size_le hd']

theorem actOf_congr {on on' : Nat → Bool} {V V' : Nat → Value} : ∀ (l : List Oper) (k : Nat) (a : Act), (∀ j, k ≤ j → on j = on' j ∧ V j = V' j) → actOf on V k l a = actOf on' V' k l a
  | [], _, _, _ => rfl
  | o :: l, k, a, h => by
    simp only [actOf]
    rw [(h k (Nat.le_refl _)).1, (h k (Nat.le_refl _)).2]
    exact actOf_congr l (k + 1) _ fun j hj => h j (by omega)
theorem actOf_put {on : Nat → Bool} {V : Nat → Value} {x : Option Tmp} {v : Value} : ∀ (l : List Oper) (k : Nat) (a : Act), (∀ o ∈ l, ∀ d, x = some d → o.dst ≠ some d) → actOf on V k l (a.put x v) = (actOf on V k l a).put x v
  | [], _, _, _ => rfl
  | o :: l, k, a, h => by
    simp only [actOf]
    cases on k
    · exact actOf_put l (k + 1) a fun o ho => h o (List.mem_cons_of_mem _ ho)
    · simp only [if_true]
      rw [Act.put_comm a v (V k) (fun d hd => h o List.mem_cons_self d hd)]
      exact actOf_put l (k + 1) _ fun o ho => h o (List.mem_cons_of_mem _ ho)
theorem actOf_set {on : Nat → Bool} {V : Nat → Value} {v : Value} : ∀ (l : List Oper) (k m : Nat) (a : Act) (o : Oper), l[m]? = some o → (∀ m' o', l[m']? = some o' → m' ≠ m → ∀ d, o.dst = some d → o'.dst ≠ some d) →
    actOf (fun j => j == k + m || on j) (fun j => if j = k + m then v else V j) k l a = (actOf on V k l a).put o.dst v ∨ on (k + m) = true
  | [], _, _, _, _, h, _ => by simp at h
  | o' :: l, k, 0, a, o, h, hd => by
    obtain rfl : o' = o := by simpa using h
    cases hk : on k
    · left
      simp only [actOf, Nat.add_zero, hk, Bool.or_false, beq_self_eq_true, if_true, Bool.false_eq_true, if_false]
      rw [← actOf_put l (k + 1) a fun o2 ho2 d hdd => by
        obtain ⟨m, hm⟩ := List.mem_iff_getElem?.1 ho2
        exact hd (m + 1) o2 (by simpa using hm) (by omega) d hdd]
      exact actOf_congr l (k + 1) _ fun j hj => ⟨by simp [show j ≠ k by omega], by simp [show j ≠ k by omega]⟩
    · right; rfl
  | o' :: l, k, m + 1, a, o, h, hd => by
    have h' : l[m]? = some o := by simpa using h
    have e : k + (m + 1) = (k + 1) + m := by omega
    simp only [actOf, e, show (k == k + 1 + m) = false by simp; omega, Bool.false_or, show ¬ k = k + 1 + m by omega, if_false]
    exact actOf_set l (k + 1) m _ o h' fun m' o2 h2 hne d hdd => hd (m' + 1) o2 (by simpa using h2) (by omega) d hdd
theorem actOf_size {on : Nat → Bool} {V : Nat → Value} : ∀ (l : List Oper) (k : Nat) (a : Act), (actOf on V k l a).tmps.size = a.tmps.size
  | [], _, _ => rfl
  | o :: l, k, a => by
    simp only [actOf]
    rw [actOf_size l]
    split
    · exact put_size _ _ _
    · rfl
theorem lexOf_size {V : Nat → Value} : ∀ (l : List Oper) (k : Nat) (a : Act), (lexOf V k l a).tmps.size = a.tmps.size
  | [], _, _ => rfl
  | o :: l, k, a => by simp only [lexOf]; rw [lexOf_size l, put_size]
theorem lexOf_snoc {V : Nat → Value} : ∀ (l : List Oper) (k : Nat) (a : Act) (o : Oper), lexOf V k (l ++ [o]) a = (lexOf V k l a).put o.dst (V (k + l.length))
  | [], _, _, _ => rfl
  | o' :: l, k, a, o => by simp only [List.cons_append, lexOf]; rw [lexOf_snoc l, List.length_cons, show k + 1 + l.length = k + (l.length + 1) by omega]
theorem actOf_all {on : Nat → Bool} {V : Nat → Value} : ∀ (l : List Oper) (k : Nat) (a : Act), (∀ m, m < l.length → on (k + m) = true) → actOf on V k l a = lexOf V k l a
  | [], _, _, _ => rfl
  | o :: l, k, a, h => by
    simp only [actOf, lexOf]
    rw [show on k = true from h 0 (by simp), if_pos rfl]
    exact actOf_all l (k + 1) _ fun m hm => by rw [show k + 1 + m = k + (m + 1) by omega]; exact h (m + 1) (by simp; omega)
theorem actOf_off {on : Nat → Bool} {V : Nat → Value} : ∀ (l : List Oper) (k : Nat) (a : Act), (∀ m, m < l.length → on (k + m) = false) → actOf on V k l a = a
  | [], _, _, _ => rfl
  | o :: l, k, a, h => by
    simp only [actOf]
    rw [show on k = false from h 0 (by simp)]
    simp only [Bool.false_eq_true, if_false]
    exact actOf_off l (k + 1) _ fun m hm => by rw [show k + 1 + m = k + (m + 1) by omega]; exact h (m + 1) (by simp; omega)

theorem eval_put_ne {a : Act} {x : Option Tmp} {v : Value} {t : Tmp} (h : x ≠ some t) : (a.put x v).eval (.tmp t) = a.eval (.tmp t) :=
  Act.eval_put fun d hd hx => h (by rw [hd]; cases hx; rfl)
theorem actOf_none {on : Nat → Bool} {V : Nat → Value} {t : Tmp} : ∀ (l : List Oper) (k : Nat) (a : Act), (∀ o ∈ l, o.dst ≠ some t) → (actOf on V k l a).eval (.tmp t) = a.eval (.tmp t)
  | [], _, _, _ => rfl
  | o :: l, k, a, h => by
    simp only [actOf]
    rw [actOf_none l (k + 1) _ fun o ho => h o (List.mem_cons_of_mem _ ho)]
    split
    · exact eval_put_ne (h o List.mem_cons_self)
    · rfl
theorem agree {on : Nat → Bool} {V : Nat → Value} {t : Tmp} : ∀ (l : List Oper) (k i : Nat) (a a' : Act), a.tmps.size = a'.tmps.size → a.eval (.tmp t) = a'.eval (.tmp t) → (∀ m o, l[m]? = some o → o.dst = some t → m < i ∧ on (k + m) = true) →
    (actOf on V k l a).eval (.tmp t) = (lexOf V k (l.take i) a').eval (.tmp t)
  | [], k, i, a, a', _, he, _ => by simpa [actOf, lexOf] using he
  | o :: l, k, 0, a, a', hs, he, h => by
    simp only [List.take_zero, lexOf]
    rw [actOf_none (o :: l) k a fun o2 ho2 hd => by
      obtain ⟨m, hm⟩ := List.mem_iff_getElem?.1 ho2
      exact absurd (h m o2 hm hd).1 (by omega)]
    exact he
  | o :: l, k, i + 1, a, a', hs, he, h => by
    simp only [List.take_succ_cons, lexOf, actOf]
    have h' : ∀ m o2, l[m]? = some o2 → o2.dst = some t → m < i ∧ on (k + 1 + m) = true := fun m o2 hm hd => by
      have := h (m + 1) o2 (by simpa using hm) hd
      exact ⟨by omega, by rw [show k + 1 + m = k + (m + 1) by omega]; exact this.2⟩
    by_cases hd : o.dst = some t
    · have h0 := (h 0 o (by simp) hd).2
      rw [show on k = true from h0, if_pos rfl]
      refine agree l (k + 1) i _ _ (by rw [put_size, put_size]; exact hs) ?_ h'
      rw [hd]
      exact put_eval_same a a' t (V k) hs
    · refine agree l (k + 1) i _ _ ?_ ?_ h'
      · rw [put_size]; split <;> simp [put_size, hs]
      · rw [eval_put_ne hd]; split
        · rw [eval_put_ne hd]; exact he
        · exact he

section
variable {P : Program}

/-- What an operation must show, walked by itself. -/
def FreePost (Q : Exit → Act → World → Prop) (lx : Act) (x : Option Tmp) (R : Value → World → Prop) : Exit → Act → World → Prop
  | .normal, a', w' => ∃ v, a' = lx.put x v ∧ R v w'
  | .outgrown, a', w' => Q .outgrown a' w'
  | _, _, _ => False

theorem freePost {Q : Exit → Act → World → Prop} {lx a' : Act} {x : Option Tmp} {w' : World} {R : Value → World → Prop} (v : Value) (ha : a' = lx.put x v) (h : R v w') : FreePost Q lx x R .normal a' w' := ⟨v, ha, h⟩
/-- What lies below B, or from L on, lies so afterwards. -/
theorem sl_kept {lo hi n len : Nat} {f : Nat → Nat → Ct} {a : Option Addr} {w w' : World} {F : Nat → Prop} (h : Sl lo hi w n len f a) (hk : Kept F w w') (hF : ∀ b, lo ≤ b → b < hi → F b) (hh : hi ≤ w.heap.size) : Sl lo hi w' n len f a :=
  h.frame fun b o h1 h2 => hk.cell (p := ⟨b, o, none⟩) (hF b h1 h2) (Nat.lt_of_lt_of_le h2 hh)
theorem letsOut_free {Q : Exit → Act → World → Prop} {lx : Act} {x : Option Tmp} {R : Value → World → Prop} (h : LetsOut (FreePost Q lx x R)) : LetsOut Q := h

theorem tmps_same {a lx : Act} {t : Tmp} (hsz : a.tmps.size = lx.tmps.size) (h : a.eval (.tmp t) = lx.eval (.tmp t)) : a.tmps[t]? = lx.tmps[t]? := by
  by_cases ht : t < a.tmps.size
  · have ht' : t < lx.tmps.size := hsz ▸ ht
    simp [Act.eval, ht, ht'] at h ⊢
    exact h
  · have ht' : ¬ t < lx.tmps.size := hsz ▸ ht
    simp [ht, ht']
/-- A guard reads the same, where the operation that it looks at has left the same. -/
theorem wanted_same {ops : Array Oper} {o : Oper} {a lx : Act} (hsz : a.tmps.size = lx.tmps.size) (h : ∀ t, t ∈ o.looksAt ops → a.eval (.tmp t) = lx.eval (.tmp t)) : Region.wanted o (yielded ops a.tmps) = Region.wanted o (yielded ops lx.tmps) := by
  unfold Region.wanted
  cases hg : o.guard with
  | none => rfl
  | some gw =>
    obtain ⟨g, want⟩ := gw
    have hy : yielded ops a.tmps g = yielded ops lx.tmps g := by
      unfold yielded
      cases ht : (ops[g]?).bind (·.dst) with
      | none => rfl
      | some t =>
        have := tmps_same hsz (h t (by simp [Oper.looksAt, hg, ht]))
        simp [this]
    simp only [hy]
theorem wp_of_free {o : Oper} {lx a : Act} {w : World} {Q : Exit → Act → World → Prop} {K : Act → World → Prop} {R : Value → World → Prop} {ops : Array Oper}
    (hw : Region.wanted o (yielded ops a.tmps) = Region.wanted o (yielded ops lx.tmps)) (hs : ∀ cs b, o.op ≠ .select cs b) (hev : ∀ x ∈ o.op.operands, a.eval x = lx.eval x) (hsz : a.tmps.size = lx.tmps.size)
    (hK : ∀ v w', R v w' → K (a.put o.dst v) w')
    (h : wpList P ops (FreePost Q lx o.dst R) [o] lx w) : if Region.wanted o (yielded ops a.tmps) then o.wp P a w K Q ∨ (o.asks P a w ∧ LetsOut Q) else K (a.put o.dst undef) w := by
  have he : execOp a.eval o = execOp lx.eval o := execOp_congr o hs hev
  unfold wpList at h
  rw [hw]
  by_cases hwn : Region.wanted o (yielded ops lx.tmps) = true
  case neg =>
    rw [if_neg hwn] at h ⊢
    obtain ⟨v, h1, h2⟩ := h
    rw [put_inj hsz h1]
    exact hK v w h2
  rw [if_pos hwn] at h ⊢
  rcases h with h | ⟨h, hl⟩
  · left
    unfold Oper.wp at *
    rw [he]
    generalize (execOp lx.eval o).run P w = r at *
    have key : ∀ v w', FreePost Q lx o.dst R .normal (lx.put o.dst v) w' → K (a.put o.dst v) w' := fun v w' ⟨v', h1, h2⟩ => by
      rw [put_inj hsz h1]; exact hK v' w' h2
    cases r with
    | ok n w' =>
      cases n <;> simp only [Oper.upon] at h ⊢
      case value v => exact key v w' h
      case skip => exact key _ w' h
      case defer d =>
        obtain ⟨v', h1, _⟩ := h
        have h2 := congrArg (fun x => x.defers.length) h1
        cases hd : o.dst <;> simp [Act.put, hd] at h2
      case enter f args =>
        refine Calls.mono h fun e w'' he' => ?_
        cases e with
        | returned v => exact key v w'' he'
        | panicked c => exact he'.elim
        | outgrown => exact letsOut_free he'
      case row r args => exact Rows.mono h fun v w'' he' => key v w'' he'
    | halt x w' => cases x <;> simp only [Oper.upon] at h ⊢ <;> exact h.elim
  · right
    refine ⟨?_, letsOut_free hl⟩
    unfold Oper.asks at *
    rw [he]; exact h

/-- One line for each operation: whose facts it needs, and whose blocks it writes. -/
abbrev Line := List Nat × Option Nat
def ovOf (ls : List Line) (i : Nat) : Option Nat := (ls.getD i ([], none)).2

/-- The checks on a region. -/
def freeB (l : List Oper) (ls : List Line) (live : List Nat) : Bool :=
  Region.noSelect l.toArray && ls.length == l.length &&
  ((List.range l.length).all fun i => match l[i]? with
    | none => true
    | some o => (o.after.all fun e => !Region.binds .any e || decide (e.on < i)) &&
      (List.range l.length).all fun j => i == j || match l[j]? with
        | none => true
        | some oj => match oj.dst with
          | none => true
          | some d => (!(o.looksAt l.toArray).contains d || Region.waitsFor .any l.toArray i j) && o.dst != some d) &&
  ((List.range l.length).all fun i => match l[i]? with
    | none => true
    | some o => match o.dst with
      | none => true
      | some d => !(o.looksAt l.toArray).contains d) &&
  ((List.range l.length).all fun i => match ovOf ls i with
    | none => true
    | some t => Region.waitsFor .any l.toArray i t && (List.range l.length).all fun j => i == j || ovOf ls j != some t) &&
  ((List.range l.length).all fun i => (ls.getD i ([], none)).1.all fun j => Region.waitsFor .any l.toArray i j && (List.range l.length).all fun s => s == i || ovOf ls s != some j) &&
  live.all fun i => decide (i < l.length) && (List.range l.length).all fun s => ovOf ls s != some i

structure FreeOk (l : List Oper) (ls : List Line) (live : List Nat) : Prop where
  sel : Region.noSelect l.toArray = true
  len : ls.length = l.length
  back : ∀ (i : Nat) (o : Oper), l[i]? = some o → ∀ e ∈ o.after, Region.binds .any e = true → e.on < i
  looks : ∀ (i : Nat) (o : Oper) (j : Nat) (oj : Oper) d, l[i]? = some o → l[j]? = some oj → oj.dst = some d → d ∈ o.looksAt l.toArray → Region.waitsFor .any l.toArray i j = true
  dst : ∀ (i : Nat) (o : Oper) (j : Nat) (oj : Oper) d, i ≠ j → l[i]? = some o → l[j]? = some oj → oj.dst = some d → o.dst ≠ some d
  over : ∀ i t, i < l.length → ovOf ls i = some t → Region.waitsFor .any l.toArray i t = true ∧ ∀ j, j < l.length → ovOf ls j = some t → j = i
  deps : ∀ i j, i < l.length → j ∈ (ls.getD i ([], none)).1 → Region.waitsFor .any l.toArray i j = true ∧ ∀ s, s < l.length → ovOf ls s = some j → s = i
  lives : ∀ i, i ∈ live → i < l.length ∧ ∀ s, s < l.length → ovOf ls s ≠ some i

theorem lt_of_get {l : List Oper} {i : Nat} {o : Oper} (h : l[i]? = some o) : i < l.length := (List.getElem?_eq_some_iff.1 h).1

theorem freeOk {l : List Oper} {ls : List Line} {live : List Nat} (h : freeB l ls live = true) : FreeOk l ls live := by
  simp only [freeB, Bool.and_eq_true, decide_eq_true_eq, List.all_eq_true, List.mem_range, Bool.or_eq_true, beq_iff_eq] at h
  obtain ⟨⟨⟨⟨⟨⟨h1, h2⟩, h3⟩, h4⟩, h5⟩, h6⟩, h7⟩ := h
  refine ⟨h1, h2, fun i o ho e he hb => ?_, fun i o j oj d ho hoj hd hl => ?_, fun i o j oj d hij ho hoj hd => ?_, fun i t hi ht => ?_, fun i j hi hj => ?_, fun i hi => ?_⟩
  · have := h3 i (lt_of_get ho)
    simp only [ho, Bool.and_eq_true] at this
    have h7 := Array.all_eq_true_iff_forall_mem.1 this.1 e he
    simpa [hb] using h7
  · by_cases hij : i = j
    · subst hij
      have := h4 i (lt_of_get ho)
      obtain rfl : o = oj := Option.some.inj (ho.symm.trans hoj)
      simp [ho, hd, hl] at this
    · have := h3 i (lt_of_get ho)
      simp only [ho, Bool.and_eq_true, List.all_eq_true, List.mem_range] at this
      have h7 := this.2 j (lt_of_get hoj)
      simp [hij, hoj, hd, hl] at h7
      exact h7.1
  · have := h3 i (lt_of_get ho)
    simp only [ho, Bool.and_eq_true, List.all_eq_true, List.mem_range] at this
    have h7 := this.2 j (lt_of_get hoj)
    simp [hij, hoj, hd] at h7
    exact h7.2
  · have := h5 i hi
    rw [ht] at this
    simp only [Bool.and_eq_true, List.all_eq_true, List.mem_range, Bool.or_eq_true, beq_iff_eq] at this
    exact ⟨this.1, fun j hj hjt => by
      rcases this.2 j hj with h | h
      · exact h.symm
      · simp [hjt] at h⟩
  · have := h6 i hi j hj
    exact ⟨this.1, fun s hs hsj => by
      rcases this.2 s hs with h | h
      · exact h
      · simp [hsj] at h⟩
  · have := h7 i hi
    exact ⟨this.1, fun s hs hsi => by have := this.2 s hs; simp [hsi] at this⟩

theorem countP_flip {p q : Nat → Bool} {i : Nat} : ∀ (r : List Nat), r.Nodup → i ∈ r → p i = true → q i = false → (∀ j, j ≠ i → p j = q j) → r.countP p = r.countP q + 1
  | [], _, h, _, _, _ => by simp at h
  | x :: r, hn, h, hp, hq, he => by
    obtain ⟨hx, hr⟩ := List.nodup_cons.1 hn
    by_cases hxi : x = i
    · subst hxi
      rw [List.countP_cons_of_pos hp, List.countP_cons_of_neg (by simp [hq])]
      congr 1
      exact List.countP_congr fun j hj => by rw [he j (fun e => hx (e ▸ hj))]
    · have hi : i ∈ r := by
        rcases List.mem_cons.1 h with h | h
        · exact absurd h.symm hxi
        · exact h
      have ih := countP_flip r hr hi hp hq he
      rw [List.countP_cons, List.countP_cons, ih, he x hxi]
      omega

def heldAt (B : Nat) (Gs : Nat → Sp) (V : Nat → Value) (L H : Nat → Nat) (w : World) (j : Nat) : Prop := B ≤ L j ∧ L j ≤ H j ∧ H j ≤ w.heap.size ∧ Gs j V (L j) (H j) w
/-- Operation i has run, and none that writes its blocks. -/
def Live (l : List Oper) (ls : List Line) (on : Nat → Bool) (i : Nat) : Prop := i < l.length ∧ on i = true ∧ ∀ s, s < l.length → ovOf ls s = some i → on s = false

structure FreeInv (l : List Oper) (ls : List Line) (a0 : Act) (w0 : World) (Gs : Nat → Sp) (listed : Array Bool) (V : Nat → Value) (L H : Nat → Nat) (a : Act) (w : World) : Prop where
  size : listed.size = l.length
  closed : ∀ j oj, l[j]? = some oj → listed.getD j false = true → ∀ e ∈ oj.after, Region.binds .any e = true → listed.getD e.on false = true
  act : a = actOf (fun k => listed.getD k false) V 0 l a0
  below : Below w0.heap.size w0 w
  held : ∀ i, Live l ls (fun k => listed.getD k false) i → heldAt w0.heap.size Gs V L H w i
  dead : ∀ s i, s < l.length → ovOf ls s = some i → listed.getD s false = true → L s = L i ∧ H s = H i ∧ ∃ wo, Gs i V (L i) (H i) wo
  apart : ∀ i j, i ≠ j → Live l ls (fun k => listed.getD k false) i → Live l ls (fun k => listed.getD k false) j → H i ≤ L j ∨ H j ≤ L i

theorem ready_some {l : List Oper} {ls : List Line} {live : List Nat} (ok : FreeOk l ls live) {listed : Array Bool} (hsz : listed.size = l.length) : ∀ i, i < l.length → listed.getD i true = false → ∃ j, j ∈ Region.ready .any l.toArray listed := by
  intro i
  induction i using Nat.strongRecOn with
  | _ i ih =>
    intro hil hu
    by_cases hr : i ∈ Region.ready .any l.toArray listed
    · exact ⟨i, hr⟩
    · have h1 : ¬ (listed.getD i true = false ∧ ∃ o, l.toArray[i]? = some o ∧ ∀ e ∈ o.after, Region.binds .any e = true → listed.getD e.on false = true) := fun h => hr (mem_ready.2 h)
      have h2 : ∃ e ∈ (l[i]'hil).after, Region.binds .any e = true ∧ ¬ listed.getD e.on false = true := by
        by_cases h3 : ∃ e ∈ (l[i]'hil).after, Region.binds .any e = true ∧ ¬ listed.getD e.on false = true
        · exact h3
        · exact absurd ⟨hu, l[i]'hil, by simp [hil], fun e he hb => by
            by_cases h4 : listed.getD e.on false = true
            · exact h4
            · exact absurd ⟨e, he, hb, h4⟩ h3⟩ h1
      obtain ⟨e, he, hb, hn⟩ := h2
      have hlt := ok.back i _ (by simp [hil]) e he hb
      exact ih e.on hlt (by omega) (getD_in (by omega) (by simpa using hn))

/-- What is said of an operation hangs on its value and those of the operations in its line. -/
def Local (ls : List Line) (Gs : Nat → Sp) : Prop := ∀ k V V' L H w, V k = V' k → (∀ j, j ∈ (ls.getD k ([], none)).1 → V j = V' j) → Gs k V L H w → Gs k V' L H w
/-- What operation i must show. -/
def Shows (ls : List Line) (Gs : Nat → Sp) (V : Nat → Value) (L H : Nat → Nat) (w : World) (i : Nat) (v : Value) (w' : World) : Prop :=
  match ovOf ls i with
  | none => Below w.heap.size w w' ∧ Gs i (upd V i v) w.heap.size w'.heap.size w'
  | some t => Touches (L t) (H t) w w' ∧ Gs i (upd V i v) (L t) (H t) w'

theorem wpAny_free {l : List Oper} {ls : List Line} {live : List Nat} {a0 : Act} {w0 : World} {Gs : Nat → Sp} {Q : Exit → Act → World → Prop} (ok : FreeOk l ls live)
    (hloc : Local ls Gs) (hlast : ∀ i, i < l.length → Lasts w0.heap.size (Gs i))
    (hrun : ∀ i o, l[i]? = some o → ∀ V L H w, Below w0.heap.size w0 w → (∀ j, j ∈ (ls.getD i ([], none)).1 → heldAt w0.heap.size Gs V L H w j) →
      wpList P l.toArray (FreePost Q (lexOf V 0 (l.take i) a0) o.dst (Shows ls Gs V L H w i)) [o] (lexOf V 0 (l.take i) a0) w)
    (hend : ∀ V L H w, Below w0.heap.size w0 w → (∀ j, j ∈ live → heldAt w0.heap.size Gs V L H w j) → (∀ i j, i ∈ live → j ∈ live → i ≠ j → H i ≤ L j ∨ H j ≤ L i) →
      (∀ s i, s < l.length → ovOf ls s = some i → L s = L i ∧ H s = H i ∧ ∃ wo, Gs i V (L i) (H i) wo) → Q .normal (lexOf V 0 l a0) w) :
    ∀ (f : Nat) (listed : Array Bool) (V : Nat → Value) (L H : Nat → Nat) (a : Act) (w : World), FreeInv l ls a0 w0 Gs listed V L H a w →
      (List.range l.length).countP (fun i => listed.getD i true == false) = f → wpAny P .any l.toArray Q f listed a w
  | 0, listed, V, L, H, a, w, inv, hf => by
    have hall : ∀ i, i < l.length → listed.getD i true = true := fun i hi => by
      have h1 := List.countP_eq_zero.1 hf i (List.mem_range.2 hi)
      simpa using h1
    have hallf : ∀ i, i < l.length → listed.getD i false = true := fun i hi => by
      have h1 := hall i hi
      have h2 : i < listed.size := by have := inv.size; omega
      simp [h2] at h1 ⊢; exact h1
    have hlv : ∀ i, i ∈ live → Live l ls (fun k => listed.getD k false) i := fun i hi => ⟨(ok.lives i hi).1, hallf i (ok.lives i hi).1, fun s hs h => absurd h ((ok.lives i hi).2 s hs)⟩
    have hact : a = lexOf V 0 l a0 := by
      rw [inv.act]
      exact actOf_all _ _ _ fun m hm => by rw [Nat.zero_add]; exact hallf m hm
    refine ⟨?_, ?_⟩
    · cases hr : Region.ready .any l.toArray listed with
      | nil => rfl
      | cons i r =>
        have hi : i ∈ Region.ready .any l.toArray listed := by rw [hr]; exact List.mem_cons_self
        obtain ⟨hun, o, ho, _⟩ := mem_ready.1 hi
        have hil : i < l.length := lt_of_get (by simpa using ho)
        rw [hall i hil] at hun
        cases hun
    · rw [hact]
      exact hend V L H w inv.below (fun j hj => inv.held j (hlv j hj)) (fun i j hi hj hij => inv.apart i j hij (hlv i hi) (hlv j hj)) (fun s i hs hsi => inv.dead s i hs hsi (hallf s hs))
  | f + 1, listed, V, L, H, a, w, inv, hf => by
    have hsz := inv.size
    have hex : ∃ i, i < l.length ∧ listed.getD i true = false := by
      have h1 : 0 < (List.range l.length).countP (fun i => listed.getD i true == false) := by omega
      obtain ⟨i, hi, h2⟩ := List.countP_pos_iff.1 h1
      exact ⟨i, List.mem_range.1 hi, by simpa using h2⟩
    obtain ⟨i0, hi0, hu0⟩ := hex
    refine ⟨fun h0 => ?_, fun i hi => ?_⟩
    · obtain ⟨j, hj⟩ := ready_some ok hsz i0 hi0 hu0
      rw [h0] at hj; cases hj
    · obtain ⟨hun, o, ho, hall⟩ := mem_ready.1 hi
      have ho' : l[i]? = some o := by simpa using ho
      have hil := lt_of_get ho'
      have hoff : listed.getD i false = false := getD_both hun
      have hwaits : ∀ j, Region.waitsFor .any l.toArray i j = true → j < i ∧ listed.getD j false = true := fun j hj => by
        obtain ⟨oj, hoj, e, he, hb, hon⟩ := Region.waitsFor_spec hj
        obtain rfl : oj = o := Option.some.inj (hoj.symm.trans ho)
        exact ⟨hon ▸ ok.back i oj ho' e he hb, hon ▸ hall e he hb⟩
      have hlive : ∀ j, Region.waitsFor .any l.toArray i j = true → (∀ s, s < l.length → ovOf ls s = some j → s = i) → Live l ls (fun k => listed.getD k false) j := fun j hj hs =>
        ⟨by have := (hwaits j hj).1; omega, (hwaits j hj).2, fun s hsl hsj => by rw [hs s hsl hsj]; exact hoff⟩
      have hR := hrun i o ho' V L H w inv.below (fun j hj => inv.held j (hlive j (ok.deps i j hil hj).1 (ok.deps i j hil hj).2))
      have hagree : ∀ t, t ∈ o.looksAt l.toArray → a.eval (.tmp t) = (lexOf V 0 (l.take i) a0).eval (.tmp t) := fun t ht => by
        rw [inv.act]
        refine agree l 0 i a0 a0 rfl rfl fun m o2 hm hd => ?_
        have hw := ok.looks i o m o2 t ho' hm hd ht
        rw [Nat.zero_add]
        exact hwaits m hw
      unfold wpOp
      simp only [ho]
      refine wp_of_free (wanted_same (by rw [inv.act, actOf_size, lexOf_size]) fun t ht => hagree t ht) (Region.noSelect_spec ok.sel i o · · ho) (fun x hx => ?_) (by rw [inv.act, actOf_size, lexOf_size]) (fun v w' hS => ?_) hR
      · cases x with
        | tmp t => exact hagree t (List.mem_append_left _ (List.mem_filterMap.2 ⟨.tmp t, by simpa using hx, rfl⟩))
        | _ => rfl
      · have hgs : ∀ j, (listed.setIfInBounds i true).getD j false = (j == 0 + i || listed.getD j false) := fun j => by
          by_cases hji : j = i
          · subst hji; simp [show j < listed.size by omega]
          · rw [getD_set_ne false (Ne.symm hji)]; simp [hji]
        have hact : actOf (fun k => (listed.setIfInBounds i true).getD k false) (upd V i v) 0 l a0 = a.put o.dst v := by
          have hact := actOf_set (on := fun k => listed.getD k false) (V := V) (v := v) l 0 i a0 o ho' (fun m' o2 hm hne d hd hd2 => ok.dst m' o2 i o d hne hm ho' hd hd2)
          rcases hact with hact | hact
          · rw [inv.act, ← hact]
            congr 1
            · funext j; exact hgs j
            · funext j; simp [upd]
          · rw [Nat.zero_add] at hact; rw [hact] at hoff; cases hoff
        have hclosed : ∀ j oj, l[j]? = some oj → (listed.setIfInBounds i true).getD j false = true → ∀ e ∈ oj.after, Region.binds .any e = true → (listed.setIfInBounds i true).getD e.on false = true := fun j oj hoj hl e he hb => by
          by_cases hij : i = j
          · subst hij
            obtain rfl : oj = o := Option.some.inj (hoj.symm.trans ho')
            exact getD_set_true (hall e he hb)
          · rw [getD_set_ne false hij] at hl
            exact getD_set_true (inv.closed j oj hoj hl e he hb)
        have hcnt : (List.range l.length).countP (fun j => (listed.setIfInBounds i true).getD j true == false) = f := by
          have h1 := countP_flip (p := fun j => listed.getD j true == false) (q := fun j => (listed.setIfInBounds i true).getD j true == false) (i := i) (List.range l.length) List.nodup_range (List.mem_range.2 hil) (by simpa using hun) (by simp [show i < listed.size by omega]) (fun j hj => by simp only [getD_set_ne true (Ne.symm hj)])
          omega
        -- a live one of the next state, which is not i, was live
        have hold : ∀ j, j ≠ i → Live l ls (fun k => (listed.setIfInBounds i true).getD k false) j → Live l ls (fun k => listed.getD k false) j ∧ ovOf ls i ≠ some j := fun j hji ⟨h1, h2, h3⟩ =>
          ⟨⟨h1, by have := h2; simp only [hgs j, Nat.zero_add] at this; simpa [hji] using this, fun s hs hsj => by
              have h4 := h3 s hs hsj
              simp only [hgs s, Bool.or_eq_false_iff] at h4
              exact h4.2⟩, fun h => by have h4 := h3 i hil h; simp [hgs i] at h4⟩
        have htgt : ∀ s t, s < l.length → ovOf ls s = some t → listed.getD s false = true → listed.getD t false = true := fun s t hs hst hl => by
          obtain ⟨os, hos, e, he, hb, hon⟩ := Region.waitsFor_spec (ok.over s t hs hst).1
          exact hon ▸ inv.closed s os (by simpa using hos) hl e he hb
        have hni : ∀ t, listed.getD t false = true → t ≠ i := fun t ht e => by rw [e, hoff] at ht; cases ht
        have hmv : ∀ k, k < l.length → listed.getD k false = true → ∀ L H w, Gs k V L H w → Gs k (upd V i v) L H w := fun k hk hon L H w hG =>
          hloc k V (upd V i v) L H w (upd_ne (hni k hon)).symm (fun j hj => (upd_ne (hni j (by
            obtain ⟨ok', hok', e, he, hb, hone⟩ := Region.waitsFor_spec (ok.deps k j hk hj).1
            exact hone ▸ inv.closed k ok' (by simpa using hok') hon e he hb))).symm) hG
        cases hov : ovOf ls i with
        | none =>
          unfold Shows at hS
          rw [hov] at hS
          obtain ⟨hb, hG⟩ := hS
          refine wpAny_free ok hloc hlast hrun hend f (listed.setIfInBounds i true) (upd V i v) (fun j => if j = i then w.heap.size else L j) (fun j => if j = i then w'.heap.size else H j) _ w' ⟨by simpa using hsz, hclosed, hact.symm, inv.below.trans (hb.mono inv.below.size), ?_, ?_, ?_⟩ hcnt
          · intro j hj
            unfold heldAt
            by_cases hji : j = i
            · subst hji
              simp only [if_true]
              exact ⟨inv.below.size, hb.size, Nat.le_refl _, hG⟩
            · simp only [hji, if_false]
              obtain ⟨h1, h2, h3, h4⟩ := inv.held j (hold j hji hj).1
              exact ⟨h1, h2, Nat.le_trans h3 hb.size, hlast j hj.1 _ _ _ w w' inv.below.size h3 (Kept.of_below_all hb) (hmv j hj.1 (hold j hji hj).1.2.1 _ _ _ h4)⟩
          · intro s t hs hst hl
            rw [hgs s] at hl
            by_cases hsi : s = i
            · subst hsi; rw [hov] at hst; cases hst
            · have hl' : listed.getD s false = true := by simpa [hsi] using hl
              have hti := hni t (htgt s t hs hst hl')
              obtain ⟨e1, e2, wo, hG'⟩ := inv.dead s t hs hst hl'
              simp only [hsi, hti, if_false]
              exact ⟨e1, e2, wo, hmv t (by have := Region.waitsFor_spec (ok.over s t hs hst).1; obtain ⟨os, hos, e, he, hb, hon⟩ := this; have h5 := ok.back s os (by simpa using hos) e he hb; omega) (htgt s t hs hst hl') _ _ _ hG'⟩
          · intro j k hjk hlj hlk
            by_cases hji : j = i
            · subst hji
              simp only [if_true, Ne.symm hjk, if_false]
              exact .inr (inv.held k (hold k (Ne.symm hjk) hlk).1).2.2.1
            · by_cases hki : k = i
              · subst hki
                simp only [if_true, hji, if_false]
                exact .inl (inv.held j (hold j hji hlj).1).2.2.1
              · simp only [hji, hki, if_false]
                exact inv.apart j k hjk (hold j hji hlj).1 (hold k hki hlk).1
        | some t =>
          unfold Shows at hS
          rw [hov] at hS
          obtain ⟨hb, hG⟩ := hS
          obtain ⟨hwt, huni⟩ := ok.over i t hil hov
          have hlt : Live l ls (fun k => listed.getD k false) t := hlive t hwt (fun s hs h => huni s hs h)
          obtain ⟨t1, t2, t3, t4⟩ := inv.held t hlt
          have hne : ∀ j, j ≠ i → Live l ls (fun k => (listed.setIfInBounds i true).getD k false) j → j ≠ t := fun j hji hj e => (hold j hji hj).2 (e ▸ hov)
          refine wpAny_free ok hloc hlast hrun hend f (listed.setIfInBounds i true) (upd V i v) (fun j => if j = i then L t else L j) (fun j => if j = i then H t else H j) _ w' ⟨by simpa using hsz, hclosed, hact.symm, inv.below.trans ⟨hb.os, hb.tape, hb.output, hb.size, fun k hk => hb.block k (Nat.lt_of_lt_of_le hk inv.below.size) (fun h => by omega)⟩, ?_, ?_, ?_⟩ hcnt
          · intro j hj
            unfold heldAt
            by_cases hji : j = i
            · subst hji
              simp only [if_true]
              exact ⟨t1, t2, Nat.le_trans t3 hb.size, hG⟩
            · simp only [hji, if_false]
              have hlj := (hold j hji hj).1
              obtain ⟨h1, h2, h3, h4⟩ := inv.held j hlj
              have hap := inv.apart j t (hne j hji hj) hlj hlt
              exact ⟨h1, h2, Nat.le_trans h3 hb.size, hlast j hj.1 _ _ _ w w' inv.below.size h3 ⟨hb.size, fun b hb1 hb2 => hb.block b hb2 (fun hb3 => by rcases hb1 with hb1 | hb1 <;> rcases hap with h | h <;> omega)⟩ (hmv j hj.1 hlj.2.1 _ _ _ h4)⟩
          · intro s u hs hst hl
            rw [hgs s] at hl
            by_cases hsi : s = i
            · subst hsi
              obtain rfl : t = u := Option.some.inj (hov.symm.trans hst)
              have hti := hni t hlt.2.1
              simp only [hti, if_true, if_false]
              exact ⟨trivial, trivial, w, hmv t hlt.1 hlt.2.1 _ _ _ t4⟩
            · have hl' : listed.getD s false = true := by simpa [hsi] using hl
              have hti := hni u (htgt s u hs hst hl')
              obtain ⟨e1, e2, wo, hG'⟩ := inv.dead s u hs hst hl'
              simp only [hsi, hti, if_false]
              exact ⟨e1, e2, wo, hmv u (by have := Region.waitsFor_spec (ok.over s u hs hst).1; obtain ⟨os, hos, e, he, hb, hon⟩ := this; have h5 := ok.back s os (by simpa using hos) e he hb; omega) (htgt s u hs hst hl') _ _ _ hG'⟩
          · intro j k hjk hlj hlk
            by_cases hji : j = i
            · subst hji
              simp only [if_true, Ne.symm hjk, if_false]
              exact (inv.apart t k (Ne.symm (hne k (Ne.symm hjk) hlk)) hlt (hold k (Ne.symm hjk) hlk).1)
            · by_cases hki : k = i
              · subst hki
                simp only [if_true, hji, if_false]
                exact (inv.apart j t (hne j hji hlj) (hold j hji hlj).1 hlt)
              · simp only [hji, hki, if_false]
                exact inv.apart j k hjk (hold j hji hlj).1 (hold k hki hlk).1

/-- What is held of the operations in the list. -/
def heldOf (B : Nat) (Gs : Nat → Sp) (V : Nat → Value) (L H : Nat → Nat) (w : World) : List Nat → Prop
  | [] => True
  | j :: js => heldAt B Gs V L H w j ∧ heldOf B Gs V L H w js
theorem heldOf_of {B : Nat} {Gs : Nat → Sp} {V : Nat → Value} {L H : Nat → Nat} {w : World} : ∀ (js : List Nat), (∀ j ∈ js, heldAt B Gs V L H w j) → heldOf B Gs V L H w js
  | [], _ => trivial
  | j :: js, h => ⟨h j List.mem_cons_self, heldOf_of js fun k hk => h k (List.mem_cons_of_mem _ hk)⟩

/-- The whole walk: operation by operation; then what stands behind the region. -/
def free (P : Program) (ops : Array Oper) (Q : Exit → Act → World → Prop) (w0 : World) (Gs : Nat → Sp) (live : List Nat) (ls : List Line) : Nat → ((Nat → Value) → Act) → List Oper → List Line → Prop
  | _, A, [], [] => ∀ V L H w, Below w0.heap.size w0 w → heldOf w0.heap.size Gs V L H w live → (∀ i j, i ∈ live → j ∈ live → i ≠ j → H i ≤ L j ∨ H j ≤ L i) → (∀ s i, s < ls.length → ovOf ls s = some i → L s = L i ∧ H s = H i ∧ ∃ wo, Gs i V (L i) (H i) wo) → wpList P ops Q [] (A V) w
  | _, _, [], _ :: _ => False
  | _, _, _ :: _, [] => False
  | k, A, o :: l, (ds, none) :: dss => (∀ V L H w, Below w0.heap.size w0 w → heldOf w0.heap.size Gs V L H w ds → wpList P ops (FreePost Q (A V) o.dst (fun v w' => Below w.heap.size w w' ∧ Gs k (upd V k v) w.heap.size w'.heap.size w')) [o] (A V) w) ∧
      free P ops Q w0 Gs live ls (k + 1) (fun V => (A V).put o.dst (V k)) l dss
  | k, A, o :: l, (ds, some t) :: dss => (∀ V L H w, Below w0.heap.size w0 w → heldOf w0.heap.size Gs V L H w ds → wpList P ops (FreePost Q (A V) o.dst (fun v w' => Touches (L t) (H t) w w' ∧ Gs k (upd V k v) (L t) (H t) w')) [o] (A V) w) ∧
      free P ops Q w0 Gs live ls (k + 1) (fun V => (A V).put o.dst (V k)) l dss

theorem free_spec {ops : Array Oper} {Q : Exit → Act → World → Prop} {w0 : World} {Gs : Nat → Sp} {live : List Nat} {ls : List Line} {a0 : Act} : ∀ (dss pd : List Line) (l pre : List Oper) (A : (Nat → Value) → Act), pd.length = pre.length → (∀ V, A V = lexOf V 0 pre a0) →
    free P ops Q w0 Gs live ls pre.length A l dss →
    (∀ i o, l[i]? = some o → ∀ V L H w, Below w0.heap.size w0 w → heldOf w0.heap.size Gs V L H w (dss.getD i ([], none)).1 →
      wpList P ops (FreePost Q (lexOf V 0 (pre ++ l.take i) a0) o.dst (Shows (pd ++ dss) Gs V L H w (pre.length + i))) [o] (lexOf V 0 (pre ++ l.take i) a0) w) ∧
    (∀ V L H w, Below w0.heap.size w0 w → heldOf w0.heap.size Gs V L H w live → (∀ i j, i ∈ live → j ∈ live → i ≠ j → H i ≤ L j ∨ H j ≤ L i) → (∀ s i, s < ls.length → ovOf ls s = some i → L s = L i ∧ H s = H i ∧ ∃ wo, Gs i V (L i) (H i) wo) → wpList P ops Q [] (lexOf V 0 (pre ++ l) a0) w)
  | [], pd, [], pre, A, hp, hA, h => by
    refine ⟨fun i o hi => absurd hi (by simp), fun V L H w hb hh hd hx => ?_⟩
    unfold free at h
    have := h V L H w hb hh hd hx
    rw [hA] at this
    simpa using this
  | [], _, _ :: _, pre, A, hp, hA, h => by unfold free at h; exact h.elim
  | _ :: _, _, [], pre, A, hp, hA, h => by unfold free at h; exact h.elim
  | (ds, ov) :: dss, pd, o :: l, pre, A, hp, hA, h => by
    have hov : ovOf (pd ++ (ds, ov) :: dss) (pre.length + 0) = ov := by
      unfold ovOf
      rw [Nat.add_zero, ← hp, List.getD_eq_getElem?_getD, List.getElem?_append_right (Nat.le_refl _)]
      simp
    have hh2 : (∀ V L H w, Below w0.heap.size w0 w → heldOf w0.heap.size Gs V L H w ds → wpList P ops (FreePost Q (A V) o.dst (Shows (pd ++ (ds, ov) :: dss) Gs V L H w (pre.length + 0))) [o] (A V) w) ∧ free P ops Q w0 Gs live ls (pre.length + 1) (fun V => (A V).put o.dst (V pre.length)) l dss := by
      have hsh : ∀ V L H w, Shows (pd ++ (ds, ov) :: dss) Gs V L H w (pre.length + 0) = (fun v w' => match ov with
          | none => Below w.heap.size w w' ∧ Gs (pre.length + 0) (upd V (pre.length + 0) v) w.heap.size w'.heap.size w'
          | some t => Touches (L t) (H t) w w' ∧ Gs (pre.length + 0) (upd V (pre.length + 0) v) (L t) (H t) w') := fun V L H w => by
        funext v w'
        unfold Shows
        rw [hov]
        cases ov <;> rfl
      cases ov with
      | none => unfold free at h; exact ⟨fun V L H w hb hh => by rw [hsh]; exact h.1 V L H w hb hh, h.2⟩
      | some t => unfold free at h; exact ⟨fun V L H w hb hh => by rw [hsh]; exact h.1 V L H w hb hh, h.2⟩
    obtain ⟨h1, h2⟩ := hh2
    have ih := free_spec (a0 := a0) dss (pd ++ [(ds, ov)]) l (pre ++ [o]) (fun V => (A V).put o.dst (V pre.length)) (by simp [hp]) (fun V => by rw [hA V, lexOf_snoc, Nat.zero_add]) (by simpa using h2)
    refine ⟨fun i o' ho V L H w hb hh => ?_, fun V L H w hb hh hd hx => ?_⟩
    · cases i with
      | zero =>
        obtain rfl : o = o' := by simpa using ho
        have := h1 V L H w hb (by simpa using hh)
        rw [hA] at this
        simpa using this
      | succ i =>
        have := ih.1 i o' (by simpa using ho) V L H w hb (by simpa using hh)
        simpa [Nat.add_assoc, Nat.add_comm 1 i] using this
    · have := ih.2 V L H w hb hh hd hx
      simpa using this

theorem wp_region_free {id : Nat} {Q : Exit → Act → World → Prop} {a : Act} {w : World} {l : List Oper} (ls : List Line) (live : List Nat) (Gs : Nat → Sp) (hm : P.follows .mixedOrders = true)
    (hB : freeB l ls live = true) (hloc : Local ls Gs) (hlast : ∀ i, i < l.length → Lasts w.heap.size (Gs i))
    (h : free P l.toArray Q w Gs live ls 0 (fun _ => a) l ls) : (Code.region id l.toArray true).wp P Q a w := by
  have ok := freeOk hB
  obtain ⟨h1, h2⟩ := free_spec (a0 := a) ls [] l [] (fun _ => a) rfl (fun _ => rfl) h
  simp only [List.nil_append, List.length_nil, Nat.zero_add] at h1 h2
  refine wp_region_any hm ?_
  have hcount : (List.range l.length).countP (fun i => (Array.replicate l.toArray.size false).getD i true == false) = l.length := by
    rw [List.countP_eq_length.2, List.length_range]
    intro i hi
    have : i < l.length := List.mem_range.1 hi
    simp [this]
  have := wpAny_free (P := P) (Q := Q) (a0 := a) (w0 := w) (Gs := Gs) ok hloc hlast (fun i o ho V L H w' hb hd => h1 i o ho V L H w' hb (heldOf_of _ hd))
    (fun V L H w' hb hd hap hdead => by simpa [wpList] using h2 V L H w' hb (heldOf_of _ hd) hap (fun s i hs => hdead s i (ok.len ▸ hs)))
    _ (Array.replicate l.toArray.size false) (fun _ => undef) (fun _ => 0) (fun _ => 0) a { w with drawn := w.drawn + 1 }
    ⟨by simp, fun j oj _ hl => (by rw [getD_replicate_false] at hl; cases hl),
      (actOf_off _ _ _ fun m _ => getD_replicate_false _ _).symm, ⟨rfl, rfl, rfl, Nat.le_refl _, fun _ _ => rfl⟩, fun i hl => absurd hl.2.1 (by simp only [getD_replicate_false]; decide), fun s i _ _ hl => (by rw [getD_replicate_false] at hl; cases hl), fun i j _ hl => absurd hl.2.1 (by simp only [getD_replicate_false]; decide)⟩ hcount
  simpa using this
end
end Go.Proofs.YtjlcbbaicengbaaDoor
