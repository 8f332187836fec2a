/-
  The laws' own marks: the state of a list whose cells are being marked, one after the other.
-/
import Derived.Test.YtjlcbbaicengbaaDoorOwnAt
import Derived.Test.YtjlcbbaicengbaaDoorTSz
import Derived.Test.YtjlcbbaicengbaaDoorTInt
import Derived.Test.YtjlcbbaicengbaaDoorMarkText
namespace Go.Proofs.YtjlcbbaicengbaaDoor
open Go.ChangeShapes Go.WideShapes Go.ChangeAt Go.RowKit Go.Deep

/-- Of what was there only blocks of F may be written; new blocks may have come. -/
structure WritesF (F : Nat → Prop) (w w' : World) : Prop where
  os : w'.os = w.os
  tape : w'.tape = w.tape
  output : w'.output = w.output
  size : w.heap.size ≤ w'.heap.size
  block : ∀ b, b < w.heap.size → ¬ F b → w'.heap[b]? = w.heap[b]?
theorem WritesF.refl (F : Nat → Prop) (w : World) : WritesF F w w := ⟨rfl, rfl, rfl, Nat.le_refl _, fun _ _ _ => rfl⟩
theorem WritesF.trans {F : Nat → Prop} {a b c : World} (h : WritesF F a b) (k : WritesF F b c) : WritesF F a c :=
  ⟨k.os.trans h.os, k.tape.trans h.tape, k.output.trans h.output, Nat.le_trans h.size k.size, fun x hx hn => (k.block x (Nat.lt_of_lt_of_le hx h.size) hn).trans (h.block x hx hn)⟩
theorem WritesF.sub {F F' : Nat → Prop} {w w' : World} (h : WritesF F w w') (hF : ∀ x, F x → F' x) : WritesF F' w w' := ⟨h.os, h.tape, h.output, h.size, fun b hb hn => h.block b hb fun hf => hn (hF b hf)⟩
theorem WritesF.setCell {F : Nat → Prop} {a w : World} (h : WritesF F a w) {p : Addr} {u : Value} (hF : F p.block) : WritesF F a (w.setCell p u) :=
  h.trans ⟨rfl, rfl, rfl, by simp [World.setCell], fun b _ hn => Below.heap_setCell _ _ _ _ (fun e => hn (e ▸ hF))⟩
theorem WritesF.later {F : Nat → Prop} {a w w' : World} (h : WritesF F a w) (hb : Below w.heap.size w w') : WritesF F a w' :=
  h.trans ⟨hb.os, hb.tape, hb.output, hb.size, fun b h' _ => hb.block b h'⟩
theorem WritesF.below {F : Nat → Prop} {B : Nat} {w w' : World} (h : WritesF F w w') (hF : ∀ x, F x → B ≤ x) (hB : B ≤ w.heap.size) : Below B w w' :=
  ⟨h.os, h.tape, h.output, h.size, fun k hk => h.block k (by omega) (fun hf => by have := hF k hf; omega)⟩
theorem WritesF.of_below {F : Nat → Prop} {a w w' : World} (h : WritesF F w w') (hb : Below a.heap.size a w) : WritesF F a w' :=
  ⟨h.os.trans hb.os, h.tape.trans hb.tape, h.output.trans hb.output, Nat.le_trans hb.size h.size, fun b hb' hn => (h.block b (Nat.lt_of_lt_of_le hb' hb.size) hn).trans (hb.block b hb')⟩
theorem WritesF.kept {F G : Nat → Prop} {w w' : World} (h : WritesF F w w') (hd : ∀ x, G x → ¬ F x) : Kept G w w' := ⟨h.size, fun b hb hs => h.block b hs (hd b hb)⟩

/-- A slice of its own. -/
theorem own_sl {w : World} {F : Nat → Prop} {n len : Nat} {f : Nat → Nat → Ct} {v : Value} (h : Own w F (.sl n len f) v) : ∃ a cap, v = .slice a len cap ∧ Own w F (.sl n len f) (.slice a len cap) := by
  cases h with
  | nil F n f a cap => exact ⟨a, cap, rfl, .nil _ _ _ _ _⟩
  | row F n len f b off cap u G hF hb hc hz hl hG hd => exact ⟨_, cap, rfl, .row F n len f b off cap u G hF hb hc hz hl hG hd⟩

theorem slot_ne {n t c t' c' off : Nat} (hc : c < n) (hc' : c' < n) (h : ¬ (t = t' ∧ c = c')) : off + t * n + c ≠ off + t' * n + c' := by
  intro e
  rcases Nat.lt_trichotomy t t' with h1 | h1 | h1
  · have h2 : (t + 1) * n ≤ t' * n := Nat.mul_le_mul_right n h1
    rw [Nat.succ_mul] at h2
    omega
  · subst h1; exact h ⟨rfl, by omega⟩
  · have h2 : (t' + 1) * n ≤ t * n := Nat.mul_le_mul_right n h1
    rw [Nat.succ_mul] at h2
    omega

/-- Of a list in block b, the cells ahead of cell c0 of row t0 are marked; the others are as they were. -/
structure MarkSt (F : Nat → Prop) (n len b off : Nat) (f : Nat → Nat → Ct) (u : Nat → Nat → Value) (G : Nat → Nat → Nat → Prop) (m : Nat → Nat → Option Value) (w0 : World) (t0 c0 : Nat) (w : World) : Prop where
  size : b < w.heap.size
  writes : WritesF F w0 w
  cell : ∀ t, t < len → ∀ c, c < n → (t0 < t ∨ (t = t0 ∧ c0 ≤ c)) → w.cell? ⟨b, off + t * n + c, none⟩ = some (u t c)
  done : ∀ t, t < len → ∀ c, c < n → (t < t0 ∨ (t = t0 ∧ c < c0)) → ∀ v, m t c = some v → w.cell? ⟨b, off + t * n + c, none⟩ = some v
  frozen : ∀ o, w.frozen? ⟨b, o, none⟩ = false
  own : ∀ t, t < len → ∀ c, c < n → (t0 < t ∨ (t = t0 ∧ c0 ≤ c)) → Own w (G t c) (f t c) (u t c)

/-- What does not change while a list is marked. -/
structure MarkOf (F : Nat → Prop) (n len b : Nat) (G : Nat → Nat → Nat → Prop) : Prop where
  mem : F b
  sub : ∀ t, t < len → ∀ c, c < n → ∀ x, G t c x → F x ∧ x ≠ b
  dis : ∀ k, k < len → ∀ j, j < n → ∀ k', k' < len → ∀ j', j' < n → ∀ x, G k j x → G k' j' x → k = k' ∧ j = j'

theorem mark_start {w : World} {F : Nat → Prop} {n len cap : Nat} {f : Nat → Nat → Ct} {a : Option Addr} (m : Nat → Nat → Option Value) (h : Own w F (.sl n len f) (.slice a len cap)) :
    len = 0 ∨ ∃ b off u G, a = some ⟨b, off, none⟩ ∧ MarkOf F n len b G ∧ MarkSt F n len b off f u G m w 0 0 w := by
  cases h with
  | nil => exact Or.inl rfl
  | row F n len f b off cap u G hF hb hc hz hl hG hd =>
    exact Or.inr ⟨b, off, u, G, rfl, ⟨hF, hG, hd⟩, ⟨hb, WritesF.refl _ _, fun t ht c hc' _ => hc t ht c hc', fun t _ c _ h => absurd h (by omega), hz, fun t ht c hc' _ => hl t ht c hc'⟩⟩

section
variable {F : Nat → Prop} {n len b off : Nat} {f : Nat → Nat → Ct} {u : Nat → Nat → Value} {G : Nat → Nat → Nat → Prop} {m : Nat → Nat → Option Value} {w0 w : World} {t0 c0 : Nat}
theorem MarkSt.set (o : MarkOf F n len b G) (h : MarkSt F n len b off f u G m w0 t0 c0 w) (ht : t0 < len) (hc : c0 < n) (v : Value) (hv : ∀ z, m t0 c0 = some z → z = v) : MarkSt F n len b off f u G m w0 t0 (c0 + 1) (w.setCell ⟨b, off + t0 * n + c0, none⟩ v) where
  size := by simpa [World.setCell] using h.size
  writes := h.writes.setCell o.mem
  cell := fun t ht' c hc' hp => (World.cell?_setCell_other _ ⟨b, off + t0 * n + c0, none⟩ ⟨b, off + t * n + c, none⟩ _ (fun e => slot_ne (off := off) (t := t) (c := c) (t' := t0) (c' := c0) hc' hc (by omega) (by have := congrArg Addr.off e; simp only at this; omega))).trans (h.cell t ht' c hc' (by omega))
  done := fun t ht' c hc' hp z hz => by
    by_cases hh : t = t0 ∧ c = c0
    · obtain ⟨rfl, rfl⟩ := hh
      rw [hv z hz]
      exact World.cell?_setCell_same _ _ _ (h.cell t ht' c hc' (Or.inr ⟨rfl, Nat.le_refl _⟩))
    · exact (World.cell?_setCell_other _ ⟨b, off + t0 * n + c0, none⟩ ⟨b, off + t * n + c, none⟩ _ (fun e => slot_ne (off := off) (t := t) (c := c) (t' := t0) (c' := c0) hc' hc hh (by have := congrArg Addr.off e; simp only at this; omega))).trans (h.done t ht' c hc' (by omega) z hz)
  frozen := fun o => by rw [World.frozen?_setCell]; exact h.frozen o
  own := fun t ht' c hc' hp => (h.own t ht' c hc' (by omega)).kept (Kept.setCell fun hx => (o.sub t ht' c hc' _ hx).2 rfl)
theorem MarkSt.below (h : MarkSt F n len b off f u G m w0 t0 c0 w) {w' : World} (hb : Below w.heap.size w w') : MarkSt F n len b off f u G m w0 t0 c0 w' where
  size := Nat.lt_of_lt_of_le h.size hb.size
  writes := h.writes.later hb
  cell := fun t ht c hc hp => (hb.cell (p := ⟨b, off + t * n + c, none⟩) h.size).trans (h.cell t ht c hc hp)
  done := fun t ht c hc hp z hz => (hb.cell (p := ⟨b, off + t * n + c, none⟩) h.size).trans (h.done t ht c hc hp z hz)
  frozen := fun o => (hb.frozen (p := ⟨b, o, none⟩) h.size).trans (h.frozen o)
  own := fun t ht c hc hp => (h.own t ht c hc hp).kept (Kept.of_below_all hb)
theorem MarkSt.call (o : MarkOf F n len b G) (h : MarkSt F n len b off f u G m w0 t0 c0 w) (ht : t0 < len) (hc : c0 < n) (hm : m t0 c0 = none) {w' : World} (hw : WritesF (G t0 c0) w w') : MarkSt F n len b off f u G m w0 t0 (c0 + 1) w' where
  size := Nat.lt_of_lt_of_le h.size hw.size
  writes := h.writes.trans (hw.sub fun x hx => (o.sub t0 ht c0 hc x hx).1)
  cell := fun t ht' c hc' hp => (World.cell?_of_block (a := ⟨b, off + t * n + c, none⟩) (hw.block b h.size (fun hx => (o.sub t0 ht c0 hc _ hx).2 rfl))).trans (h.cell t ht' c hc' (by omega))
  done := fun t ht' c hc' hp z hz => by
    by_cases hh : t = t0 ∧ c = c0
    · obtain ⟨rfl, rfl⟩ := hh; rw [hm] at hz; cases hz
    · exact (World.cell?_of_block (a := ⟨b, off + t * n + c, none⟩) (hw.block b h.size (fun hx => (o.sub t0 ht c0 hc _ hx).2 rfl))).trans (h.done t ht' c hc' (by omega) z hz)
  frozen := fun o' => (World.frozen?_of_block (a := ⟨b, o', none⟩) (hw.block b h.size (fun hx => (o.sub t0 ht c0 hc _ hx).2 rfl))).trans (h.frozen o')
  own := fun t ht' c hc' hp => (h.own t ht' c hc' (by omega)).kept (hw.kept fun x hx hy => by
    have := o.dis t ht' c hc' t0 ht c0 hc x hx hy
    omega)
theorem MarkSt.next (h : MarkSt F n len b off f u G m w0 t0 c0 w) (hc : c0 = n) : MarkSt F n len b off f u G m w0 (t0 + 1) 0 w where
  size := h.size
  writes := h.writes
  cell := fun t ht c hc' hp => h.cell t ht c hc' (by omega)
  done := fun t ht c hc' hp => h.done t ht c hc' (by omega)
  frozen := h.frozen
  own := fun t ht c hc' hp => h.own t ht c hc' (by omega)
/-- All is marked: the list holds the marks. -/
theorem MarkSt.marked (o : MarkOf F n len b G) (h : MarkSt F n len b off f u G m w0 len 0 w) (cap : Nat) {v : Nat → Nat → Value} (hm : ∀ t, t < len → ∀ c, c < n → m t c = some (v t c)) : Own w F (.sl n len fun t c => .lit (v t c)) (.slice (some ⟨b, off, none⟩) len cap) :=
  .row F n len _ b off cap v (fun _ _ _ => False) o.mem h.size (fun t ht c hc => h.done t ht c hc (Or.inl ht) _ (hm t ht c hc)) h.frozen (fun _ _ _ _ => .lit _ _) (fun _ _ _ _ _ hx => hx.elim) (fun _ _ _ _ _ _ _ _ _ hx => hx.elim)
end

theorem MarkSt.set1 {F : Nat → Prop} {len b off : Nat} {f : Nat → Nat → Ct} {u : Nat → Nat → Value} {G : Nat → Nat → Nat → Prop} {m : Nat → Nat → Option Value} {w0 w : World} {t0 : Nat} (o : MarkOf F 1 len b G) (h : MarkSt F 1 len b off f u G m w0 t0 0 w) (ht : t0 < len) (v : Value) (hv : ∀ z, m t0 0 = some z → z = v) : MarkSt F 1 len b off f u G m w0 t0 1 (w.setCell ⟨b, off + t0, none⟩ v) := by
  have h9 := h.set o ht (by decide) v hv
  rw [Nat.mul_one, Nat.add_zero] at h9
  exact h9

/-- A list of plain rows of its own: an empty one, or a block with these values. -/
theorem own_flat {w : World} {F : Nat → Prop} {n len cap : Nat} {v : Nat → Nat → Value} {a : Option Addr} (h : Own w F (.sl n len fun t c => .lit (v t c)) (.slice a len cap)) :
    len = 0 ∨ ∃ b off, a = some ⟨b, off, none⟩ ∧ b < w.heap.size ∧ (∀ t, t < len → ∀ c, c < n → w.cell? ⟨b, off + t * n + c, none⟩ = some (v t c)) := by
  cases h with
  | nil => exact Or.inl rfl
  | row F n len f b off cap u G hF hb hc hz hl hG hd =>
    refine Or.inr ⟨b, off, rfl, hb, fun t ht c hc' => ?_⟩
    have h1 := hl t ht c hc'
    generalize hu : u t c = z at h1
    cases h1
    rw [← hu]
    exact hc t ht c hc'
end Go.Proofs.YtjlcbbaicengbaaDoor
