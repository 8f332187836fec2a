/-
  The laws' own marks: the state of a list whose cells are being marked, one after the other.
  The marks of lists of numbers.
  The marks of a relation.
  The marks of Expr.
  The marks of Contribution.
  The marks of Equation.
  The marks of Str.
  The marks of Rule.
  The marks of Attribute.
  The marks of Symbol.
  The marks of Grammar.
-/
import Derived.Test.YtnmepemmpeboeaaGreatZz1
import Derived.Test.YtnmepemmpeboeaaGreatZz2
import Derived.Test.YtnmepemmpeboeaaGreatZz6
import Derived.Test.YtnmepemmpeboeaaGreatZz5
import Derived.Test.YtnmepemmpeboeaaGreatZz4
import Derived.WalkSpells
import Derived.WalkSmall
import Derived.WalkLawsBesides
import Derived.SliceStrings
import Derived.Deep.QuietTactic
import Derived.Deep.RegionWith
import Derived.BigQuiet
import Derived.Outline
import Derived.Laws.Rows
import Derived.Test.YtnmepemmpeboeaaGreatZz7
namespace Go.Proofs.YtnmepemmpeboeaaGreat
open Go.ChangeShapes Go.WideShapes Go.ChangeAt Go.RowKit Go.Deep

/-- Of what was there only blocks of F may be written; new blocks may have come. -/
structure WritesF (F : Nat → Prop) (w w' : World) : Prop where
  os : w'.os = w.os
  tape : w'.tape = w.tape
  output : w'.output = w.output
  size : w.heap.size ≤ w'.heap.size
  block : ∀ b, b < w.heap.size → ¬ F b → w'.heap[b]? = w.heap[b]?
theorem WritesF.refl (F : Nat → Prop) (w : World) : WritesF F w w := ⟨rfl, rfl, rfl, Nat.le_refl _, fun _ _ _ => rfl⟩
theorem WritesF.trans {F : Nat → Prop} {a b c : World} (h : WritesF F a b) (k : WritesF F b c) : WritesF F a c :=
  ⟨k.os.trans h.os, k.tape.trans h.tape, k.output.trans h.output, Nat.le_trans h.size k.size, fun x hx hn => (k.block x (Nat.lt_of_lt_of_le hx h.size) hn).trans (h.block x hx hn)⟩
theorem WritesF.sub {F F' : Nat → Prop} {w w' : World} (h : WritesF F w w') (hF : ∀ x, F x → F' x) : WritesF F' w w' := ⟨h.os, h.tape, h.output, h.size, fun b hb hn => h.block b hb fun hf => hn (hF b hf)⟩
theorem WritesF.setCell {F : Nat → Prop} {a w : World} (h : WritesF F a w) {p : Addr} {u : Value} (hF : F p.block) : WritesF F a (w.setCell p u) :=
  h.trans ⟨rfl, rfl, rfl, by simp [World.setCell], fun b _ hn => Below.heap_setCell _ _ _ _ (fun e => hn (e ▸ hF))⟩
theorem WritesF.later {F : Nat → Prop} {a w w' : World} (h : WritesF F a w) (hb : Below w.heap.size w w') : WritesF F a w' :=
  h.trans ⟨hb.os, hb.tape, hb.output, hb.size, fun b h' _ => hb.block b h'⟩
theorem WritesF.below {F : Nat → Prop} {B : Nat} {w w' : World} (h : WritesF F w w') (hF : ∀ x, F x → B ≤ x) (hB : B ≤ w.heap.size) : Below B w w' :=
  ⟨h.os, h.tape, h.output, h.size, fun k hk => h.block k (by omega) (fun hf => by have := hF k hf; omega)⟩
theorem WritesF.of_below {F : Nat → Prop} {a w w' : World} (h : WritesF F w w') (hb : Below a.heap.size a w) : WritesF F a w' :=
  ⟨h.os.trans hb.os, h.tape.trans hb.tape, h.output.trans hb.output, Nat.le_trans hb.size h.size, fun b hb' hn => (h.block b (Nat.lt_of_lt_of_le hb' hb.size) hn).trans (hb.block b hb')⟩
theorem WritesF.kept {F G : Nat → Prop} {w w' : World} (h : WritesF F w w') (hd : ∀ x, G x → ¬ F x) : Kept G w w' := ⟨h.size, fun b hb hs => h.block b hs (hd b hb)⟩

/-- A slice of its own. -/
theorem own_sl {w : World} {F : Nat → Prop} {n len : Nat} {f : Nat → Nat → Ct} {v : Value} (h : Own w F (.sl n len f) v) : ∃ a cap, v = .slice a len cap ∧ Own w F (.sl n len f) (.slice a len cap) := by
  cases h with
  | nil F n f a cap => exact ⟨a, cap, rfl, .nil _ _ _ _ _⟩
  | row F n len f b off cap u G hF hb hc hz hl hG hd => exact ⟨_, cap, rfl, .row F n len f b off cap u G hF hb hc hz hl hG hd⟩

theorem slot_ne {n t c t' c' off : Nat} (hc : c < n) (hc' : c' < n) (h : ¬ (t = t' ∧ c = c')) : off + t * n + c ≠ off + t' * n + c' := by
  intro e
  rcases Nat.lt_trichotomy t t' with h1 | h1 | h1
  · have h2 : (t + 1) * n ≤ t' * n := Nat.mul_le_mul_right n h1
    rw [Nat.succ_mul] at h2
    omega
  · subst h1; exact h ⟨rfl, by omega⟩
  · have h2 : (t' + 1) * n ≤ t * n := Nat.mul_le_mul_right n h1
    rw [Nat.succ_mul] at h2
    omega

/-- Of a list in block b, the cells ahead of cell c0 of row t0 are marked; the others are as they were. -/
structure MarkSt (F : Nat → Prop) (n len b off : Nat) (f : Nat → Nat → Ct) (u : Nat → Nat → Value) (G : Nat → Nat → Nat → Prop) (m : Nat → Nat → Option Value) (w0 : World) (t0 c0 : Nat) (w : World) : Prop where
  size : b < w.heap.size
  writes : WritesF F w0 w
  cell : ∀ t, t < len → ∀ c, c < n → (t0 < t ∨ (t = t0 ∧ c0 ≤ c)) → w.cell? ⟨b, off + t * n + c, none⟩ = some (u t c)
  done : ∀ t, t < len → ∀ c, c < n → (t < t0 ∨ (t = t0 ∧ c < c0)) → ∀ v, m t c = some v → w.cell? ⟨b, off + t * n + c, none⟩ = some v
  frozen : ∀ o, w.frozen? ⟨b, o, none⟩ = false
  own : ∀ t, t < len → ∀ c, c < n → (t0 < t ∨ (t = t0 ∧ c0 ≤ c)) → Own w (G t c) (f t c) (u t c)

/-- What does not change while a list is marked. -/
structure MarkOf (F : Nat → Prop) (n len b : Nat) (G : Nat → Nat → Nat → Prop) : Prop where
  mem : F b
  sub : ∀ t, t < len → ∀ c, c < n → ∀ x, G t c x → F x ∧ x ≠ b
  dis : ∀ k, k < len → ∀ j, j < n → ∀ k', k' < len → ∀ j', j' < n → ∀ x, G k j x → G k' j' x → k = k' ∧ j = j'

theorem mark_start {w : World} {F : Nat → Prop} {n len cap : Nat} {f : Nat → Nat → Ct} {a : Option Addr} (m : Nat → Nat → Option Value) (h : Own w F (.sl n len f) (.slice a len cap)) :
    len = 0 ∨ ∃ b off u G, a = some ⟨b, off, none⟩ ∧ MarkOf F n len b G ∧ MarkSt F n len b off f u G m w 0 0 w := by
  cases h with
  | nil => exact Or.inl rfl
  | row F n len f b off cap u G hF hb hc hz hl hG hd =>
    exact Or.inr ⟨b, off, u, G, rfl, ⟨hF, hG, hd⟩, ⟨hb, WritesF.refl _ _, fun t ht c hc' _ => hc t ht c hc', fun t _ c _ h => absurd h (by omega), hz, fun t ht c hc' _ => hl t ht c hc'⟩⟩

section
variable {F : Nat → Prop} {n len b off : Nat} {f : Nat → Nat → Ct} {u : Nat → Nat → Value} {G : Nat → Nat → Nat → Prop} {m : Nat → Nat → Option Value} {w0 w : World} {t0 c0 : Nat}
theorem MarkSt.set (o : MarkOf F n len b G) (h : MarkSt F n len b off f u G m w0 t0 c0 w) (ht : t0 < len) (hc : c0 < n) (v : Value) (hv : ∀ z, m t0 c0 = some z → z = v) : MarkSt F n len b off f u G m w0 t0 (c0 + 1) (w.setCell ⟨b, off + t0 * n + c0, none⟩ v) where
  size := by simpa [World.setCell] using h.size
  writes := h.writes.setCell o.mem
  cell := fun t ht' c hc' hp => (World.cell?_setCell_other _ ⟨b, off + t0 * n + c0, none⟩ ⟨b, off + t * n + c, none⟩ _ (fun e => slot_ne (off := off) (t := t) (c := c) (t' := t0) (c' := c0) hc' hc (by omega) (by have := congrArg Addr.off e; simp only at this; omega))).trans (h.cell t ht' c hc' (by omega))
  done := fun t ht' c hc' hp z hz => by
    by_cases hh : t = t0 ∧ c = c0
    · obtain ⟨rfl, rfl⟩ := hh
      rw [hv z hz]
      exact World.cell?_setCell_same _ _ _ (h.cell t ht' c hc' (Or.inr ⟨rfl, Nat.le_refl _⟩))
    · exact (World.cell?_setCell_other _ ⟨b, off + t0 * n + c0, none⟩ ⟨b, off + t * n + c, none⟩ _ (fun e => slot_ne (off := off) (t := t) (c := c) (t' := t0) (c' := c0) hc' hc hh (by have := congrArg Addr.off e; simp only at this; omega))).trans (h.done t ht' c hc' (by omega) z hz)
  frozen := fun o => by rw [World.frozen?_setCell]; exact h.frozen o
  own := fun t ht' c hc' hp => (h.own t ht' c hc' (by omega)).kept (Kept.setCell fun hx => (o.sub t ht' c hc' _ hx).2 rfl)
theorem MarkSt.below (h : MarkSt F n len b off f u G m w0 t0 c0 w) {w' : World} (hb : Below w.heap.size w w') : MarkSt F n len b off f u G m w0 t0 c0 w' where
  size := Nat.lt_of_lt_of_le h.size hb.size
  writes := h.writes.later hb
  cell := fun t ht c hc hp => (hb.cell (p := ⟨b, off + t * n + c, none⟩) h.size).trans (h.cell t ht c hc hp)
  done := fun t ht c hc hp z hz => (hb.cell (p := ⟨b, off + t * n + c, none⟩) h.size).trans (h.done t ht c hc hp z hz)
  frozen := fun o => (hb.frozen (p := ⟨b, o, none⟩) h.size).trans (h.frozen o)
  own := fun t ht c hc hp => (h.own t ht c hc hp).kept (Kept.of_below_all hb)
theorem MarkSt.call (o : MarkOf F n len b G) (h : MarkSt F n len b off f u G m w0 t0 c0 w) (ht : t0 < len) (hc : c0 < n) (hm : m t0 c0 = none) {w' : World} (hw : WritesF (G t0 c0) w w') : MarkSt F n len b off f u G m w0 t0 (c0 + 1) w' where
  size := Nat.lt_of_lt_of_le h.size hw.size
  writes := h.writes.trans (hw.sub fun x hx => (o.sub t0 ht c0 hc x hx).1)
  cell := fun t ht' c hc' hp => (World.cell?_of_block (a := ⟨b, off + t * n + c, none⟩) (hw.block b h.size (fun hx => (o.sub t0 ht c0 hc _ hx).2 rfl))).trans (h.cell t ht' c hc' (by omega))
  done := fun t ht' c hc' hp z hz => by
    by_cases hh : t = t0 ∧ c = c0
    · obtain ⟨rfl, rfl⟩ := hh; rw [hm] at hz; cases hz
    · exact (World.cell?_of_block (a := ⟨b, off + t * n + c, none⟩) (hw.block b h.size (fun hx => (o.sub t0 ht c0 hc _ hx).2 rfl))).trans (h.done t ht' c hc' (by omega) z hz)
  frozen := fun o' => (World.frozen?_of_block (a := ⟨b, o', none⟩) (hw.block b h.size (fun hx => (o.sub t0 ht c0 hc _ hx).2 rfl))).trans (h.frozen o')
  own := fun t ht' c hc' hp => (h.own t ht' c hc' (by omega)).kept (hw.kept fun x hx hy => by
    have := o.dis t ht' c hc' t0 ht c0 hc x hx hy
    omega)
theorem MarkSt.next (h : MarkSt F n len b off f u G m w0 t0 c0 w) (hc : c0 = n) : MarkSt F n len b off f u G m w0 (t0 + 1) 0 w where
  size := h.size
  writes := h.writes
  cell := fun t ht c hc' hp => h.cell t ht c hc' (by omega)
  done := fun t ht c hc' hp => h.done t ht c hc' (by omega)
  frozen := h.frozen
  own := fun t ht c hc' hp => h.own t ht c hc' (by omega)
/-- All is marked: the list holds the marks. -/
theorem MarkSt.marked (o : MarkOf F n len b G) (h : MarkSt F n len b off f u G m w0 len 0 w) (cap : Nat) {v : Nat → Nat → Value} (hm : ∀ t, t < len → ∀ c, c < n → m t c = some (v t c)) : Own w F (.sl n len fun t c => .lit (v t c)) (.slice (some ⟨b, off, none⟩) len cap) :=
  .row F n len _ b off cap v (fun _ _ _ => False) o.mem h.size (fun t ht c hc => h.done t ht c hc (Or.inl ht) _ (hm t ht c hc)) h.frozen (fun _ _ _ _ => .lit _ _) (fun _ _ _ _ _ hx => hx.elim) (fun _ _ _ _ _ _ _ _ _ hx => hx.elim)
end

theorem MarkSt.set1 {F : Nat → Prop} {len b off : Nat} {f : Nat → Nat → Ct} {u : Nat → Nat → Value} {G : Nat → Nat → Nat → Prop} {m : Nat → Nat → Option Value} {w0 w : World} {t0 : Nat} (o : MarkOf F 1 len b G) (h : MarkSt F 1 len b off f u G m w0 t0 0 w) (ht : t0 < len) (v : Value) (hv : ∀ z, m t0 0 = some z → z = v) : MarkSt F 1 len b off f u G m w0 t0 1 (w.setCell ⟨b, off + t0, none⟩ v) := by
  have h9 := h.set o ht (by decide) v hv
  rw [Nat.mul_one, Nat.add_zero] at h9
  exact h9

theorem markTextI (z : Int) (h0 : 1 ≤ z) (h1 : z ≤ 9223372036854775807) (w : World) :
    Calls Tryz.prog 80 #[.int .i64 z] w fun e w' => e = .returned (.string (mk z.toNat)) ∧ Below w.heap.size w w' := by
  obtain ⟨n, rfl⟩ : ∃ n : Nat, z = n := ⟨z.toNat, by omega⟩
  rw [Int.toNat_natCast]
  exact markText n (by omega) (by omega) w
theorem lsz_pos {α : Type} (f : α → Nat) (l : List α) : l.length ≤ lsz f l := by unfold lsz; omega
end Go.Proofs.YtnmepemmpeboeaaGreat
namespace Go.Proofs.YtnmepemmpeboeaaGreat
open Go.ChangeShapes Go.WideShapes Go.ChangeAt Go.RowKit Go.Deep

/-- A list of numbers of its own: an empty one, or a block. -/
theorem own_ints {w : World} {F : Nat → Prop} {len cap : Nat} {f : Nat → Nat → Ct} {a : Option Addr} (h : Own w F (.sl 1 len f) (.slice a len cap)) (hf : ∀ k, k < len → ∃ v, f k 0 = .lit v) :
    len = 0 ∨ ∃ b off, a = some ⟨b, off, none⟩ ∧ F b ∧ b < w.heap.size ∧ (∀ k, k < len → ∃ v, f k 0 = .lit v ∧ w.cell? ⟨b, off + k, none⟩ = some v) ∧ ∀ o, w.frozen? ⟨b, o, none⟩ = false := by
  cases h with
  | nil => exact Or.inl rfl
  | row F n len f b off cap u G hF hb hc hz hl hG hd =>
    refine Or.inr ⟨b, off, rfl, hF, hb, fun k hk => ?_, hz⟩
    obtain ⟨v, hv⟩ := hf k hk
    have h1 := hl k hk 0 (by decide)
    have h2 := hc k hk 0 (by decide)
    rw [Nat.mul_one, Nat.add_zero] at h2
    rw [hv] at h1
    have h3 : u k 0 = v := by
      generalize u k 0 = z at h1
      cases h1
      rfl
    exact ⟨v, hv, by rw [h2, h3]⟩
theorem ints_own {w : World} {F : Nat → Prop} {len cap : Nat} {f : Nat → Nat → Ct} {b off : Nat} (hF : F b) (hb : b < w.heap.size) (hc : ∀ k, k < len → ∃ v, f k 0 = .lit v ∧ w.cell? ⟨b, off + k, none⟩ = some v) (hz : ∀ o, w.frozen? ⟨b, o, none⟩ = false) :
    Own w F (.sl 1 len f) (.slice (some ⟨b, off, none⟩) len cap) := by
  classical
  refine .row F 1 len f b off cap (fun k _ => if hk : k < len then Classical.choose (hc k hk) else .nilFunc) (fun _ _ _ => False) hF hb (fun k hk j hj => ?_) hz (fun k hk j hj => ?_) (fun _ _ _ _ _ hx => hx.elim) (fun _ _ _ _ _ _ _ _ _ hx => hx.elim)
  · obtain rfl : j = 0 := by omega
    simp only [dif_pos hk]
    rw [Nat.mul_one, Nat.add_zero]
    exact (Classical.choose_spec (hc k hk)).2
  · obtain rfl : j = 0 := by omega
    simp only [dif_pos hk]
    have e := (Classical.choose_spec (hc k hk)).1
    generalize Classical.choose (hc k hk) = v at e ⊢
    rw [e]
    exact .lit _ _

/-- The marks from number k on. -/
def mkI (k : Nat) : Nat → Nat → Ct := fun i _ => .lit (.int .i64 ((k + i : Nat) : Int))

set_option maxHeartbeats 1600000 in
set_option maxRecDepth 100000 in
theorem laws_markIntS {F : Nat → Prop} {a : Option Addr} {cap : Nat} (l : List Int) (hn : l.length ≤ 1099511627776) (k : Nat) (hk : k ≤ 4611686018427387904) (w : World) (ho : Own w F (.sl 1 l.length (fun i => ictI (l.getD i default))) (.slice a l.length cap)) :
    Calls Tryz.prog 50 #[.slice a l.length cap, .int .i64 (k : Int)] w fun e w' => e = .returned (.int .i64 ((k + l.length : Nat) : Int)) ∧ Own w' F (.sl 1 l.length (mkI k)) (.slice a l.length cap) ∧ WritesF F w w' := by
  rcases own_ints ho (fun k _ => ⟨_, rfl⟩) with h0 | ⟨b, off, rfl, hF, hb, hc, hz⟩
  · have HL := Lib.hid h0
    clear ho
    generalize l.length = n at *
    obtain rfl : n = 0 := HL.out
    go_enter Tryz.func50, Tryz.ntmps50
    go_wp2
    go_loop [1, 5] (fun q i => q = .int .i64 (k : Int) ∧ i = .int .i64 0) (fun _ _ => 0)
    case atStart => exact ⟨rfl, rfl⟩
    case round =>
      obtain ⟨rfl, rfl⟩ := hrel
      go_wp2
      go_ret
      exact ⟨rfl, .nil _ _ _ _ _, WritesF.refl _ _⟩
  · have HC := Lib.hid hc
    have HZ := Lib.hid hz
    clear ho hc hz
    go_enter Tryz.func50, Tryz.ntmps50
    go_wp2
    go_loopw [1, 5] (fun q i wr => ∃ j : Nat, j ≤ l.length ∧ i = .int .i64 (j : Int) ∧ q = .int .i64 ((k + j : Nat) : Int) ∧ b < wr.heap.size ∧ (∀ t, t < l.length → ∃ v, wr.cell? ⟨b, off + t, none⟩ = some v) ∧ (∀ t, t < j → wr.cell? ⟨b, off + t, none⟩ = some (.int .i64 ((k + t : Nat) : Int))) ∧ (∀ o, wr.frozen? ⟨b, o, none⟩ = false) ∧ WritesF F w wr) (fun _ i _ => l.length - (intOf i).toNat)
    case atStart => exact ⟨0, Nat.zero_le _, rfl, by go_num, hb, fun t ht => by obtain ⟨v, _, hv⟩ := HC.out t ht; exact ⟨v, hv⟩, fun t ht => absurd ht (Nat.not_lt_zero _), HZ.out, WritesF.refl _ _⟩
    case round =>
      obtain ⟨j, hj, rfl, rfl, hbr, hall, hdone, hfree, hwr⟩ := hrel
      have HALL := Lib.hid hall
      have HDONE := Lib.hid hdone
      have HFREE := Lib.hid hfree
      have HWR := Lib.hid hwr
      clear hall hdone hfree hwr
      by_cases hlt : j < l.length
      · obtain ⟨v, hv⟩ := HALL.out j hlt
        have hfz := HFREE.out (off + j)
        generalize hkj : k + j = q
        have HQ := Lib.hid hkj
        have hq2 : q ≤ 4611687118427387904 := by have := HQ.out; omega
        clear hkj
        go_wp2
        go_roundw
        case rel =>
          have hq := HQ.out
          refine ⟨j + 1, by omega, by go_num, by rw [← Nat.add_assoc, hq]; go_num, by simpa [World.setCell] using hbr, fun t ht => ?_, fun t ht => ?_, fun o => by rw [World.frozen?_setCell]; exact HFREE.out o, HWR.out.setCell hF⟩
          · by_cases htj : t = j
            · subst htj; exact ⟨_, World.cell?_setCell_same _ _ _ hv⟩
            · obtain ⟨s, hs⟩ := HALL.out t ht
              exact ⟨s, (World.cell?_setCell_other _ ⟨b, off + j, none⟩ ⟨b, off + t, none⟩ _ (fun e => by have := congrArg Addr.off e; simp only at this; omega)).trans hs⟩
          · by_cases htj : t = j
            · subst htj; rw [hq]; exact World.cell?_setCell_same _ _ _ hv
            · exact (World.cell?_setCell_other _ ⟨b, off + j, none⟩ ⟨b, off + t, none⟩ _ (fun e => by have := congrArg Addr.off e; simp only at this; omega)).trans (HDONE.out t (by omega))
        case measure => simp [intOf]; omega
      · obtain rfl : j = l.length := by omega
        go_wp2
        go_ret
        exact ⟨rfl, ints_own hF hbr (fun t ht => ⟨_, rfl, HDONE.out t ht⟩) HFREE.out, HWR.out⟩

set_option maxHeartbeats 1600000 in
set_option maxRecDepth 100000 in
theorem laws_heldIntS {F : Nat → Prop} {a : Option Addr} {cap : Nat} (n : Nat) (hn : n ≤ 1099511627776) (k : Nat) (hk : k ≤ 4611686018427387904) (w : World) (ho : Own w F (.sl 1 n (mkI k)) (.slice a n cap)) :
    Calls Tryz.prog 51 #[.slice a n cap, .int .i64 (k : Int)] w fun e w' => e = .returned (.int .i64 ((k + n : Nat) : Int)) ∧ Below w.heap.size w w' := by
  rcases own_ints ho (fun k _ => ⟨_, rfl⟩) with rfl | ⟨b, off, rfl, hF, hb, hc, hz⟩
  · clear ho
    go_enter Tryz.func51, Tryz.ntmps51
    go_wp2
    go_loop [1, 5] (fun q i => q = .int .i64 (k : Int) ∧ i = .int .i64 0) (fun _ _ => 0)
    case atStart => exact ⟨rfl, rfl⟩
    case round =>
      obtain ⟨rfl, rfl⟩ := hrel
      go_wp2
      go_ret
      exact ⟨rfl, Below.refl _ _⟩
  · have HC := Lib.hid hc
    clear ho hc hz
    go_enter Tryz.func51, Tryz.ntmps51
    go_wp2
    go_loop [1, 5] (fun q i => ∃ j : Nat, j ≤ n ∧ i = .int .i64 (j : Int) ∧ q = .int .i64 ((k + j : Nat) : Int)) (fun _ i => n - (intOf i).toNat)
    case atStart => exact ⟨0, Nat.zero_le _, rfl, by go_num⟩
    case round =>
      obtain ⟨j, hj, rfl, rfl⟩ := hrel
      by_cases hlt : j < n
      · obtain ⟨v, hv, hcell⟩ := HC.out j hlt
        have hv' : v = .int .i64 ((k + j : Nat) : Int) := by
          unfold mkI at hv
          simp only [Ct.lit.injEq] at hv
          exact hv.symm
        subst hv'
        clear hv
        generalize hkj : k + j = q at *
        have HQ := Lib.hid hkj
        have hq2 : q ≤ 4611687118427387904 := by have := HQ.out; omega
        clear hkj
        go_wp2
        go_round
        case rel =>
          have hq := HQ.out
          exact ⟨j + 1, by omega, by go_num, by rw [← Nat.add_assoc, hq]; go_num⟩
        case measure => simp [intOf]; omega
      · obtain rfl : j = n := by omega
        go_wp2
        go_ret
        exact ⟨rfl, Below.refl _ _⟩

end Go.Proofs.YtnmepemmpeboeaaGreat
namespace Go.Proofs.YtnmepemmpeboeaaGreat
open Go.ChangeShapes Go.WideShapes Go.ChangeAt Go.RowKit Go.Deep

set_option maxHeartbeats 1600000 in
set_option maxRecDepth 100000 in
theorem laws_markRelation {F : Nat → Prop} {a1 : Option Addr} {c1 : Nat} (x : DRelation) (hn : x.fRows.length ≤ 1099511627776) (k : Nat) (hk : k ≤ 4611686018427387904) (w : World) (hF : ∀ y, F y → y < w.heap.size) (ho : Own w F (.sl 1 x.fRows.length (fun k => ictI (x.fRows.getD k default))) (.slice a1 x.fRows.length c1)) :
    Calls Tryz.prog 15 #[.agg #[.int .i64 x.fN, .slice a1 x.fRows.length c1], .int .i64 (k : Int)] w fun e w' => e = .returned (.int .i64 ((k + x.fRows.length : Nat) : Int)) ∧ Own w' F (.sl 1 x.fRows.length (mkI k)) (.slice a1 x.fRows.length c1) ∧ WritesF F w w' := by
  have HB := Lib.hid ((Below.refl w.heap.size w).alloc (Nat.le_refl _) (.cells #[.int .i64 x.fN, .slice a1 x.fRows.length c1] 35))
  have HM := Lib.hid (laws_markIntS x.fRows hn k hk _ (ho.kept (Kept.of_below HB.out hF)))
  clear ho
  go_enter Tryz.func15, Tryz.ntmps15
  go_wp2_with fail
  refine HM.out.mono ?_
  rintro e w1 ⟨rfl, ho1, hw1⟩
  go_wp2
  go_ret
  exact ⟨rfl, ho1, hw1.of_below HB.out⟩

set_option maxHeartbeats 1600000 in
set_option maxRecDepth 100000 in
theorem laws_heldRelation {F : Nat → Prop} {a1 : Option Addr} {c1 : Nat} (x : DRelation) (hn : x.fRows.length ≤ 1099511627776) (k : Nat) (hk : k ≤ 4611686018427387904) (w : World) (hF : ∀ y, F y → y < w.heap.size) (ho : Own w F (.sl 1 x.fRows.length (mkI k)) (.slice a1 x.fRows.length c1)) :
    Calls Tryz.prog 16 #[.agg #[.int .i64 x.fN, .slice a1 x.fRows.length c1], .int .i64 (k : Int)] w fun e w' => e = .returned (.int .i64 ((k + x.fRows.length : Nat) : Int)) ∧ Below w.heap.size w w' := by
  have HB := Lib.hid ((Below.refl w.heap.size w).alloc (Nat.le_refl _) (.cells #[.int .i64 x.fN, .slice a1 x.fRows.length c1] 35))
  have HM := Lib.hid (laws_heldIntS x.fRows.length hn k hk _ (ho.kept (Kept.of_below HB.out hF)))
  have hs : 0 ≤ ((k + x.fRows.length : Nat) : Int) := by omega
  clear ho
  generalize hq : k + x.fRows.length = q at *
  clear hq
  go_enter Tryz.func16, Tryz.ntmps16
  go_wp2_with fail
  refine HM.out.mono ?_
  rintro e w1 ⟨rfl, hb1⟩
  go_wp2
  go_ret
  exact ⟨rfl, HB.out.trans (hb1.mono HB.out.size)⟩
end Go.Proofs.YtnmepemmpeboeaaGreat
namespace Go.Proofs.YtnmepemmpeboeaaGreat
open Go.ChangeShapes Go.WideShapes Go.ChangeAt Go.RowKit Go.Deep

/-- The contract of the marks on the arguments of x. -/
def WkX (x : DExpr) : Prop := ∀ (F : Nat → Prop) (a : Option Addr) (cap : Nat) (_ : lsz DExpr.sz x.fArgs ≤ 1048576) (k : Int) (_ : 1 ≤ k) (_ : k + 16 * (lsz DExpr.sz x.fArgs : Nat) ≤ 4611686018427387904) (w : World) (_ : Own w F (.sl 7 x.fArgs.length (ctE x.fArgs)) (.slice a x.fArgs.length cap)), Calls Tryz.prog 82 #[.slice a x.fArgs.length cap, .int .i64 k] w fun e w' => ∃ k' : Int, e = .returned (.int .i64 k') ∧ k ≤ k' ∧ k' ≤ k + 16 * (lsz DExpr.sz x.fArgs : Nat) ∧ WritesF F w w'

set_option maxHeartbeats 3200000 in
set_option maxRecDepth 100000 in
theorem wmark_ExprS_of {F : Nat → Prop} {a : Option Addr} {cap : Nat} (l : List DExpr) (HE : ∀ x ∈ l, WkX x) (hn : lsz DExpr.sz l ≤ 1048576) (k : Int) (hk0 : 1 ≤ k) (hk : k + 16 * (lsz DExpr.sz l : Nat) ≤ 4611686018427387904) (w : World) (ho : Own w F (.sl 7 l.length (fun k => DExpr.ct (l.getD k default))) (.slice a l.length cap)) :
    Calls Tryz.prog 82 #[.slice a l.length cap, .int .i64 k] w fun e w' => ∃ k' : Int, e = .returned (.int .i64 k') ∧ k ≤ k' ∧ k' ≤ k + 16 * (lsz DExpr.sz l : Nat) ∧ WritesF F w w' := by
  have HE := Lib.hid HE
  rcases mark_start (fun _ _ => none) ho with h0 | ⟨b, off, u, G, rfl, hO, hM⟩
  · have HL := Lib.hid h0
    clear ho hn
    generalize l.length = n at *
    obtain rfl : n = 0 := HL.out
    generalize lsz DExpr.sz l = Z at *
    go_enter Tryz.func82, Tryz.ntmps82
    go_wp2
    go_loop [1, 5] (fun q i => q = .int .i64 k ∧ i = .int .i64 0) (fun _ _ => 0)
    case atStart => exact ⟨rfl, rfl⟩
    case round =>
      obtain ⟨rfl, rfl⟩ := hrel
      go_wp2
      go_ret
      exact ⟨_, rfl, Int.le_refl _, by omega, WritesF.refl _ _⟩
  · have HO := Lib.hid hO
    have HMS := Lib.hid hM
    clear ho hO hM
    have hlen := lsz_pos DExpr.sz l
    go_enter Tryz.func82, Tryz.ntmps82
    go_wp2
    go_loopw [1, 5] (fun q i wr => ∃ (j : Nat) (z : Int), j ≤ l.length ∧ i = .int .i64 (j : Int) ∧ q = .int .i64 z ∧ k ≤ z ∧ z ≤ k + 16 * ((j + psz DExpr.sz l j : Nat) : Int) ∧ MarkSt F 7 l.length b off (fun k => DExpr.ct (l.getD k default)) u G (fun _ _ => none) w j 0 wr) (fun _ i _ => l.length - (intOf i).toNat)
    case atStart => exact ⟨0, k, Nat.zero_le _, rfl, rfl, Int.le_refl _, by omega, HMS.out⟩
    case round =>
      clear HMS
      obtain ⟨j, z, hj, rfl, rfl, hz0, hz1, hm⟩ := hrel
      have HM0 := Lib.hid hm
      clear hm
      by_cases hlt : j < l.length
      · skip
        have hsu := Lib.hid (psz_succ DExpr.sz l j hlt)
        have hle2 := Lib.hid (psz_le DExpr.sz l (j + 1))
        have hzb : 1 ≤ z ∧ z ≤ 4611686018527387904 := by have h1 := hsu.out; have h2 := hle2.out; omega
        obtain ⟨a6, c6, hu6, _⟩ := own_sl (n := 7) (len := (l.getD j default).fArgs.length) (f := (ctE (l.getD j default).fArgs)) (HM0.out.own j hlt 6 (by decide) (Or.inr ⟨rfl, Nat.zero_le _⟩))
        have HW6 := Lib.hid (fun (W : World) (h : MarkSt F 7 l.length b off (fun k => DExpr.ct (l.getD k default)) u G (fun _ _ => none) w j 6 W) => (show Own W (G j 6) (.sl 7 (l.getD j default).fArgs.length (ctE (l.getD j default).fArgs)) (.slice a6 (l.getD j default).fArgs.length c6) from by have h1 := h.own j hlt 6 (by decide) (Or.inr ⟨rfl, Nat.le_refl _⟩); rw [hu6] at h1; exact h1))
        have HU0 := Lib.hid (show DExpr.sz (l.getD j default) = (l.getD j default).fSymbol.size + (l.getD j default).fName.size + (lsz DExpr.sz) (l.getD j default).fArgs from DExpr.sz_eq _)
        have HEX := Lib.hid (HE.out _ (getD_mem hlt))
        generalize l.getD j default = x at *
        have d0_0 : wr.cell? ⟨b, off + j * 7, none⟩ = some (u j 0) := HM0.out.cell j hlt 0 (by decide) (Or.inr ⟨rfl, by decide⟩)
        generalize u j 0 = v0_0 at d0_0
        have z0_0 : wr.frozen? ⟨b, off + j * 7, none⟩ = false := HM0.out.frozen _
        have d0_1 : wr.cell? ⟨b, off + j * 7 + 1, none⟩ = some (u j 1) := HM0.out.cell j hlt 1 (by decide) (Or.inr ⟨rfl, by decide⟩)
        generalize u j 1 = v0_1 at d0_1
        have z0_1 : wr.frozen? ⟨b, off + j * 7 + 1, none⟩ = false := HM0.out.frozen _
        have d0_2 : wr.cell? ⟨b, off + j * 7 + 2, none⟩ = some (u j 2) := HM0.out.cell j hlt 2 (by decide) (Or.inr ⟨rfl, by decide⟩)
        generalize u j 2 = v0_2 at d0_2
        have z0_2 : wr.frozen? ⟨b, off + j * 7 + 2, none⟩ = false := HM0.out.frozen _
        have d0_3 : wr.cell? ⟨b, off + j * 7 + 3, none⟩ = some (u j 3) := HM0.out.cell j hlt 3 (by decide) (Or.inr ⟨rfl, by decide⟩)
        generalize u j 3 = v0_3 at d0_3
        have z0_3 : wr.frozen? ⟨b, off + j * 7 + 3, none⟩ = false := HM0.out.frozen _
        have d0_4 : wr.cell? ⟨b, off + j * 7 + 4, none⟩ = some (u j 4) := HM0.out.cell j hlt 4 (by decide) (Or.inr ⟨rfl, by decide⟩)
        generalize u j 4 = v0_4 at d0_4
        have z0_4 : wr.frozen? ⟨b, off + j * 7 + 4, none⟩ = false := HM0.out.frozen _
        have d0_5 : wr.cell? ⟨b, off + j * 7 + 5, none⟩ = some (u j 5) := HM0.out.cell j hlt 5 (by decide) (Or.inr ⟨rfl, by decide⟩)
        generalize u j 5 = v0_5 at d0_5
        have z0_5 : wr.frozen? ⟨b, off + j * 7 + 5, none⟩ = false := HM0.out.frozen _
        have d0_6 : wr.cell? ⟨b, off + j * 7 + 6, none⟩ = some (.slice a6 x.fArgs.length c6) := (HM0.out.cell j hlt 6 (by decide) (Or.inr ⟨rfl, by decide⟩)).trans (congrArg some hu6)
        have z0_6 : wr.frozen? ⟨b, off + j * 7 + 6, none⟩ = false := HM0.out.frozen _
        have HQ0 := Lib.hid (fun (v0 : Value) (v1 : Value) (v2 : Value) (v3 : Value) (w' : World) (hb : Below ((((wr.setCell ⟨b, off + j * 7, none⟩ v0).setCell ⟨b, off + j * 7 + 1, none⟩ v1).setCell ⟨b, off + j * 7 + 2, none⟩ v2).setCell ⟨b, off + j * 7 + 3, none⟩ v3).heap.size ((((wr.setCell ⟨b, off + j * 7, none⟩ v0).setCell ⟨b, off + j * 7 + 1, none⟩ v1).setCell ⟨b, off + j * 7 + 2, none⟩ v2).setCell ⟨b, off + j * 7 + 3, none⟩ v3) w') => (show MarkSt F 7 l.length b off (fun k => DExpr.ct (l.getD k default)) u G (fun _ _ => none) w j 4 w' from ((((HM0.out.set HO.out hlt (by decide) v0 (fun _ h => by cases h)).set HO.out hlt (by decide) v1 (fun _ h => by cases h)).set HO.out hlt (by decide) v2 (fun _ h => by cases h)).set HO.out hlt (by decide) v3 (fun _ h => by cases h)).below hb))
        go_wp2_with fail
        refine (markTextI _ (by omega) (by omega) _).mono ?_
        rintro e w1 ⟨rfl, hb1⟩
        have HM1 := Lib.hid (HQ0.out _ _ _ _ _ hb1)
        clear hb1 HM0 HQ0 d0_0 z0_0 d0_1 z0_1 d0_2 z0_2 d0_3 z0_3 d0_4 z0_4 d0_5 z0_5 d0_6 z0_6
        have d1_4 : w1.cell? ⟨b, off + j * 7 + 4, none⟩ = some (u j 4) := HM1.out.cell j hlt 4 (by decide) (Or.inr ⟨rfl, by decide⟩)
        generalize u j 4 = v1_4 at d1_4
        have z1_4 : w1.frozen? ⟨b, off + j * 7 + 4, none⟩ = false := HM1.out.frozen _
        have d1_5 : w1.cell? ⟨b, off + j * 7 + 5, none⟩ = some (u j 5) := HM1.out.cell j hlt 5 (by decide) (Or.inr ⟨rfl, by decide⟩)
        generalize u j 5 = v1_5 at d1_5
        have z1_5 : w1.frozen? ⟨b, off + j * 7 + 5, none⟩ = false := HM1.out.frozen _
        have d1_6 : w1.cell? ⟨b, off + j * 7 + 6, none⟩ = some (.slice a6 x.fArgs.length c6) := (HM1.out.cell j hlt 6 (by decide) (Or.inr ⟨rfl, by decide⟩)).trans (congrArg some hu6)
        have z1_6 : w1.frozen? ⟨b, off + j * 7 + 6, none⟩ = false := HM1.out.frozen _
        have HQ1 := Lib.hid (fun (v4 : Value) (w' : World) (hb : Below (w1.setCell ⟨b, off + j * 7 + 4, none⟩ v4).heap.size (w1.setCell ⟨b, off + j * 7 + 4, none⟩ v4) w') => (show MarkSt F 7 l.length b off (fun k => DExpr.ct (l.getD k default)) u G (fun _ _ => none) w j 5 w' from (HM1.out.set HO.out hlt (by decide) v4 (fun _ h => by cases h)).below hb))
        go_wp2_with fail
        refine (markTextI _ (by omega) (by omega) _).mono ?_
        rintro e w2 ⟨rfl, hb2⟩
        have HM2 := Lib.hid (HQ1.out _ _ hb2)
        clear hb2 HM1 HQ1 d1_4 z1_4 d1_5 z1_5 d1_6 z1_6
        have d2_5 : w2.cell? ⟨b, off + j * 7 + 5, none⟩ = some (u j 5) := HM2.out.cell j hlt 5 (by decide) (Or.inr ⟨rfl, by decide⟩)
        generalize u j 5 = v2_5 at d2_5
        have z2_5 : w2.frozen? ⟨b, off + j * 7 + 5, none⟩ = false := HM2.out.frozen _
        have d2_6 : w2.cell? ⟨b, off + j * 7 + 6, none⟩ = some (.slice a6 x.fArgs.length c6) := (HM2.out.cell j hlt 6 (by decide) (Or.inr ⟨rfl, by decide⟩)).trans (congrArg some hu6)
        have z2_6 : w2.frozen? ⟨b, off + j * 7 + 6, none⟩ = false := HM2.out.frozen _
        have HP2 := Lib.hid (fun (v5 : Value) => HW6.out (w2.setCell ⟨b, off + j * 7 + 5, none⟩ v5) (HM2.out.set HO.out hlt (by decide) v5 (fun _ h => by cases h)))
        have HQ2 := Lib.hid (fun (v5 : Value) (w' : World) (hw : WritesF (G j 6) (w2.setCell ⟨b, off + j * 7 + 5, none⟩ v5) w') => (show MarkSt F 7 l.length b off (fun k => DExpr.ct (l.getD k default)) u G (fun _ _ => none) w j 7 w' from (HM2.out.set HO.out hlt (by decide) v5 (fun _ h => by cases h)).call HO.out hlt (by decide) rfl hw))
        have hn2 := Lib.hid (show lsz DExpr.sz x.fArgs ≤ 1048576 from (by have h1 := hsu.out; have h2 := hle2.out; have h3_0 := HU0.out; omega))
        go_wp2_with fail
        refine (HEX.out _ _ _ hn2.out _ (by omega) (by have h1 := hsu.out; have h2 := hle2.out; have h3_0 := HU0.out; omega) _ (HP2.out _)).mono ?_
        rintro e w3 ⟨k3, rfl, hka3, hkb3, hw3⟩
        have HM3 := Lib.hid (HQ2.out _ _ hw3)
        have hkz3 : 1 ≤ k3 ∧ k3 ≤ 4611686018427387904 := by have h1 := hsu.out; have h2 := hle2.out; have h3_0 := HU0.out; omega
        clear hw3 HM2 HP2 HQ2 d2_5 z2_5 d2_6 z2_6
        have HNX := Lib.hid ((show MarkSt F 7 l.length b off (fun k => DExpr.ct (l.getD k default)) u G (fun _ _ => none) w (j + 1) 0 w3 from HM3.out.next rfl))
        go_wp2
        go_roundw
        case rel =>
          have h1 := hsu.out
          have h2 := hle2.out
          have h3_0 := HU0.out
          refine ⟨j + 1, _, by omega, by go_num, rfl, by omega, by rw [h1]; omega, HNX.out⟩
        case measure => simp [intOf]; omega
      · obtain rfl : j = l.length := by omega
        go_wp2
        go_ret
        exact ⟨_, rfl, hz0, by have h1 := psz_le DExpr.sz l l.length; omega, HM0.out.writes⟩

theorem wkX_each : ∀ x : DExpr, WkX x := DExpr.ind fun x ih => fun F a cap hn k h0 hk w ho => wmark_ExprS_of x.fArgs ih hn k h0 hk w (ho.congr fun j hj _ _ => by rw [ctE_at hj])

theorem wmark_ExprS {F : Nat → Prop} {a : Option Addr} {cap : Nat} (l : List DExpr) (hn : lsz DExpr.sz l ≤ 1048576) (k : Int) (hk0 : 1 ≤ k) (hk : k + 16 * (lsz DExpr.sz l : Nat) ≤ 4611686018427387904) (w : World) (ho : Own w F (.sl 7 l.length (ctE l)) (.slice a l.length cap)) :
    Calls Tryz.prog 82 #[.slice a l.length cap, .int .i64 k] w fun e w' => ∃ k' : Int, e = .returned (.int .i64 k') ∧ k ≤ k' ∧ k' ≤ k + 16 * (lsz DExpr.sz l : Nat) ∧ WritesF F w w' := wmark_ExprS_of l (fun x _ => wkX_each x) hn k hk0 hk w (ho.congr fun j hj _ _ => by rw [ctE_at hj])
end Go.Proofs.YtnmepemmpeboeaaGreat
namespace Go.Proofs.YtnmepemmpeboeaaGreat
open Go.ChangeShapes Go.WideShapes Go.ChangeAt Go.RowKit Go.Deep

set_option maxHeartbeats 3200000 in
set_option maxRecDepth 100000 in
theorem wmark_ContributionS {F : Nat → Prop} {a : Option Addr} {cap : Nat} (l : List DContribution) (hn : lsz DContribution.sz l ≤ 1048576) (k : Int) (hk0 : 1 ≤ k) (hk : k + 16 * (lsz DContribution.sz l : Nat) ≤ 4611686018427387904) (w : World) (ho : Own w F (.sl 16 l.length (fun k => DContribution.ct (l.getD k default))) (.slice a l.length cap)) :
    Calls Tryz.prog 49 #[.slice a l.length cap, .int .i64 k] w fun e w' => ∃ k' : Int, e = .returned (.int .i64 k') ∧ k ≤ k' ∧ k' ≤ k + 16 * (lsz DContribution.sz l : Nat) ∧ WritesF F w w' := by
  rcases mark_start (fun _ _ => none) ho with h0 | ⟨b, off, u, G, rfl, hO, hM⟩
  · have HL := Lib.hid h0
    clear ho hn
    generalize l.length = n at *
    obtain rfl : n = 0 := HL.out
    generalize lsz DContribution.sz l = Z at *
    go_enter Tryz.func49, Tryz.ntmps49
    go_wp2
    go_loop [1, 5] (fun q i => q = .int .i64 k ∧ i = .int .i64 0) (fun _ _ => 0)
    case atStart => exact ⟨rfl, rfl⟩
    case round =>
      obtain ⟨rfl, rfl⟩ := hrel
      go_wp2
      go_ret
      exact ⟨_, rfl, Int.le_refl _, by omega, WritesF.refl _ _⟩
  · have HO := Lib.hid hO
    have HMS := Lib.hid hM
    clear ho hO hM
    have hlen := lsz_pos DContribution.sz l
    go_enter Tryz.func49, Tryz.ntmps49
    go_wp2
    go_loopw [1, 5] (fun q i wr => ∃ (j : Nat) (z : Int), j ≤ l.length ∧ i = .int .i64 (j : Int) ∧ q = .int .i64 z ∧ k ≤ z ∧ z ≤ k + 16 * ((j + psz DContribution.sz l j : Nat) : Int) ∧ MarkSt F 16 l.length b off (fun k => DContribution.ct (l.getD k default)) u G (fun _ _ => none) w j 0 wr) (fun _ i _ => l.length - (intOf i).toNat)
    case atStart => exact ⟨0, k, Nat.zero_le _, rfl, rfl, Int.le_refl _, by omega, HMS.out⟩
    case round =>
      clear HMS
      obtain ⟨j, z, hj, rfl, rfl, hz0, hz1, hm⟩ := hrel
      have HM0 := Lib.hid hm
      clear hm
      by_cases hlt : j < l.length
      · skip
        have hsu := Lib.hid (psz_succ DContribution.sz l j hlt)
        have hle2 := Lib.hid (psz_le DContribution.sz l (j + 1))
        have hzb : 1 ≤ z ∧ z ≤ 4611686018527387904 := by have h1 := hsu.out; have h2 := hle2.out; omega
        obtain ⟨a8, c8, hu8, _⟩ := own_sl (n := 7) (len := (l.getD j default).fTarget.fArgs.length) (f := (ctE (l.getD j default).fTarget.fArgs)) (HM0.out.own j hlt 8 (by decide) (Or.inr ⟨rfl, Nat.zero_le _⟩))
        have HW8 := Lib.hid (fun (W : World) (h : MarkSt F 16 l.length b off (fun k => DContribution.ct (l.getD k default)) u G (fun _ _ => none) w j 8 W) => (show Own W (G j 8) (.sl 7 (l.getD j default).fTarget.fArgs.length (ctE (l.getD j default).fTarget.fArgs)) (.slice a8 (l.getD j default).fTarget.fArgs.length c8) from by have h1 := h.own j hlt 8 (by decide) (Or.inr ⟨rfl, Nat.le_refl _⟩); rw [hu8] at h1; exact h1))
        obtain ⟨a15, c15, hu15, _⟩ := own_sl (n := 7) (len := (l.getD j default).fValue.fArgs.length) (f := (ctE (l.getD j default).fValue.fArgs)) (HM0.out.own j hlt 15 (by decide) (Or.inr ⟨rfl, Nat.zero_le _⟩))
        have HW15 := Lib.hid (fun (W : World) (h : MarkSt F 16 l.length b off (fun k => DContribution.ct (l.getD k default)) u G (fun _ _ => none) w j 15 W) => (show Own W (G j 15) (.sl 7 (l.getD j default).fValue.fArgs.length (ctE (l.getD j default).fValue.fArgs)) (.slice a15 (l.getD j default).fValue.fArgs.length c15) from by have h1 := h.own j hlt 15 (by decide) (Or.inr ⟨rfl, Nat.le_refl _⟩); rw [hu15] at h1; exact h1))
        have HU0 := Lib.hid (show DContribution.sz (l.getD j default) = (l.getD j default).fSymbol.size + (l.getD j default).fName.size + DExpr.sz (l.getD j default).fTarget + DExpr.sz (l.getD j default).fValue from rfl)
        have HU1 := Lib.hid (show DExpr.sz (l.getD j default).fTarget = (l.getD j default).fTarget.fSymbol.size + (l.getD j default).fTarget.fName.size + (lsz DExpr.sz) (l.getD j default).fTarget.fArgs from DExpr.sz_eq _)
        have HU2 := Lib.hid (show DExpr.sz (l.getD j default).fValue = (l.getD j default).fValue.fSymbol.size + (l.getD j default).fValue.fName.size + (lsz DExpr.sz) (l.getD j default).fValue.fArgs from DExpr.sz_eq _)
        generalize l.getD j default = x at *
        have d0_0 : wr.cell? ⟨b, off + j * 16, none⟩ = some (u j 0) := HM0.out.cell j hlt 0 (by decide) (Or.inr ⟨rfl, by decide⟩)
        generalize u j 0 = v0_0 at d0_0
        have z0_0 : wr.frozen? ⟨b, off + j * 16, none⟩ = false := HM0.out.frozen _
        have d0_1 : wr.cell? ⟨b, off + j * 16 + 1, none⟩ = some (u j 1) := HM0.out.cell j hlt 1 (by decide) (Or.inr ⟨rfl, by decide⟩)
        generalize u j 1 = v0_1 at d0_1
        have z0_1 : wr.frozen? ⟨b, off + j * 16 + 1, none⟩ = false := HM0.out.frozen _
        have d0_2 : wr.cell? ⟨b, off + j * 16 + 2, none⟩ = some (u j 2) := HM0.out.cell j hlt 2 (by decide) (Or.inr ⟨rfl, by decide⟩)
        generalize u j 2 = v0_2 at d0_2
        have z0_2 : wr.frozen? ⟨b, off + j * 16 + 2, none⟩ = false := HM0.out.frozen _
        have d0_3 : wr.cell? ⟨b, off + j * 16 + 3, none⟩ = some (u j 3) := HM0.out.cell j hlt 3 (by decide) (Or.inr ⟨rfl, by decide⟩)
        generalize u j 3 = v0_3 at d0_3
        have z0_3 : wr.frozen? ⟨b, off + j * 16 + 3, none⟩ = false := HM0.out.frozen _
        have d0_4 : wr.cell? ⟨b, off + j * 16 + 4, none⟩ = some (u j 4) := HM0.out.cell j hlt 4 (by decide) (Or.inr ⟨rfl, by decide⟩)
        generalize u j 4 = v0_4 at d0_4
        have z0_4 : wr.frozen? ⟨b, off + j * 16 + 4, none⟩ = false := HM0.out.frozen _
        have d0_5 : wr.cell? ⟨b, off + j * 16 + 5, none⟩ = some (u j 5) := HM0.out.cell j hlt 5 (by decide) (Or.inr ⟨rfl, by decide⟩)
        generalize u j 5 = v0_5 at d0_5
        have z0_5 : wr.frozen? ⟨b, off + j * 16 + 5, none⟩ = false := HM0.out.frozen _
        have d0_6 : wr.cell? ⟨b, off + j * 16 + 6, none⟩ = some (u j 6) := HM0.out.cell j hlt 6 (by decide) (Or.inr ⟨rfl, by decide⟩)
        generalize u j 6 = v0_6 at d0_6
        have z0_6 : wr.frozen? ⟨b, off + j * 16 + 6, none⟩ = false := HM0.out.frozen _
        have d0_7 : wr.cell? ⟨b, off + j * 16 + 7, none⟩ = some (u j 7) := HM0.out.cell j hlt 7 (by decide) (Or.inr ⟨rfl, by decide⟩)
        generalize u j 7 = v0_7 at d0_7
        have z0_7 : wr.frozen? ⟨b, off + j * 16 + 7, none⟩ = false := HM0.out.frozen _
        have d0_8 : wr.cell? ⟨b, off + j * 16 + 8, none⟩ = some (.slice a8 x.fTarget.fArgs.length c8) := (HM0.out.cell j hlt 8 (by decide) (Or.inr ⟨rfl, by decide⟩)).trans (congrArg some hu8)
        have z0_8 : wr.frozen? ⟨b, off + j * 16 + 8, none⟩ = false := HM0.out.frozen _
        have d0_9 : wr.cell? ⟨b, off + j * 16 + 9, none⟩ = some (u j 9) := HM0.out.cell j hlt 9 (by decide) (Or.inr ⟨rfl, by decide⟩)
        generalize u j 9 = v0_9 at d0_9
        have z0_9 : wr.frozen? ⟨b, off + j * 16 + 9, none⟩ = false := HM0.out.frozen _
        have d0_10 : wr.cell? ⟨b, off + j * 16 + 10, none⟩ = some (u j 10) := HM0.out.cell j hlt 10 (by decide) (Or.inr ⟨rfl, by decide⟩)
        generalize u j 10 = v0_10 at d0_10
        have z0_10 : wr.frozen? ⟨b, off + j * 16 + 10, none⟩ = false := HM0.out.frozen _
        have d0_11 : wr.cell? ⟨b, off + j * 16 + 11, none⟩ = some (u j 11) := HM0.out.cell j hlt 11 (by decide) (Or.inr ⟨rfl, by decide⟩)
        generalize u j 11 = v0_11 at d0_11
        have z0_11 : wr.frozen? ⟨b, off + j * 16 + 11, none⟩ = false := HM0.out.frozen _
        have d0_12 : wr.cell? ⟨b, off + j * 16 + 12, none⟩ = some (u j 12) := HM0.out.cell j hlt 12 (by decide) (Or.inr ⟨rfl, by decide⟩)
        generalize u j 12 = v0_12 at d0_12
        have z0_12 : wr.frozen? ⟨b, off + j * 16 + 12, none⟩ = false := HM0.out.frozen _
        have d0_13 : wr.cell? ⟨b, off + j * 16 + 13, none⟩ = some (u j 13) := HM0.out.cell j hlt 13 (by decide) (Or.inr ⟨rfl, by decide⟩)
        generalize u j 13 = v0_13 at d0_13
        have z0_13 : wr.frozen? ⟨b, off + j * 16 + 13, none⟩ = false := HM0.out.frozen _
        have d0_14 : wr.cell? ⟨b, off + j * 16 + 14, none⟩ = some (u j 14) := HM0.out.cell j hlt 14 (by decide) (Or.inr ⟨rfl, by decide⟩)
        generalize u j 14 = v0_14 at d0_14
        have z0_14 : wr.frozen? ⟨b, off + j * 16 + 14, none⟩ = false := HM0.out.frozen _
        have d0_15 : wr.cell? ⟨b, off + j * 16 + 15, none⟩ = some (.slice a15 x.fValue.fArgs.length c15) := (HM0.out.cell j hlt 15 (by decide) (Or.inr ⟨rfl, by decide⟩)).trans (congrArg some hu15)
        have z0_15 : wr.frozen? ⟨b, off + j * 16 + 15, none⟩ = false := HM0.out.frozen _
        have HQ0 := Lib.hid (fun (w' : World) (hb : Below wr.heap.size wr w') => (show MarkSt F 16 l.length b off (fun k => DContribution.ct (l.getD k default)) u G (fun _ _ => none) w j 0 w' from HM0.out.below hb))
        go_wp2_with fail
        refine (markTextI _ (by omega) (by omega) _).mono ?_
        rintro e w1 ⟨rfl, hb1⟩
        have HM1 := Lib.hid (HQ0.out _ hb1)
        clear hb1 HM0 HQ0 d0_0 z0_0 d0_1 z0_1 d0_2 z0_2 d0_3 z0_3 d0_4 z0_4 d0_5 z0_5 d0_6 z0_6 d0_7 z0_7 d0_8 z0_8 d0_9 z0_9 d0_10 z0_10 d0_11 z0_11 d0_12 z0_12 d0_13 z0_13 d0_14 z0_14 d0_15 z0_15
        have d1_0 : w1.cell? ⟨b, off + j * 16, none⟩ = some (u j 0) := HM1.out.cell j hlt 0 (by decide) (Or.inr ⟨rfl, by decide⟩)
        generalize u j 0 = v1_0 at d1_0
        have z1_0 : w1.frozen? ⟨b, off + j * 16, none⟩ = false := HM1.out.frozen _
        have d1_1 : w1.cell? ⟨b, off + j * 16 + 1, none⟩ = some (u j 1) := HM1.out.cell j hlt 1 (by decide) (Or.inr ⟨rfl, by decide⟩)
        generalize u j 1 = v1_1 at d1_1
        have z1_1 : w1.frozen? ⟨b, off + j * 16 + 1, none⟩ = false := HM1.out.frozen _
        have d1_2 : w1.cell? ⟨b, off + j * 16 + 2, none⟩ = some (u j 2) := HM1.out.cell j hlt 2 (by decide) (Or.inr ⟨rfl, by decide⟩)
        generalize u j 2 = v1_2 at d1_2
        have z1_2 : w1.frozen? ⟨b, off + j * 16 + 2, none⟩ = false := HM1.out.frozen _
        have d1_3 : w1.cell? ⟨b, off + j * 16 + 3, none⟩ = some (u j 3) := HM1.out.cell j hlt 3 (by decide) (Or.inr ⟨rfl, by decide⟩)
        generalize u j 3 = v1_3 at d1_3
        have z1_3 : w1.frozen? ⟨b, off + j * 16 + 3, none⟩ = false := HM1.out.frozen _
        have d1_4 : w1.cell? ⟨b, off + j * 16 + 4, none⟩ = some (u j 4) := HM1.out.cell j hlt 4 (by decide) (Or.inr ⟨rfl, by decide⟩)
        generalize u j 4 = v1_4 at d1_4
        have z1_4 : w1.frozen? ⟨b, off + j * 16 + 4, none⟩ = false := HM1.out.frozen _
        have d1_5 : w1.cell? ⟨b, off + j * 16 + 5, none⟩ = some (u j 5) := HM1.out.cell j hlt 5 (by decide) (Or.inr ⟨rfl, by decide⟩)
        generalize u j 5 = v1_5 at d1_5
        have z1_5 : w1.frozen? ⟨b, off + j * 16 + 5, none⟩ = false := HM1.out.frozen _
        have d1_6 : w1.cell? ⟨b, off + j * 16 + 6, none⟩ = some (u j 6) := HM1.out.cell j hlt 6 (by decide) (Or.inr ⟨rfl, by decide⟩)
        generalize u j 6 = v1_6 at d1_6
        have z1_6 : w1.frozen? ⟨b, off + j * 16 + 6, none⟩ = false := HM1.out.frozen _
        have d1_7 : w1.cell? ⟨b, off + j * 16 + 7, none⟩ = some (u j 7) := HM1.out.cell j hlt 7 (by decide) (Or.inr ⟨rfl, by decide⟩)
        generalize u j 7 = v1_7 at d1_7
        have z1_7 : w1.frozen? ⟨b, off + j * 16 + 7, none⟩ = false := HM1.out.frozen _
        have d1_8 : w1.cell? ⟨b, off + j * 16 + 8, none⟩ = some (.slice a8 x.fTarget.fArgs.length c8) := (HM1.out.cell j hlt 8 (by decide) (Or.inr ⟨rfl, by decide⟩)).trans (congrArg some hu8)
        have z1_8 : w1.frozen? ⟨b, off + j * 16 + 8, none⟩ = false := HM1.out.frozen _
        have d1_9 : w1.cell? ⟨b, off + j * 16 + 9, none⟩ = some (u j 9) := HM1.out.cell j hlt 9 (by decide) (Or.inr ⟨rfl, by decide⟩)
        generalize u j 9 = v1_9 at d1_9
        have z1_9 : w1.frozen? ⟨b, off + j * 16 + 9, none⟩ = false := HM1.out.frozen _
        have d1_10 : w1.cell? ⟨b, off + j * 16 + 10, none⟩ = some (u j 10) := HM1.out.cell j hlt 10 (by decide) (Or.inr ⟨rfl, by decide⟩)
        generalize u j 10 = v1_10 at d1_10
        have z1_10 : w1.frozen? ⟨b, off + j * 16 + 10, none⟩ = false := HM1.out.frozen _
        have d1_11 : w1.cell? ⟨b, off + j * 16 + 11, none⟩ = some (u j 11) := HM1.out.cell j hlt 11 (by decide) (Or.inr ⟨rfl, by decide⟩)
        generalize u j 11 = v1_11 at d1_11
        have z1_11 : w1.frozen? ⟨b, off + j * 16 + 11, none⟩ = false := HM1.out.frozen _
        have d1_12 : w1.cell? ⟨b, off + j * 16 + 12, none⟩ = some (u j 12) := HM1.out.cell j hlt 12 (by decide) (Or.inr ⟨rfl, by decide⟩)
        generalize u j 12 = v1_12 at d1_12
        have z1_12 : w1.frozen? ⟨b, off + j * 16 + 12, none⟩ = false := HM1.out.frozen _
        have d1_13 : w1.cell? ⟨b, off + j * 16 + 13, none⟩ = some (u j 13) := HM1.out.cell j hlt 13 (by decide) (Or.inr ⟨rfl, by decide⟩)
        generalize u j 13 = v1_13 at d1_13
        have z1_13 : w1.frozen? ⟨b, off + j * 16 + 13, none⟩ = false := HM1.out.frozen _
        have d1_14 : w1.cell? ⟨b, off + j * 16 + 14, none⟩ = some (u j 14) := HM1.out.cell j hlt 14 (by decide) (Or.inr ⟨rfl, by decide⟩)
        generalize u j 14 = v1_14 at d1_14
        have z1_14 : w1.frozen? ⟨b, off + j * 16 + 14, none⟩ = false := HM1.out.frozen _
        have d1_15 : w1.cell? ⟨b, off + j * 16 + 15, none⟩ = some (.slice a15 x.fValue.fArgs.length c15) := (HM1.out.cell j hlt 15 (by decide) (Or.inr ⟨rfl, by decide⟩)).trans (congrArg some hu15)
        have z1_15 : w1.frozen? ⟨b, off + j * 16 + 15, none⟩ = false := HM1.out.frozen _
        have HQ1 := Lib.hid (fun (v0 : Value) (w' : World) (hb : Below (w1.setCell ⟨b, off + j * 16, none⟩ v0).heap.size (w1.setCell ⟨b, off + j * 16, none⟩ v0) w') => (show MarkSt F 16 l.length b off (fun k => DContribution.ct (l.getD k default)) u G (fun _ _ => none) w j 1 w' from (HM1.out.set HO.out hlt (by decide) v0 (fun _ h => by cases h)).below hb))
        go_wp2_with fail
        refine (markTextI _ (by omega) (by omega) _).mono ?_
        rintro e w2 ⟨rfl, hb2⟩
        have HM2 := Lib.hid (HQ1.out _ _ hb2)
        clear hb2 HM1 HQ1 d1_0 z1_0 d1_1 z1_1 d1_2 z1_2 d1_3 z1_3 d1_4 z1_4 d1_5 z1_5 d1_6 z1_6 d1_7 z1_7 d1_8 z1_8 d1_9 z1_9 d1_10 z1_10 d1_11 z1_11 d1_12 z1_12 d1_13 z1_13 d1_14 z1_14 d1_15 z1_15
        have d2_1 : w2.cell? ⟨b, off + j * 16 + 1, none⟩ = some (u j 1) := HM2.out.cell j hlt 1 (by decide) (Or.inr ⟨rfl, by decide⟩)
        generalize u j 1 = v2_1 at d2_1
        have z2_1 : w2.frozen? ⟨b, off + j * 16 + 1, none⟩ = false := HM2.out.frozen _
        have d2_2 : w2.cell? ⟨b, off + j * 16 + 2, none⟩ = some (u j 2) := HM2.out.cell j hlt 2 (by decide) (Or.inr ⟨rfl, by decide⟩)
        generalize u j 2 = v2_2 at d2_2
        have z2_2 : w2.frozen? ⟨b, off + j * 16 + 2, none⟩ = false := HM2.out.frozen _
        have d2_3 : w2.cell? ⟨b, off + j * 16 + 3, none⟩ = some (u j 3) := HM2.out.cell j hlt 3 (by decide) (Or.inr ⟨rfl, by decide⟩)
        generalize u j 3 = v2_3 at d2_3
        have z2_3 : w2.frozen? ⟨b, off + j * 16 + 3, none⟩ = false := HM2.out.frozen _
        have d2_4 : w2.cell? ⟨b, off + j * 16 + 4, none⟩ = some (u j 4) := HM2.out.cell j hlt 4 (by decide) (Or.inr ⟨rfl, by decide⟩)
        generalize u j 4 = v2_4 at d2_4
        have z2_4 : w2.frozen? ⟨b, off + j * 16 + 4, none⟩ = false := HM2.out.frozen _
        have d2_5 : w2.cell? ⟨b, off + j * 16 + 5, none⟩ = some (u j 5) := HM2.out.cell j hlt 5 (by decide) (Or.inr ⟨rfl, by decide⟩)
        generalize u j 5 = v2_5 at d2_5
        have z2_5 : w2.frozen? ⟨b, off + j * 16 + 5, none⟩ = false := HM2.out.frozen _
        have d2_6 : w2.cell? ⟨b, off + j * 16 + 6, none⟩ = some (u j 6) := HM2.out.cell j hlt 6 (by decide) (Or.inr ⟨rfl, by decide⟩)
        generalize u j 6 = v2_6 at d2_6
        have z2_6 : w2.frozen? ⟨b, off + j * 16 + 6, none⟩ = false := HM2.out.frozen _
        have d2_7 : w2.cell? ⟨b, off + j * 16 + 7, none⟩ = some (u j 7) := HM2.out.cell j hlt 7 (by decide) (Or.inr ⟨rfl, by decide⟩)
        generalize u j 7 = v2_7 at d2_7
        have z2_7 : w2.frozen? ⟨b, off + j * 16 + 7, none⟩ = false := HM2.out.frozen _
        have d2_8 : w2.cell? ⟨b, off + j * 16 + 8, none⟩ = some (.slice a8 x.fTarget.fArgs.length c8) := (HM2.out.cell j hlt 8 (by decide) (Or.inr ⟨rfl, by decide⟩)).trans (congrArg some hu8)
        have z2_8 : w2.frozen? ⟨b, off + j * 16 + 8, none⟩ = false := HM2.out.frozen _
        have d2_9 : w2.cell? ⟨b, off + j * 16 + 9, none⟩ = some (u j 9) := HM2.out.cell j hlt 9 (by decide) (Or.inr ⟨rfl, by decide⟩)
        generalize u j 9 = v2_9 at d2_9
        have z2_9 : w2.frozen? ⟨b, off + j * 16 + 9, none⟩ = false := HM2.out.frozen _
        have d2_10 : w2.cell? ⟨b, off + j * 16 + 10, none⟩ = some (u j 10) := HM2.out.cell j hlt 10 (by decide) (Or.inr ⟨rfl, by decide⟩)
        generalize u j 10 = v2_10 at d2_10
        have z2_10 : w2.frozen? ⟨b, off + j * 16 + 10, none⟩ = false := HM2.out.frozen _
        have d2_11 : w2.cell? ⟨b, off + j * 16 + 11, none⟩ = some (u j 11) := HM2.out.cell j hlt 11 (by decide) (Or.inr ⟨rfl, by decide⟩)
        generalize u j 11 = v2_11 at d2_11
        have z2_11 : w2.frozen? ⟨b, off + j * 16 + 11, none⟩ = false := HM2.out.frozen _
        have d2_12 : w2.cell? ⟨b, off + j * 16 + 12, none⟩ = some (u j 12) := HM2.out.cell j hlt 12 (by decide) (Or.inr ⟨rfl, by decide⟩)
        generalize u j 12 = v2_12 at d2_12
        have z2_12 : w2.frozen? ⟨b, off + j * 16 + 12, none⟩ = false := HM2.out.frozen _
        have d2_13 : w2.cell? ⟨b, off + j * 16 + 13, none⟩ = some (u j 13) := HM2.out.cell j hlt 13 (by decide) (Or.inr ⟨rfl, by decide⟩)
        generalize u j 13 = v2_13 at d2_13
        have z2_13 : w2.frozen? ⟨b, off + j * 16 + 13, none⟩ = false := HM2.out.frozen _
        have d2_14 : w2.cell? ⟨b, off + j * 16 + 14, none⟩ = some (u j 14) := HM2.out.cell j hlt 14 (by decide) (Or.inr ⟨rfl, by decide⟩)
        generalize u j 14 = v2_14 at d2_14
        have z2_14 : w2.frozen? ⟨b, off + j * 16 + 14, none⟩ = false := HM2.out.frozen _
        have d2_15 : w2.cell? ⟨b, off + j * 16 + 15, none⟩ = some (.slice a15 x.fValue.fArgs.length c15) := (HM2.out.cell j hlt 15 (by decide) (Or.inr ⟨rfl, by decide⟩)).trans (congrArg some hu15)
        have z2_15 : w2.frozen? ⟨b, off + j * 16 + 15, none⟩ = false := HM2.out.frozen _
        have HQ2 := Lib.hid (fun (v1 : Value) (v2 : Value) (v3 : Value) (v4 : Value) (v5 : Value) (w' : World) (hb : Below (((((w2.setCell ⟨b, off + j * 16 + 1, none⟩ v1).setCell ⟨b, off + j * 16 + 2, none⟩ v2).setCell ⟨b, off + j * 16 + 3, none⟩ v3).setCell ⟨b, off + j * 16 + 4, none⟩ v4).setCell ⟨b, off + j * 16 + 5, none⟩ v5).heap.size (((((w2.setCell ⟨b, off + j * 16 + 1, none⟩ v1).setCell ⟨b, off + j * 16 + 2, none⟩ v2).setCell ⟨b, off + j * 16 + 3, none⟩ v3).setCell ⟨b, off + j * 16 + 4, none⟩ v4).setCell ⟨b, off + j * 16 + 5, none⟩ v5) w') => (show MarkSt F 16 l.length b off (fun k => DContribution.ct (l.getD k default)) u G (fun _ _ => none) w j 6 w' from (((((HM2.out.set HO.out hlt (by decide) v1 (fun _ h => by cases h)).set HO.out hlt (by decide) v2 (fun _ h => by cases h)).set HO.out hlt (by decide) v3 (fun _ h => by cases h)).set HO.out hlt (by decide) v4 (fun _ h => by cases h)).set HO.out hlt (by decide) v5 (fun _ h => by cases h)).below hb))
        go_wp2_with fail
        refine (markTextI _ (by omega) (by omega) _).mono ?_
        rintro e w3 ⟨rfl, hb3⟩
        have HM3 := Lib.hid (HQ2.out _ _ _ _ _ _ hb3)
        clear hb3 HM2 HQ2 d2_1 z2_1 d2_2 z2_2 d2_3 z2_3 d2_4 z2_4 d2_5 z2_5 d2_6 z2_6 d2_7 z2_7 d2_8 z2_8 d2_9 z2_9 d2_10 z2_10 d2_11 z2_11 d2_12 z2_12 d2_13 z2_13 d2_14 z2_14 d2_15 z2_15
        have d3_6 : w3.cell? ⟨b, off + j * 16 + 6, none⟩ = some (u j 6) := HM3.out.cell j hlt 6 (by decide) (Or.inr ⟨rfl, by decide⟩)
        generalize u j 6 = v3_6 at d3_6
        have z3_6 : w3.frozen? ⟨b, off + j * 16 + 6, none⟩ = false := HM3.out.frozen _
        have d3_7 : w3.cell? ⟨b, off + j * 16 + 7, none⟩ = some (u j 7) := HM3.out.cell j hlt 7 (by decide) (Or.inr ⟨rfl, by decide⟩)
        generalize u j 7 = v3_7 at d3_7
        have z3_7 : w3.frozen? ⟨b, off + j * 16 + 7, none⟩ = false := HM3.out.frozen _
        have d3_8 : w3.cell? ⟨b, off + j * 16 + 8, none⟩ = some (.slice a8 x.fTarget.fArgs.length c8) := (HM3.out.cell j hlt 8 (by decide) (Or.inr ⟨rfl, by decide⟩)).trans (congrArg some hu8)
        have z3_8 : w3.frozen? ⟨b, off + j * 16 + 8, none⟩ = false := HM3.out.frozen _
        have d3_9 : w3.cell? ⟨b, off + j * 16 + 9, none⟩ = some (u j 9) := HM3.out.cell j hlt 9 (by decide) (Or.inr ⟨rfl, by decide⟩)
        generalize u j 9 = v3_9 at d3_9
        have z3_9 : w3.frozen? ⟨b, off + j * 16 + 9, none⟩ = false := HM3.out.frozen _
        have d3_10 : w3.cell? ⟨b, off + j * 16 + 10, none⟩ = some (u j 10) := HM3.out.cell j hlt 10 (by decide) (Or.inr ⟨rfl, by decide⟩)
        generalize u j 10 = v3_10 at d3_10
        have z3_10 : w3.frozen? ⟨b, off + j * 16 + 10, none⟩ = false := HM3.out.frozen _
        have d3_11 : w3.cell? ⟨b, off + j * 16 + 11, none⟩ = some (u j 11) := HM3.out.cell j hlt 11 (by decide) (Or.inr ⟨rfl, by decide⟩)
        generalize u j 11 = v3_11 at d3_11
        have z3_11 : w3.frozen? ⟨b, off + j * 16 + 11, none⟩ = false := HM3.out.frozen _
        have d3_12 : w3.cell? ⟨b, off + j * 16 + 12, none⟩ = some (u j 12) := HM3.out.cell j hlt 12 (by decide) (Or.inr ⟨rfl, by decide⟩)
        generalize u j 12 = v3_12 at d3_12
        have z3_12 : w3.frozen? ⟨b, off + j * 16 + 12, none⟩ = false := HM3.out.frozen _
        have d3_13 : w3.cell? ⟨b, off + j * 16 + 13, none⟩ = some (u j 13) := HM3.out.cell j hlt 13 (by decide) (Or.inr ⟨rfl, by decide⟩)
        generalize u j 13 = v3_13 at d3_13
        have z3_13 : w3.frozen? ⟨b, off + j * 16 + 13, none⟩ = false := HM3.out.frozen _
        have d3_14 : w3.cell? ⟨b, off + j * 16 + 14, none⟩ = some (u j 14) := HM3.out.cell j hlt 14 (by decide) (Or.inr ⟨rfl, by decide⟩)
        generalize u j 14 = v3_14 at d3_14
        have z3_14 : w3.frozen? ⟨b, off + j * 16 + 14, none⟩ = false := HM3.out.frozen _
        have d3_15 : w3.cell? ⟨b, off + j * 16 + 15, none⟩ = some (.slice a15 x.fValue.fArgs.length c15) := (HM3.out.cell j hlt 15 (by decide) (Or.inr ⟨rfl, by decide⟩)).trans (congrArg some hu15)
        have z3_15 : w3.frozen? ⟨b, off + j * 16 + 15, none⟩ = false := HM3.out.frozen _
        have HQ3 := Lib.hid (fun (v6 : Value) (w' : World) (hb : Below (w3.setCell ⟨b, off + j * 16 + 6, none⟩ v6).heap.size (w3.setCell ⟨b, off + j * 16 + 6, none⟩ v6) w') => (show MarkSt F 16 l.length b off (fun k => DContribution.ct (l.getD k default)) u G (fun _ _ => none) w j 7 w' from (HM3.out.set HO.out hlt (by decide) v6 (fun _ h => by cases h)).below hb))
        go_wp2_with fail
        refine (markTextI _ (by omega) (by omega) _).mono ?_
        rintro e w4 ⟨rfl, hb4⟩
        have HM4 := Lib.hid (HQ3.out _ _ hb4)
        clear hb4 HM3 HQ3 d3_6 z3_6 d3_7 z3_7 d3_8 z3_8 d3_9 z3_9 d3_10 z3_10 d3_11 z3_11 d3_12 z3_12 d3_13 z3_13 d3_14 z3_14 d3_15 z3_15
        have d4_7 : w4.cell? ⟨b, off + j * 16 + 7, none⟩ = some (u j 7) := HM4.out.cell j hlt 7 (by decide) (Or.inr ⟨rfl, by decide⟩)
        generalize u j 7 = v4_7 at d4_7
        have z4_7 : w4.frozen? ⟨b, off + j * 16 + 7, none⟩ = false := HM4.out.frozen _
        have d4_8 : w4.cell? ⟨b, off + j * 16 + 8, none⟩ = some (.slice a8 x.fTarget.fArgs.length c8) := (HM4.out.cell j hlt 8 (by decide) (Or.inr ⟨rfl, by decide⟩)).trans (congrArg some hu8)
        have z4_8 : w4.frozen? ⟨b, off + j * 16 + 8, none⟩ = false := HM4.out.frozen _
        have d4_9 : w4.cell? ⟨b, off + j * 16 + 9, none⟩ = some (u j 9) := HM4.out.cell j hlt 9 (by decide) (Or.inr ⟨rfl, by decide⟩)
        generalize u j 9 = v4_9 at d4_9
        have z4_9 : w4.frozen? ⟨b, off + j * 16 + 9, none⟩ = false := HM4.out.frozen _
        have d4_10 : w4.cell? ⟨b, off + j * 16 + 10, none⟩ = some (u j 10) := HM4.out.cell j hlt 10 (by decide) (Or.inr ⟨rfl, by decide⟩)
        generalize u j 10 = v4_10 at d4_10
        have z4_10 : w4.frozen? ⟨b, off + j * 16 + 10, none⟩ = false := HM4.out.frozen _
        have d4_11 : w4.cell? ⟨b, off + j * 16 + 11, none⟩ = some (u j 11) := HM4.out.cell j hlt 11 (by decide) (Or.inr ⟨rfl, by decide⟩)
        generalize u j 11 = v4_11 at d4_11
        have z4_11 : w4.frozen? ⟨b, off + j * 16 + 11, none⟩ = false := HM4.out.frozen _
        have d4_12 : w4.cell? ⟨b, off + j * 16 + 12, none⟩ = some (u j 12) := HM4.out.cell j hlt 12 (by decide) (Or.inr ⟨rfl, by decide⟩)
        generalize u j 12 = v4_12 at d4_12
        have z4_12 : w4.frozen? ⟨b, off + j * 16 + 12, none⟩ = false := HM4.out.frozen _
        have d4_13 : w4.cell? ⟨b, off + j * 16 + 13, none⟩ = some (u j 13) := HM4.out.cell j hlt 13 (by decide) (Or.inr ⟨rfl, by decide⟩)
        generalize u j 13 = v4_13 at d4_13
        have z4_13 : w4.frozen? ⟨b, off + j * 16 + 13, none⟩ = false := HM4.out.frozen _
        have d4_14 : w4.cell? ⟨b, off + j * 16 + 14, none⟩ = some (u j 14) := HM4.out.cell j hlt 14 (by decide) (Or.inr ⟨rfl, by decide⟩)
        generalize u j 14 = v4_14 at d4_14
        have z4_14 : w4.frozen? ⟨b, off + j * 16 + 14, none⟩ = false := HM4.out.frozen _
        have d4_15 : w4.cell? ⟨b, off + j * 16 + 15, none⟩ = some (.slice a15 x.fValue.fArgs.length c15) := (HM4.out.cell j hlt 15 (by decide) (Or.inr ⟨rfl, by decide⟩)).trans (congrArg some hu15)
        have z4_15 : w4.frozen? ⟨b, off + j * 16 + 15, none⟩ = false := HM4.out.frozen _
        have HP4 := Lib.hid (fun (v7 : Value) => HW8.out (w4.setCell ⟨b, off + j * 16 + 7, none⟩ v7) (HM4.out.set HO.out hlt (by decide) v7 (fun _ h => by cases h)))
        have HQ4 := Lib.hid (fun (v7 : Value) (w' : World) (hw : WritesF (G j 8) (w4.setCell ⟨b, off + j * 16 + 7, none⟩ v7) w') => (show MarkSt F 16 l.length b off (fun k => DContribution.ct (l.getD k default)) u G (fun _ _ => none) w j 9 w' from (HM4.out.set HO.out hlt (by decide) v7 (fun _ h => by cases h)).call HO.out hlt (by decide) rfl hw))
        have hn4 := Lib.hid (show lsz DExpr.sz x.fTarget.fArgs ≤ 1048576 from (by have h1 := hsu.out; have h2 := hle2.out; have h3_0 := HU0.out; have h3_1 := HU1.out; have h3_2 := HU2.out; omega))
        go_wp2_with fail
        refine (wmark_ExprS x.fTarget.fArgs hn4.out _ (by omega) (by have h1 := hsu.out; have h2 := hle2.out; have h3_0 := HU0.out; have h3_1 := HU1.out; have h3_2 := HU2.out; omega) _ (HP4.out _)).mono ?_
        rintro e w5 ⟨k5, rfl, hka5, hkb5, hw5⟩
        have HM5 := Lib.hid (HQ4.out _ _ hw5)
        have hkz5 : 1 ≤ k5 ∧ k5 ≤ 4611686018427387904 := by have h1 := hsu.out; have h2 := hle2.out; have h3_0 := HU0.out; have h3_1 := HU1.out; have h3_2 := HU2.out; omega
        clear hw5 HM4 HP4 HQ4 d4_7 z4_7 d4_8 z4_8 d4_9 z4_9 d4_10 z4_10 d4_11 z4_11 d4_12 z4_12 d4_13 z4_13 d4_14 z4_14 d4_15 z4_15
        have d5_9 : w5.cell? ⟨b, off + j * 16 + 9, none⟩ = some (u j 9) := HM5.out.cell j hlt 9 (by decide) (Or.inr ⟨rfl, by decide⟩)
        generalize u j 9 = v5_9 at d5_9
        have z5_9 : w5.frozen? ⟨b, off + j * 16 + 9, none⟩ = false := HM5.out.frozen _
        have d5_10 : w5.cell? ⟨b, off + j * 16 + 10, none⟩ = some (u j 10) := HM5.out.cell j hlt 10 (by decide) (Or.inr ⟨rfl, by decide⟩)
        generalize u j 10 = v5_10 at d5_10
        have z5_10 : w5.frozen? ⟨b, off + j * 16 + 10, none⟩ = false := HM5.out.frozen _
        have d5_11 : w5.cell? ⟨b, off + j * 16 + 11, none⟩ = some (u j 11) := HM5.out.cell j hlt 11 (by decide) (Or.inr ⟨rfl, by decide⟩)
        generalize u j 11 = v5_11 at d5_11
        have z5_11 : w5.frozen? ⟨b, off + j * 16 + 11, none⟩ = false := HM5.out.frozen _
        have d5_12 : w5.cell? ⟨b, off + j * 16 + 12, none⟩ = some (u j 12) := HM5.out.cell j hlt 12 (by decide) (Or.inr ⟨rfl, by decide⟩)
        generalize u j 12 = v5_12 at d5_12
        have z5_12 : w5.frozen? ⟨b, off + j * 16 + 12, none⟩ = false := HM5.out.frozen _
        have d5_13 : w5.cell? ⟨b, off + j * 16 + 13, none⟩ = some (u j 13) := HM5.out.cell j hlt 13 (by decide) (Or.inr ⟨rfl, by decide⟩)
        generalize u j 13 = v5_13 at d5_13
        have z5_13 : w5.frozen? ⟨b, off + j * 16 + 13, none⟩ = false := HM5.out.frozen _
        have d5_14 : w5.cell? ⟨b, off + j * 16 + 14, none⟩ = some (u j 14) := HM5.out.cell j hlt 14 (by decide) (Or.inr ⟨rfl, by decide⟩)
        generalize u j 14 = v5_14 at d5_14
        have z5_14 : w5.frozen? ⟨b, off + j * 16 + 14, none⟩ = false := HM5.out.frozen _
        have d5_15 : w5.cell? ⟨b, off + j * 16 + 15, none⟩ = some (.slice a15 x.fValue.fArgs.length c15) := (HM5.out.cell j hlt 15 (by decide) (Or.inr ⟨rfl, by decide⟩)).trans (congrArg some hu15)
        have z5_15 : w5.frozen? ⟨b, off + j * 16 + 15, none⟩ = false := HM5.out.frozen _
        have HQ5 := Lib.hid (fun (v9 : Value) (v10 : Value) (v11 : Value) (v12 : Value) (w' : World) (hb : Below ((((w5.setCell ⟨b, off + j * 16 + 9, none⟩ v9).setCell ⟨b, off + j * 16 + 10, none⟩ v10).setCell ⟨b, off + j * 16 + 11, none⟩ v11).setCell ⟨b, off + j * 16 + 12, none⟩ v12).heap.size ((((w5.setCell ⟨b, off + j * 16 + 9, none⟩ v9).setCell ⟨b, off + j * 16 + 10, none⟩ v10).setCell ⟨b, off + j * 16 + 11, none⟩ v11).setCell ⟨b, off + j * 16 + 12, none⟩ v12) w') => (show MarkSt F 16 l.length b off (fun k => DContribution.ct (l.getD k default)) u G (fun _ _ => none) w j 13 w' from ((((HM5.out.set HO.out hlt (by decide) v9 (fun _ h => by cases h)).set HO.out hlt (by decide) v10 (fun _ h => by cases h)).set HO.out hlt (by decide) v11 (fun _ h => by cases h)).set HO.out hlt (by decide) v12 (fun _ h => by cases h)).below hb))
        go_wp2_with fail
        refine (markTextI _ (by omega) (by omega) _).mono ?_
        rintro e w6 ⟨rfl, hb6⟩
        have HM6 := Lib.hid (HQ5.out _ _ _ _ _ hb6)
        clear hb6 HM5 HQ5 d5_9 z5_9 d5_10 z5_10 d5_11 z5_11 d5_12 z5_12 d5_13 z5_13 d5_14 z5_14 d5_15 z5_15
        have d6_13 : w6.cell? ⟨b, off + j * 16 + 13, none⟩ = some (u j 13) := HM6.out.cell j hlt 13 (by decide) (Or.inr ⟨rfl, by decide⟩)
        generalize u j 13 = v6_13 at d6_13
        have z6_13 : w6.frozen? ⟨b, off + j * 16 + 13, none⟩ = false := HM6.out.frozen _
        have d6_14 : w6.cell? ⟨b, off + j * 16 + 14, none⟩ = some (u j 14) := HM6.out.cell j hlt 14 (by decide) (Or.inr ⟨rfl, by decide⟩)
        generalize u j 14 = v6_14 at d6_14
        have z6_14 : w6.frozen? ⟨b, off + j * 16 + 14, none⟩ = false := HM6.out.frozen _
        have d6_15 : w6.cell? ⟨b, off + j * 16 + 15, none⟩ = some (.slice a15 x.fValue.fArgs.length c15) := (HM6.out.cell j hlt 15 (by decide) (Or.inr ⟨rfl, by decide⟩)).trans (congrArg some hu15)
        have z6_15 : w6.frozen? ⟨b, off + j * 16 + 15, none⟩ = false := HM6.out.frozen _
        have HQ6 := Lib.hid (fun (v13 : Value) (w' : World) (hb : Below (w6.setCell ⟨b, off + j * 16 + 13, none⟩ v13).heap.size (w6.setCell ⟨b, off + j * 16 + 13, none⟩ v13) w') => (show MarkSt F 16 l.length b off (fun k => DContribution.ct (l.getD k default)) u G (fun _ _ => none) w j 14 w' from (HM6.out.set HO.out hlt (by decide) v13 (fun _ h => by cases h)).below hb))
        go_wp2_with fail
        refine (markTextI _ (by omega) (by omega) _).mono ?_
        rintro e w7 ⟨rfl, hb7⟩
        have HM7 := Lib.hid (HQ6.out _ _ hb7)
        clear hb7 HM6 HQ6 d6_13 z6_13 d6_14 z6_14 d6_15 z6_15
        have d7_14 : w7.cell? ⟨b, off + j * 16 + 14, none⟩ = some (u j 14) := HM7.out.cell j hlt 14 (by decide) (Or.inr ⟨rfl, by decide⟩)
        generalize u j 14 = v7_14 at d7_14
        have z7_14 : w7.frozen? ⟨b, off + j * 16 + 14, none⟩ = false := HM7.out.frozen _
        have d7_15 : w7.cell? ⟨b, off + j * 16 + 15, none⟩ = some (.slice a15 x.fValue.fArgs.length c15) := (HM7.out.cell j hlt 15 (by decide) (Or.inr ⟨rfl, by decide⟩)).trans (congrArg some hu15)
        have z7_15 : w7.frozen? ⟨b, off + j * 16 + 15, none⟩ = false := HM7.out.frozen _
        have HP7 := Lib.hid (fun (v14 : Value) => HW15.out (w7.setCell ⟨b, off + j * 16 + 14, none⟩ v14) (HM7.out.set HO.out hlt (by decide) v14 (fun _ h => by cases h)))
        have HQ7 := Lib.hid (fun (v14 : Value) (w' : World) (hw : WritesF (G j 15) (w7.setCell ⟨b, off + j * 16 + 14, none⟩ v14) w') => (show MarkSt F 16 l.length b off (fun k => DContribution.ct (l.getD k default)) u G (fun _ _ => none) w j 16 w' from (HM7.out.set HO.out hlt (by decide) v14 (fun _ h => by cases h)).call HO.out hlt (by decide) rfl hw))
        have hn7 := Lib.hid (show lsz DExpr.sz x.fValue.fArgs ≤ 1048576 from (by have h1 := hsu.out; have h2 := hle2.out; have h3_0 := HU0.out; have h3_1 := HU1.out; have h3_2 := HU2.out; omega))
        go_wp2_with fail
        refine (wmark_ExprS x.fValue.fArgs hn7.out _ (by omega) (by have h1 := hsu.out; have h2 := hle2.out; have h3_0 := HU0.out; have h3_1 := HU1.out; have h3_2 := HU2.out; omega) _ (HP7.out _)).mono ?_
        rintro e w8 ⟨k8, rfl, hka8, hkb8, hw8⟩
        have HM8 := Lib.hid (HQ7.out _ _ hw8)
        have hkz8 : 1 ≤ k8 ∧ k8 ≤ 4611686018427387904 := by have h1 := hsu.out; have h2 := hle2.out; have h3_0 := HU0.out; have h3_1 := HU1.out; have h3_2 := HU2.out; omega
        clear hw8 HM7 HP7 HQ7 d7_14 z7_14 d7_15 z7_15
        have HNX := Lib.hid ((show MarkSt F 16 l.length b off (fun k => DContribution.ct (l.getD k default)) u G (fun _ _ => none) w (j + 1) 0 w8 from HM8.out.next rfl))
        go_wp2
        go_roundw
        case rel =>
          have h1 := hsu.out
          have h2 := hle2.out
          have h3_0 := HU0.out
          have h3_1 := HU1.out
          have h3_2 := HU2.out
          refine ⟨j + 1, _, by omega, by go_num, rfl, by omega, by rw [h1]; omega, HNX.out⟩
        case measure => simp [intOf]; omega
      · obtain rfl : j = l.length := by omega
        go_wp2
        go_ret
        exact ⟨_, rfl, hz0, by have h1 := psz_le DContribution.sz l l.length; omega, HM0.out.writes⟩
end Go.Proofs.YtnmepemmpeboeaaGreat
namespace Go.Proofs.YtnmepemmpeboeaaGreat
open Go.ChangeShapes Go.WideShapes Go.ChangeAt Go.RowKit Go.Deep

set_option maxHeartbeats 3200000 in
set_option maxRecDepth 100000 in
theorem wmark_EquationS {F : Nat → Prop} {a : Option Addr} {cap : Nat} (l : List DEquation) (hn : lsz DEquation.sz l ≤ 1048576) (k : Int) (hk0 : 1 ≤ k) (hk : k + 16 * (lsz DEquation.sz l : Nat) ≤ 4611686018427387904) (w : World) (ho : Own w F (.sl 9 l.length (fun k => DEquation.ct (l.getD k default))) (.slice a l.length cap)) :
    Calls Tryz.prog 48 #[.slice a l.length cap, .int .i64 k] w fun e w' => ∃ k' : Int, e = .returned (.int .i64 k') ∧ k ≤ k' ∧ k' ≤ k + 16 * (lsz DEquation.sz l : Nat) ∧ WritesF F w w' := by
  rcases mark_start (fun _ _ => none) ho with h0 | ⟨b, off, u, G, rfl, hO, hM⟩
  · have HL := Lib.hid h0
    clear ho hn
    generalize l.length = n at *
    obtain rfl : n = 0 := HL.out
    generalize lsz DEquation.sz l = Z at *
    go_enter Tryz.func48, Tryz.ntmps48
    go_wp2
    go_loop [1, 5] (fun q i => q = .int .i64 k ∧ i = .int .i64 0) (fun _ _ => 0)
    case atStart => exact ⟨rfl, rfl⟩
    case round =>
      obtain ⟨rfl, rfl⟩ := hrel
      go_wp2
      go_ret
      exact ⟨_, rfl, Int.le_refl _, by omega, WritesF.refl _ _⟩
  · have HO := Lib.hid hO
    have HMS := Lib.hid hM
    clear ho hO hM
    have hlen := lsz_pos DEquation.sz l
    go_enter Tryz.func48, Tryz.ntmps48
    go_wp2
    go_loopw [1, 5] (fun q i wr => ∃ (j : Nat) (z : Int), j ≤ l.length ∧ i = .int .i64 (j : Int) ∧ q = .int .i64 z ∧ k ≤ z ∧ z ≤ k + 16 * ((j + psz DEquation.sz l j : Nat) : Int) ∧ MarkSt F 9 l.length b off (fun k => DEquation.ct (l.getD k default)) u G (fun _ _ => none) w j 0 wr) (fun _ i _ => l.length - (intOf i).toNat)
    case atStart => exact ⟨0, k, Nat.zero_le _, rfl, rfl, Int.le_refl _, by omega, HMS.out⟩
    case round =>
      clear HMS
      obtain ⟨j, z, hj, rfl, rfl, hz0, hz1, hm⟩ := hrel
      have HM0 := Lib.hid hm
      clear hm
      by_cases hlt : j < l.length
      · skip
        have hsu := Lib.hid (psz_succ DEquation.sz l j hlt)
        have hle2 := Lib.hid (psz_le DEquation.sz l (j + 1))
        have hzb : 1 ≤ z ∧ z ≤ 4611686018527387904 := by have h1 := hsu.out; have h2 := hle2.out; omega
        obtain ⟨a8, c8, hu8, _⟩ := own_sl (n := 7) (len := (l.getD j default).fExpr.fArgs.length) (f := (ctE (l.getD j default).fExpr.fArgs)) (HM0.out.own j hlt 8 (by decide) (Or.inr ⟨rfl, Nat.zero_le _⟩))
        have HW8 := Lib.hid (fun (W : World) (h : MarkSt F 9 l.length b off (fun k => DEquation.ct (l.getD k default)) u G (fun _ _ => none) w j 8 W) => (show Own W (G j 8) (.sl 7 (l.getD j default).fExpr.fArgs.length (ctE (l.getD j default).fExpr.fArgs)) (.slice a8 (l.getD j default).fExpr.fArgs.length c8) from by have h1 := h.own j hlt 8 (by decide) (Or.inr ⟨rfl, Nat.le_refl _⟩); rw [hu8] at h1; exact h1))
        have HU0 := Lib.hid (show DEquation.sz (l.getD j default) = DOccurrence.sz (l.getD j default).fAt + DExpr.sz (l.getD j default).fExpr from rfl)
        have HU1 := Lib.hid (show DOccurrence.sz (l.getD j default).fAt = (l.getD j default).fAt.fName.size from rfl)
        have HU2 := Lib.hid (show DExpr.sz (l.getD j default).fExpr = (l.getD j default).fExpr.fSymbol.size + (l.getD j default).fExpr.fName.size + (lsz DExpr.sz) (l.getD j default).fExpr.fArgs from DExpr.sz_eq _)
        generalize l.getD j default = x at *
        have d0_0 : wr.cell? ⟨b, off + j * 9, none⟩ = some (u j 0) := HM0.out.cell j hlt 0 (by decide) (Or.inr ⟨rfl, by decide⟩)
        generalize u j 0 = v0_0 at d0_0
        have z0_0 : wr.frozen? ⟨b, off + j * 9, none⟩ = false := HM0.out.frozen _
        have d0_1 : wr.cell? ⟨b, off + j * 9 + 1, none⟩ = some (u j 1) := HM0.out.cell j hlt 1 (by decide) (Or.inr ⟨rfl, by decide⟩)
        generalize u j 1 = v0_1 at d0_1
        have z0_1 : wr.frozen? ⟨b, off + j * 9 + 1, none⟩ = false := HM0.out.frozen _
        have d0_2 : wr.cell? ⟨b, off + j * 9 + 2, none⟩ = some (u j 2) := HM0.out.cell j hlt 2 (by decide) (Or.inr ⟨rfl, by decide⟩)
        generalize u j 2 = v0_2 at d0_2
        have z0_2 : wr.frozen? ⟨b, off + j * 9 + 2, none⟩ = false := HM0.out.frozen _
        have d0_3 : wr.cell? ⟨b, off + j * 9 + 3, none⟩ = some (u j 3) := HM0.out.cell j hlt 3 (by decide) (Or.inr ⟨rfl, by decide⟩)
        generalize u j 3 = v0_3 at d0_3
        have z0_3 : wr.frozen? ⟨b, off + j * 9 + 3, none⟩ = false := HM0.out.frozen _
        have d0_4 : wr.cell? ⟨b, off + j * 9 + 4, none⟩ = some (u j 4) := HM0.out.cell j hlt 4 (by decide) (Or.inr ⟨rfl, by decide⟩)
        generalize u j 4 = v0_4 at d0_4
        have z0_4 : wr.frozen? ⟨b, off + j * 9 + 4, none⟩ = false := HM0.out.frozen _
        have d0_5 : wr.cell? ⟨b, off + j * 9 + 5, none⟩ = some (u j 5) := HM0.out.cell j hlt 5 (by decide) (Or.inr ⟨rfl, by decide⟩)
        generalize u j 5 = v0_5 at d0_5
        have z0_5 : wr.frozen? ⟨b, off + j * 9 + 5, none⟩ = false := HM0.out.frozen _
        have d0_6 : wr.cell? ⟨b, off + j * 9 + 6, none⟩ = some (u j 6) := HM0.out.cell j hlt 6 (by decide) (Or.inr ⟨rfl, by decide⟩)
        generalize u j 6 = v0_6 at d0_6
        have z0_6 : wr.frozen? ⟨b, off + j * 9 + 6, none⟩ = false := HM0.out.frozen _
        have d0_7 : wr.cell? ⟨b, off + j * 9 + 7, none⟩ = some (u j 7) := HM0.out.cell j hlt 7 (by decide) (Or.inr ⟨rfl, by decide⟩)
        generalize u j 7 = v0_7 at d0_7
        have z0_7 : wr.frozen? ⟨b, off + j * 9 + 7, none⟩ = false := HM0.out.frozen _
        have d0_8 : wr.cell? ⟨b, off + j * 9 + 8, none⟩ = some (.slice a8 x.fExpr.fArgs.length c8) := (HM0.out.cell j hlt 8 (by decide) (Or.inr ⟨rfl, by decide⟩)).trans (congrArg some hu8)
        have z0_8 : wr.frozen? ⟨b, off + j * 9 + 8, none⟩ = false := HM0.out.frozen _
        have HQ0 := Lib.hid (fun (v0 : Value) (w' : World) (hb : Below (wr.setCell ⟨b, off + j * 9, none⟩ v0).heap.size (wr.setCell ⟨b, off + j * 9, none⟩ v0) w') => (show MarkSt F 9 l.length b off (fun k => DEquation.ct (l.getD k default)) u G (fun _ _ => none) w j 1 w' from (HM0.out.set HO.out hlt (by decide) v0 (fun _ h => by cases h)).below hb))
        go_wp2_with fail
        refine (markTextI _ (by omega) (by omega) _).mono ?_
        rintro e w1 ⟨rfl, hb1⟩
        have HM1 := Lib.hid (HQ0.out _ _ hb1)
        clear hb1 HM0 HQ0 d0_0 z0_0 d0_1 z0_1 d0_2 z0_2 d0_3 z0_3 d0_4 z0_4 d0_5 z0_5 d0_6 z0_6 d0_7 z0_7 d0_8 z0_8
        have d1_1 : w1.cell? ⟨b, off + j * 9 + 1, none⟩ = some (u j 1) := HM1.out.cell j hlt 1 (by decide) (Or.inr ⟨rfl, by decide⟩)
        generalize u j 1 = v1_1 at d1_1
        have z1_1 : w1.frozen? ⟨b, off + j * 9 + 1, none⟩ = false := HM1.out.frozen _
        have d1_2 : w1.cell? ⟨b, off + j * 9 + 2, none⟩ = some (u j 2) := HM1.out.cell j hlt 2 (by decide) (Or.inr ⟨rfl, by decide⟩)
        generalize u j 2 = v1_2 at d1_2
        have z1_2 : w1.frozen? ⟨b, off + j * 9 + 2, none⟩ = false := HM1.out.frozen _
        have d1_3 : w1.cell? ⟨b, off + j * 9 + 3, none⟩ = some (u j 3) := HM1.out.cell j hlt 3 (by decide) (Or.inr ⟨rfl, by decide⟩)
        generalize u j 3 = v1_3 at d1_3
        have z1_3 : w1.frozen? ⟨b, off + j * 9 + 3, none⟩ = false := HM1.out.frozen _
        have d1_4 : w1.cell? ⟨b, off + j * 9 + 4, none⟩ = some (u j 4) := HM1.out.cell j hlt 4 (by decide) (Or.inr ⟨rfl, by decide⟩)
        generalize u j 4 = v1_4 at d1_4
        have z1_4 : w1.frozen? ⟨b, off + j * 9 + 4, none⟩ = false := HM1.out.frozen _
        have d1_5 : w1.cell? ⟨b, off + j * 9 + 5, none⟩ = some (u j 5) := HM1.out.cell j hlt 5 (by decide) (Or.inr ⟨rfl, by decide⟩)
        generalize u j 5 = v1_5 at d1_5
        have z1_5 : w1.frozen? ⟨b, off + j * 9 + 5, none⟩ = false := HM1.out.frozen _
        have d1_6 : w1.cell? ⟨b, off + j * 9 + 6, none⟩ = some (u j 6) := HM1.out.cell j hlt 6 (by decide) (Or.inr ⟨rfl, by decide⟩)
        generalize u j 6 = v1_6 at d1_6
        have z1_6 : w1.frozen? ⟨b, off + j * 9 + 6, none⟩ = false := HM1.out.frozen _
        have d1_7 : w1.cell? ⟨b, off + j * 9 + 7, none⟩ = some (u j 7) := HM1.out.cell j hlt 7 (by decide) (Or.inr ⟨rfl, by decide⟩)
        generalize u j 7 = v1_7 at d1_7
        have z1_7 : w1.frozen? ⟨b, off + j * 9 + 7, none⟩ = false := HM1.out.frozen _
        have d1_8 : w1.cell? ⟨b, off + j * 9 + 8, none⟩ = some (.slice a8 x.fExpr.fArgs.length c8) := (HM1.out.cell j hlt 8 (by decide) (Or.inr ⟨rfl, by decide⟩)).trans (congrArg some hu8)
        have z1_8 : w1.frozen? ⟨b, off + j * 9 + 8, none⟩ = false := HM1.out.frozen _
        have HQ1 := Lib.hid (fun (v1 : Value) (v2 : Value) (v3 : Value) (v4 : Value) (v5 : Value) (w' : World) (hb : Below (((((w1.setCell ⟨b, off + j * 9 + 1, none⟩ v1).setCell ⟨b, off + j * 9 + 2, none⟩ v2).setCell ⟨b, off + j * 9 + 3, none⟩ v3).setCell ⟨b, off + j * 9 + 4, none⟩ v4).setCell ⟨b, off + j * 9 + 5, none⟩ v5).heap.size (((((w1.setCell ⟨b, off + j * 9 + 1, none⟩ v1).setCell ⟨b, off + j * 9 + 2, none⟩ v2).setCell ⟨b, off + j * 9 + 3, none⟩ v3).setCell ⟨b, off + j * 9 + 4, none⟩ v4).setCell ⟨b, off + j * 9 + 5, none⟩ v5) w') => (show MarkSt F 9 l.length b off (fun k => DEquation.ct (l.getD k default)) u G (fun _ _ => none) w j 6 w' from (((((HM1.out.set HO.out hlt (by decide) v1 (fun _ h => by cases h)).set HO.out hlt (by decide) v2 (fun _ h => by cases h)).set HO.out hlt (by decide) v3 (fun _ h => by cases h)).set HO.out hlt (by decide) v4 (fun _ h => by cases h)).set HO.out hlt (by decide) v5 (fun _ h => by cases h)).below hb))
        go_wp2_with fail
        refine (markTextI _ (by omega) (by omega) _).mono ?_
        rintro e w2 ⟨rfl, hb2⟩
        have HM2 := Lib.hid (HQ1.out _ _ _ _ _ _ hb2)
        clear hb2 HM1 HQ1 d1_1 z1_1 d1_2 z1_2 d1_3 z1_3 d1_4 z1_4 d1_5 z1_5 d1_6 z1_6 d1_7 z1_7 d1_8 z1_8
        have d2_6 : w2.cell? ⟨b, off + j * 9 + 6, none⟩ = some (u j 6) := HM2.out.cell j hlt 6 (by decide) (Or.inr ⟨rfl, by decide⟩)
        generalize u j 6 = v2_6 at d2_6
        have z2_6 : w2.frozen? ⟨b, off + j * 9 + 6, none⟩ = false := HM2.out.frozen _
        have d2_7 : w2.cell? ⟨b, off + j * 9 + 7, none⟩ = some (u j 7) := HM2.out.cell j hlt 7 (by decide) (Or.inr ⟨rfl, by decide⟩)
        generalize u j 7 = v2_7 at d2_7
        have z2_7 : w2.frozen? ⟨b, off + j * 9 + 7, none⟩ = false := HM2.out.frozen _
        have d2_8 : w2.cell? ⟨b, off + j * 9 + 8, none⟩ = some (.slice a8 x.fExpr.fArgs.length c8) := (HM2.out.cell j hlt 8 (by decide) (Or.inr ⟨rfl, by decide⟩)).trans (congrArg some hu8)
        have z2_8 : w2.frozen? ⟨b, off + j * 9 + 8, none⟩ = false := HM2.out.frozen _
        have HQ2 := Lib.hid (fun (v6 : Value) (w' : World) (hb : Below (w2.setCell ⟨b, off + j * 9 + 6, none⟩ v6).heap.size (w2.setCell ⟨b, off + j * 9 + 6, none⟩ v6) w') => (show MarkSt F 9 l.length b off (fun k => DEquation.ct (l.getD k default)) u G (fun _ _ => none) w j 7 w' from (HM2.out.set HO.out hlt (by decide) v6 (fun _ h => by cases h)).below hb))
        go_wp2_with fail
        refine (markTextI _ (by omega) (by omega) _).mono ?_
        rintro e w3 ⟨rfl, hb3⟩
        have HM3 := Lib.hid (HQ2.out _ _ hb3)
        clear hb3 HM2 HQ2 d2_6 z2_6 d2_7 z2_7 d2_8 z2_8
        have d3_7 : w3.cell? ⟨b, off + j * 9 + 7, none⟩ = some (u j 7) := HM3.out.cell j hlt 7 (by decide) (Or.inr ⟨rfl, by decide⟩)
        generalize u j 7 = v3_7 at d3_7
        have z3_7 : w3.frozen? ⟨b, off + j * 9 + 7, none⟩ = false := HM3.out.frozen _
        have d3_8 : w3.cell? ⟨b, off + j * 9 + 8, none⟩ = some (.slice a8 x.fExpr.fArgs.length c8) := (HM3.out.cell j hlt 8 (by decide) (Or.inr ⟨rfl, by decide⟩)).trans (congrArg some hu8)
        have z3_8 : w3.frozen? ⟨b, off + j * 9 + 8, none⟩ = false := HM3.out.frozen _
        have HP3 := Lib.hid (fun (v7 : Value) => HW8.out (w3.setCell ⟨b, off + j * 9 + 7, none⟩ v7) (HM3.out.set HO.out hlt (by decide) v7 (fun _ h => by cases h)))
        have HQ3 := Lib.hid (fun (v7 : Value) (w' : World) (hw : WritesF (G j 8) (w3.setCell ⟨b, off + j * 9 + 7, none⟩ v7) w') => (show MarkSt F 9 l.length b off (fun k => DEquation.ct (l.getD k default)) u G (fun _ _ => none) w j 9 w' from (HM3.out.set HO.out hlt (by decide) v7 (fun _ h => by cases h)).call HO.out hlt (by decide) rfl hw))
        have hn3 := Lib.hid (show lsz DExpr.sz x.fExpr.fArgs ≤ 1048576 from (by have h1 := hsu.out; have h2 := hle2.out; have h3_0 := HU0.out; have h3_1 := HU1.out; have h3_2 := HU2.out; omega))
        go_wp2_with fail
        refine (wmark_ExprS x.fExpr.fArgs hn3.out _ (by omega) (by have h1 := hsu.out; have h2 := hle2.out; have h3_0 := HU0.out; have h3_1 := HU1.out; have h3_2 := HU2.out; omega) _ (HP3.out _)).mono ?_
        rintro e w4 ⟨k4, rfl, hka4, hkb4, hw4⟩
        have HM4 := Lib.hid (HQ3.out _ _ hw4)
        have hkz4 : 1 ≤ k4 ∧ k4 ≤ 4611686018427387904 := by have h1 := hsu.out; have h2 := hle2.out; have h3_0 := HU0.out; have h3_1 := HU1.out; have h3_2 := HU2.out; omega
        clear hw4 HM3 HP3 HQ3 d3_7 z3_7 d3_8 z3_8
        have HNX := Lib.hid ((show MarkSt F 9 l.length b off (fun k => DEquation.ct (l.getD k default)) u G (fun _ _ => none) w (j + 1) 0 w4 from HM4.out.next rfl))
        go_wp2
        go_roundw
        case rel =>
          have h1 := hsu.out
          have h2 := hle2.out
          have h3_0 := HU0.out
          have h3_1 := HU1.out
          have h3_2 := HU2.out
          refine ⟨j + 1, _, by omega, by go_num, rfl, by omega, by rw [h1]; omega, HNX.out⟩
        case measure => simp [intOf]; omega
      · obtain rfl : j = l.length := by omega
        go_wp2
        go_ret
        exact ⟨_, rfl, hz0, by have h1 := psz_le DEquation.sz l l.length; omega, HM0.out.writes⟩
end Go.Proofs.YtnmepemmpeboeaaGreat
namespace Go.Proofs.YtnmepemmpeboeaaGreat
open Go.ChangeShapes Go.WideShapes Go.ChangeAt Go.RowKit Go.Deep

/-- The marks from number k on. -/
def mkvStr (k t : Nat) : Nat → Value
  | 0 => .string (mk (k + 1 * t + 0))
  | _ => .nilFunc

set_option maxHeartbeats 3200000 in
set_option maxRecDepth 100000 in
theorem laws_markStringS {F : Nat → Prop} {a : Option Addr} {cap : Nat} (l : List ByteArray) (hn : l.length ≤ 1048576) (k : Nat) (hk0 : 1 ≤ k) (hk : k ≤ 4611686018427387904) (w : World) (ho : Own w F (.sl 1 l.length (fun k => ictS (l.getD k default))) (.slice a l.length cap)) :
    Calls Tryz.prog 47 #[.slice a l.length cap, .int .i64 (k : Int)] w fun e w' => e = .returned (.int .i64 ((k + 1 * l.length : Nat) : Int)) ∧ Own w' F (.sl 1 l.length (fun t c => .lit (mkvStr k t c))) (.slice a l.length cap) ∧ WritesF F w w' := by
  rcases mark_start (fun t c => some (mkvStr k t c)) ho with h0 | ⟨b, off, u, G, rfl, hO, hM⟩
  · have HL := Lib.hid h0
    clear ho hn
    generalize l.length = n at *
    obtain rfl : n = 0 := HL.out
    go_enter Tryz.func47, Tryz.ntmps47
    go_wp2
    go_loop [1, 5] (fun q i => q = .int .i64 (k : Int) ∧ i = .int .i64 0) (fun _ _ => 0)
    case atStart => exact ⟨rfl, rfl⟩
    case round =>
      obtain ⟨rfl, rfl⟩ := hrel
      go_wp2
      go_ret
      exact ⟨rfl, .nil _ _ _ _ _, WritesF.refl _ _⟩
  · have HO := Lib.hid hO
    have HMS := Lib.hid hM
    clear ho hO hM
    go_enter Tryz.func47, Tryz.ntmps47
    go_wp2
    go_loopw [1, 5] (fun q i wr => ∃ j : Nat, j ≤ l.length ∧ i = .int .i64 (j : Int) ∧ q = .int .i64 ((k + 1 * j : Nat) : Int) ∧ MarkSt F 1 l.length b off (fun k => ictS (l.getD k default)) u G (fun t c => some (mkvStr k t c)) w j 0 wr) (fun _ i _ => l.length - (intOf i).toNat)
    case atStart => exact ⟨0, Nat.zero_le _, rfl, by go_num, HMS.out⟩
    case round =>
      clear HMS
      obtain ⟨j, hj, rfl, rfl, hm⟩ := hrel
      have HM0 := Lib.hid hm
      clear hm
      by_cases hlt : j < l.length
      · skip
        obtain ⟨z, hz⟩ : ∃ z : Int, z = ((k + 1 * j : Nat) : Int) := ⟨_, rfl⟩
        rw [← hz]
        have HZ := Lib.hid hz
        have hzb : 1 ≤ z ∧ z ≤ 4611686018527387904 := by omega
        clear hz
        have d0_0 : wr.cell? ⟨b, off + j, none⟩ = some (u j 0) := (by have h9 := HM0.out.cell j hlt 0 (by decide) (Or.inr ⟨rfl, by decide⟩); rw [Nat.mul_one] at h9; exact h9)
        generalize u j 0 = v0_0 at d0_0
        have z0_0 : wr.frozen? ⟨b, off + j, none⟩ = false := HM0.out.frozen _
        have HQ0 := Lib.hid (fun (w' : World) (hb : Below wr.heap.size wr w') => (show MarkSt F 1 l.length b off (fun k => ictS (l.getD k default)) u G (fun t c => some (mkvStr k t c)) w j 0 w' from HM0.out.below hb))
        go_wp2_with fail
        refine (markTextI _ (by omega) (by omega) _).mono ?_
        rintro e w1 ⟨rfl, hb1⟩
        have HM1 := Lib.hid (HQ0.out _ hb1)
        clear hb1 HM0 HQ0 d0_0 z0_0
        have d1_0 : w1.cell? ⟨b, off + j, none⟩ = some (u j 0) := (by have h9 := HM1.out.cell j hlt 0 (by decide) (Or.inr ⟨rfl, by decide⟩); rw [Nat.mul_one] at h9; exact h9)
        generalize u j 0 = v1_0 at d1_0
        have z1_0 : w1.frozen? ⟨b, off + j, none⟩ = false := HM1.out.frozen _
        have HNX := Lib.hid (fun (v0 : Value) (h0 : ∀ z, (some (mkvStr k j 0) : Option Value) = some z → z = v0) => (show MarkSt F 1 l.length b off (fun k => ictS (l.getD k default)) u G (fun t c => some (mkvStr k t c)) w (j + 1) 0 (w1.setCell ⟨b, off + j, none⟩ v0) from (HM1.out.set1 HO.out hlt v0 h0).next rfl))
        go_wp2
        go_roundw
        case rel =>
          have hz := HZ.out
          refine ⟨j + 1, by omega, by go_num, ?_, HNX.out _ (fun _ h => (Option.some.inj h).symm.trans (by unfold mkvStr; have h9 := HZ.out; first | exact congrArg (Value.int .i64) (by omega) | exact congrArg (fun q : Nat => Value.string (mk q)) (by omega) | exact congrArg (Value.bool) (by rw [h9]; exact mod3 (by omega))))⟩
          exact congrArg (Value.int .i64) (by omega)
        case measure => simp [intOf]; omega
      · obtain rfl : j = l.length := by omega
        go_wp2
        go_ret
        exact ⟨rfl, HM0.out.marked HO.out cap (fun _ _ _ _ => rfl), HM0.out.writes⟩

theorem wmark_StringS {F : Nat → Prop} {a : Option Addr} {cap : Nat} (l : List ByteArray) (hn : lsz ByteArray.size l ≤ 1048576) (k : Int) (hk0 : 1 ≤ k) (hk : k + 16 * (lsz ByteArray.size l : Nat) ≤ 4611686018427387904) (w : World) (ho : Own w F (.sl 1 l.length (fun k => ictS (l.getD k default))) (.slice a l.length cap)) :
    Calls Tryz.prog 47 #[.slice a l.length cap, .int .i64 k] w fun e w' => ∃ k' : Int, e = .returned (.int .i64 k') ∧ k ≤ k' ∧ k' ≤ k + 16 * (lsz ByteArray.size l : Nat) ∧ WritesF F w w' := by
  obtain ⟨m, rfl⟩ : ∃ m : Nat, k = m := ⟨k.toNat, by omega⟩
  have hl := lsz_pos ByteArray.size l
  refine (laws_markStringS l (by omega) m (by omega) (by omega) w ho).mono ?_
  rintro e w1 ⟨rfl, _, hw⟩
  exact ⟨_, rfl, by omega, by omega, hw⟩
end Go.Proofs.YtnmepemmpeboeaaGreat
namespace Go.Proofs.YtnmepemmpeboeaaGreat
open Go.ChangeShapes Go.WideShapes Go.ChangeAt Go.RowKit Go.Deep

set_option maxHeartbeats 3200000 in
set_option maxRecDepth 100000 in
theorem wmark_RuleS {F : Nat → Prop} {a : Option Addr} {cap : Nat} (l : List DRule) (hn : lsz DRule.sz l ≤ 1048576) (k : Int) (hk0 : 1 ≤ k) (hk : k + 16 * (lsz DRule.sz l : Nat) ≤ 4611686018427387904) (w : World) (ho : Own w F (.sl 6 l.length (fun k => DRule.ct (l.getD k default))) (.slice a l.length cap)) :
    Calls Tryz.prog 46 #[.slice a l.length cap, .int .i64 k] w fun e w' => ∃ k' : Int, e = .returned (.int .i64 k') ∧ k ≤ k' ∧ k' ≤ k + 16 * (lsz DRule.sz l : Nat) ∧ WritesF F w w' := by
  rcases mark_start (fun _ _ => none) ho with h0 | ⟨b, off, u, G, rfl, hO, hM⟩
  · have HL := Lib.hid h0
    clear ho hn
    generalize l.length = n at *
    obtain rfl : n = 0 := HL.out
    generalize lsz DRule.sz l = Z at *
    go_enter Tryz.func46, Tryz.ntmps46
    go_wp2
    go_loop [1, 5] (fun q i => q = .int .i64 k ∧ i = .int .i64 0) (fun _ _ => 0)
    case atStart => exact ⟨rfl, rfl⟩
    case round =>
      obtain ⟨rfl, rfl⟩ := hrel
      go_wp2
      go_ret
      exact ⟨_, rfl, Int.le_refl _, by omega, WritesF.refl _ _⟩
  · have HO := Lib.hid hO
    have HMS := Lib.hid hM
    clear ho hO hM
    have hlen := lsz_pos DRule.sz l
    go_enter Tryz.func46, Tryz.ntmps46
    go_wp2
    go_loopw [1, 5] (fun q i wr => ∃ (j : Nat) (z : Int), j ≤ l.length ∧ i = .int .i64 (j : Int) ∧ q = .int .i64 z ∧ k ≤ z ∧ z ≤ k + 16 * ((j + psz DRule.sz l j : Nat) : Int) ∧ MarkSt F 6 l.length b off (fun k => DRule.ct (l.getD k default)) u G (fun _ _ => none) w j 0 wr) (fun _ i _ => l.length - (intOf i).toNat)
    case atStart => exact ⟨0, k, Nat.zero_le _, rfl, rfl, Int.le_refl _, by omega, HMS.out⟩
    case round =>
      clear HMS
      obtain ⟨j, z, hj, rfl, rfl, hz0, hz1, hm⟩ := hrel
      have HM0 := Lib.hid hm
      clear hm
      by_cases hlt : j < l.length
      · skip
        have hsu := Lib.hid (psz_succ DRule.sz l j hlt)
        have hle2 := Lib.hid (psz_le DRule.sz l (j + 1))
        have hzb : 1 ≤ z ∧ z ≤ 4611686018527387904 := by have h1 := hsu.out; have h2 := hle2.out; omega
        obtain ⟨a2, c2, hu2, _⟩ := own_sl (n := 1) (len := (l.getD j default).fRight.length) (f := (fun k => ictS ((l.getD j default).fRight.getD k default))) (HM0.out.own j hlt 2 (by decide) (Or.inr ⟨rfl, Nat.zero_le _⟩))
        have HW2 := Lib.hid (fun (W : World) (h : MarkSt F 6 l.length b off (fun k => DRule.ct (l.getD k default)) u G (fun _ _ => none) w j 2 W) => (show Own W (G j 2) (.sl 1 (l.getD j default).fRight.length (fun k => ictS ((l.getD j default).fRight.getD k default))) (.slice a2 (l.getD j default).fRight.length c2) from by have h1 := h.own j hlt 2 (by decide) (Or.inr ⟨rfl, Nat.le_refl _⟩); rw [hu2] at h1; exact h1))
        obtain ⟨a4, c4, hu4, _⟩ := own_sl (n := 9) (len := (l.getD j default).fEquations.length) (f := (fun k => DEquation.ct ((l.getD j default).fEquations.getD k default))) (HM0.out.own j hlt 4 (by decide) (Or.inr ⟨rfl, Nat.zero_le _⟩))
        have HW4 := Lib.hid (fun (W : World) (h : MarkSt F 6 l.length b off (fun k => DRule.ct (l.getD k default)) u G (fun _ _ => none) w j 4 W) => (show Own W (G j 4) (.sl 9 (l.getD j default).fEquations.length (fun k => DEquation.ct ((l.getD j default).fEquations.getD k default))) (.slice a4 (l.getD j default).fEquations.length c4) from by have h1 := h.own j hlt 4 (by decide) (Or.inr ⟨rfl, Nat.le_refl _⟩); rw [hu4] at h1; exact h1))
        obtain ⟨a5, c5, hu5, _⟩ := own_sl (n := 16) (len := (l.getD j default).fContributions.length) (f := (fun k => DContribution.ct ((l.getD j default).fContributions.getD k default))) (HM0.out.own j hlt 5 (by decide) (Or.inr ⟨rfl, Nat.zero_le _⟩))
        have HW5 := Lib.hid (fun (W : World) (h : MarkSt F 6 l.length b off (fun k => DRule.ct (l.getD k default)) u G (fun _ _ => none) w j 5 W) => (show Own W (G j 5) (.sl 16 (l.getD j default).fContributions.length (fun k => DContribution.ct ((l.getD j default).fContributions.getD k default))) (.slice a5 (l.getD j default).fContributions.length c5) from by have h1 := h.own j hlt 5 (by decide) (Or.inr ⟨rfl, Nat.le_refl _⟩); rw [hu5] at h1; exact h1))
        have HU0 := Lib.hid (show DRule.sz (l.getD j default) = (l.getD j default).fName.size + (l.getD j default).fLeft.size + (lsz ByteArray.size) (l.getD j default).fRight + (lsz DEquation.sz) (l.getD j default).fEquations + (lsz DContribution.sz) (l.getD j default).fContributions from rfl)
        generalize l.getD j default = x at *
        have d0_0 : wr.cell? ⟨b, off + j * 6, none⟩ = some (u j 0) := HM0.out.cell j hlt 0 (by decide) (Or.inr ⟨rfl, by decide⟩)
        generalize u j 0 = v0_0 at d0_0
        have z0_0 : wr.frozen? ⟨b, off + j * 6, none⟩ = false := HM0.out.frozen _
        have d0_1 : wr.cell? ⟨b, off + j * 6 + 1, none⟩ = some (u j 1) := HM0.out.cell j hlt 1 (by decide) (Or.inr ⟨rfl, by decide⟩)
        generalize u j 1 = v0_1 at d0_1
        have z0_1 : wr.frozen? ⟨b, off + j * 6 + 1, none⟩ = false := HM0.out.frozen _
        have d0_2 : wr.cell? ⟨b, off + j * 6 + 2, none⟩ = some (.slice a2 x.fRight.length c2) := (HM0.out.cell j hlt 2 (by decide) (Or.inr ⟨rfl, by decide⟩)).trans (congrArg some hu2)
        have z0_2 : wr.frozen? ⟨b, off + j * 6 + 2, none⟩ = false := HM0.out.frozen _
        have d0_3 : wr.cell? ⟨b, off + j * 6 + 3, none⟩ = some (u j 3) := HM0.out.cell j hlt 3 (by decide) (Or.inr ⟨rfl, by decide⟩)
        generalize u j 3 = v0_3 at d0_3
        have z0_3 : wr.frozen? ⟨b, off + j * 6 + 3, none⟩ = false := HM0.out.frozen _
        have d0_4 : wr.cell? ⟨b, off + j * 6 + 4, none⟩ = some (.slice a4 x.fEquations.length c4) := (HM0.out.cell j hlt 4 (by decide) (Or.inr ⟨rfl, by decide⟩)).trans (congrArg some hu4)
        have z0_4 : wr.frozen? ⟨b, off + j * 6 + 4, none⟩ = false := HM0.out.frozen _
        have d0_5 : wr.cell? ⟨b, off + j * 6 + 5, none⟩ = some (.slice a5 x.fContributions.length c5) := (HM0.out.cell j hlt 5 (by decide) (Or.inr ⟨rfl, by decide⟩)).trans (congrArg some hu5)
        have z0_5 : wr.frozen? ⟨b, off + j * 6 + 5, none⟩ = false := HM0.out.frozen _
        have HQ0 := Lib.hid (fun (w' : World) (hb : Below wr.heap.size wr w') => (show MarkSt F 6 l.length b off (fun k => DRule.ct (l.getD k default)) u G (fun _ _ => none) w j 0 w' from HM0.out.below hb))
        go_wp2_with fail
        refine (markTextI _ (by omega) (by omega) _).mono ?_
        rintro e w1 ⟨rfl, hb1⟩
        have HM1 := Lib.hid (HQ0.out _ hb1)
        clear hb1 HM0 HQ0 d0_0 z0_0 d0_1 z0_1 d0_2 z0_2 d0_3 z0_3 d0_4 z0_4 d0_5 z0_5
        have d1_0 : w1.cell? ⟨b, off + j * 6, none⟩ = some (u j 0) := HM1.out.cell j hlt 0 (by decide) (Or.inr ⟨rfl, by decide⟩)
        generalize u j 0 = v1_0 at d1_0
        have z1_0 : w1.frozen? ⟨b, off + j * 6, none⟩ = false := HM1.out.frozen _
        have d1_1 : w1.cell? ⟨b, off + j * 6 + 1, none⟩ = some (u j 1) := HM1.out.cell j hlt 1 (by decide) (Or.inr ⟨rfl, by decide⟩)
        generalize u j 1 = v1_1 at d1_1
        have z1_1 : w1.frozen? ⟨b, off + j * 6 + 1, none⟩ = false := HM1.out.frozen _
        have d1_2 : w1.cell? ⟨b, off + j * 6 + 2, none⟩ = some (.slice a2 x.fRight.length c2) := (HM1.out.cell j hlt 2 (by decide) (Or.inr ⟨rfl, by decide⟩)).trans (congrArg some hu2)
        have z1_2 : w1.frozen? ⟨b, off + j * 6 + 2, none⟩ = false := HM1.out.frozen _
        have d1_3 : w1.cell? ⟨b, off + j * 6 + 3, none⟩ = some (u j 3) := HM1.out.cell j hlt 3 (by decide) (Or.inr ⟨rfl, by decide⟩)
        generalize u j 3 = v1_3 at d1_3
        have z1_3 : w1.frozen? ⟨b, off + j * 6 + 3, none⟩ = false := HM1.out.frozen _
        have d1_4 : w1.cell? ⟨b, off + j * 6 + 4, none⟩ = some (.slice a4 x.fEquations.length c4) := (HM1.out.cell j hlt 4 (by decide) (Or.inr ⟨rfl, by decide⟩)).trans (congrArg some hu4)
        have z1_4 : w1.frozen? ⟨b, off + j * 6 + 4, none⟩ = false := HM1.out.frozen _
        have d1_5 : w1.cell? ⟨b, off + j * 6 + 5, none⟩ = some (.slice a5 x.fContributions.length c5) := (HM1.out.cell j hlt 5 (by decide) (Or.inr ⟨rfl, by decide⟩)).trans (congrArg some hu5)
        have z1_5 : w1.frozen? ⟨b, off + j * 6 + 5, none⟩ = false := HM1.out.frozen _
        have HQ1 := Lib.hid (fun (v0 : Value) (w' : World) (hb : Below (w1.setCell ⟨b, off + j * 6, none⟩ v0).heap.size (w1.setCell ⟨b, off + j * 6, none⟩ v0) w') => (show MarkSt F 6 l.length b off (fun k => DRule.ct (l.getD k default)) u G (fun _ _ => none) w j 1 w' from (HM1.out.set HO.out hlt (by decide) v0 (fun _ h => by cases h)).below hb))
        go_wp2_with fail
        refine (markTextI _ (by omega) (by omega) _).mono ?_
        rintro e w2 ⟨rfl, hb2⟩
        have HM2 := Lib.hid (HQ1.out _ _ hb2)
        clear hb2 HM1 HQ1 d1_0 z1_0 d1_1 z1_1 d1_2 z1_2 d1_3 z1_3 d1_4 z1_4 d1_5 z1_5
        have d2_1 : w2.cell? ⟨b, off + j * 6 + 1, none⟩ = some (u j 1) := HM2.out.cell j hlt 1 (by decide) (Or.inr ⟨rfl, by decide⟩)
        generalize u j 1 = v2_1 at d2_1
        have z2_1 : w2.frozen? ⟨b, off + j * 6 + 1, none⟩ = false := HM2.out.frozen _
        have d2_2 : w2.cell? ⟨b, off + j * 6 + 2, none⟩ = some (.slice a2 x.fRight.length c2) := (HM2.out.cell j hlt 2 (by decide) (Or.inr ⟨rfl, by decide⟩)).trans (congrArg some hu2)
        have z2_2 : w2.frozen? ⟨b, off + j * 6 + 2, none⟩ = false := HM2.out.frozen _
        have d2_3 : w2.cell? ⟨b, off + j * 6 + 3, none⟩ = some (u j 3) := HM2.out.cell j hlt 3 (by decide) (Or.inr ⟨rfl, by decide⟩)
        generalize u j 3 = v2_3 at d2_3
        have z2_3 : w2.frozen? ⟨b, off + j * 6 + 3, none⟩ = false := HM2.out.frozen _
        have d2_4 : w2.cell? ⟨b, off + j * 6 + 4, none⟩ = some (.slice a4 x.fEquations.length c4) := (HM2.out.cell j hlt 4 (by decide) (Or.inr ⟨rfl, by decide⟩)).trans (congrArg some hu4)
        have z2_4 : w2.frozen? ⟨b, off + j * 6 + 4, none⟩ = false := HM2.out.frozen _
        have d2_5 : w2.cell? ⟨b, off + j * 6 + 5, none⟩ = some (.slice a5 x.fContributions.length c5) := (HM2.out.cell j hlt 5 (by decide) (Or.inr ⟨rfl, by decide⟩)).trans (congrArg some hu5)
        have z2_5 : w2.frozen? ⟨b, off + j * 6 + 5, none⟩ = false := HM2.out.frozen _
        have HP2 := Lib.hid (fun (v1 : Value) => HW2.out (w2.setCell ⟨b, off + j * 6 + 1, none⟩ v1) (HM2.out.set HO.out hlt (by decide) v1 (fun _ h => by cases h)))
        have HQ2 := Lib.hid (fun (v1 : Value) (w' : World) (hw : WritesF (G j 2) (w2.setCell ⟨b, off + j * 6 + 1, none⟩ v1) w') => (show MarkSt F 6 l.length b off (fun k => DRule.ct (l.getD k default)) u G (fun _ _ => none) w j 3 w' from (HM2.out.set HO.out hlt (by decide) v1 (fun _ h => by cases h)).call HO.out hlt (by decide) rfl hw))
        have hn2 := Lib.hid (show lsz ByteArray.size x.fRight ≤ 1048576 from (by have h1 := hsu.out; have h2 := hle2.out; have h3_0 := HU0.out; omega))
        go_wp2_with fail
        refine (wmark_StringS x.fRight hn2.out _ (by omega) (by have h1 := hsu.out; have h2 := hle2.out; have h3_0 := HU0.out; omega) _ (HP2.out _)).mono ?_
        rintro e w3 ⟨k3, rfl, hka3, hkb3, hw3⟩
        have HM3 := Lib.hid (HQ2.out _ _ hw3)
        have hkz3 : 1 ≤ k3 ∧ k3 ≤ 4611686018427387904 := by have h1 := hsu.out; have h2 := hle2.out; have h3_0 := HU0.out; omega
        clear hw3 HM2 HP2 HQ2 d2_1 z2_1 d2_2 z2_2 d2_3 z2_3 d2_4 z2_4 d2_5 z2_5
        have d3_3 : w3.cell? ⟨b, off + j * 6 + 3, none⟩ = some (u j 3) := HM3.out.cell j hlt 3 (by decide) (Or.inr ⟨rfl, by decide⟩)
        generalize u j 3 = v3_3 at d3_3
        have z3_3 : w3.frozen? ⟨b, off + j * 6 + 3, none⟩ = false := HM3.out.frozen _
        have d3_4 : w3.cell? ⟨b, off + j * 6 + 4, none⟩ = some (.slice a4 x.fEquations.length c4) := (HM3.out.cell j hlt 4 (by decide) (Or.inr ⟨rfl, by decide⟩)).trans (congrArg some hu4)
        have z3_4 : w3.frozen? ⟨b, off + j * 6 + 4, none⟩ = false := HM3.out.frozen _
        have d3_5 : w3.cell? ⟨b, off + j * 6 + 5, none⟩ = some (.slice a5 x.fContributions.length c5) := (HM3.out.cell j hlt 5 (by decide) (Or.inr ⟨rfl, by decide⟩)).trans (congrArg some hu5)
        have z3_5 : w3.frozen? ⟨b, off + j * 6 + 5, none⟩ = false := HM3.out.frozen _
        have HP3 := Lib.hid (fun (v3 : Value) => HW4.out (w3.setCell ⟨b, off + j * 6 + 3, none⟩ v3) (HM3.out.set HO.out hlt (by decide) v3 (fun _ h => by cases h)))
        have HQ3 := Lib.hid (fun (v3 : Value) (w' : World) (hw : WritesF (G j 4) (w3.setCell ⟨b, off + j * 6 + 3, none⟩ v3) w') => (show MarkSt F 6 l.length b off (fun k => DRule.ct (l.getD k default)) u G (fun _ _ => none) w j 5 w' from (HM3.out.set HO.out hlt (by decide) v3 (fun _ h => by cases h)).call HO.out hlt (by decide) rfl hw))
        have hn3 := Lib.hid (show lsz DEquation.sz x.fEquations ≤ 1048576 from (by have h1 := hsu.out; have h2 := hle2.out; have h3_0 := HU0.out; omega))
        go_wp2_with fail
        refine (wmark_EquationS x.fEquations hn3.out _ (by omega) (by have h1 := hsu.out; have h2 := hle2.out; have h3_0 := HU0.out; omega) _ (HP3.out _)).mono ?_
        rintro e w4 ⟨k4, rfl, hka4, hkb4, hw4⟩
        have HM4 := Lib.hid (HQ3.out _ _ hw4)
        have hkz4 : 1 ≤ k4 ∧ k4 ≤ 4611686018427387904 := by have h1 := hsu.out; have h2 := hle2.out; have h3_0 := HU0.out; omega
        clear hw4 HM3 HP3 HQ3 d3_3 z3_3 d3_4 z3_4 d3_5 z3_5
        have d4_5 : w4.cell? ⟨b, off + j * 6 + 5, none⟩ = some (.slice a5 x.fContributions.length c5) := (HM4.out.cell j hlt 5 (by decide) (Or.inr ⟨rfl, by decide⟩)).trans (congrArg some hu5)
        have z4_5 : w4.frozen? ⟨b, off + j * 6 + 5, none⟩ = false := HM4.out.frozen _
        have HP4 := Lib.hid (HW5.out w4 HM4.out)
        have HQ4 := Lib.hid (fun (w' : World) (hw : WritesF (G j 5) w4 w') => (show MarkSt F 6 l.length b off (fun k => DRule.ct (l.getD k default)) u G (fun _ _ => none) w j 6 w' from HM4.out.call HO.out hlt (by decide) rfl hw))
        have hn4 := Lib.hid (show lsz DContribution.sz x.fContributions ≤ 1048576 from (by have h1 := hsu.out; have h2 := hle2.out; have h3_0 := HU0.out; omega))
        go_wp2_with fail
        refine (wmark_ContributionS x.fContributions hn4.out _ (by omega) (by have h1 := hsu.out; have h2 := hle2.out; have h3_0 := HU0.out; omega) _ (HP4.out)).mono ?_
        rintro e w5 ⟨k5, rfl, hka5, hkb5, hw5⟩
        have HM5 := Lib.hid (HQ4.out _ hw5)
        have hkz5 : 1 ≤ k5 ∧ k5 ≤ 4611686018427387904 := by have h1 := hsu.out; have h2 := hle2.out; have h3_0 := HU0.out; omega
        clear hw5 HM4 HP4 HQ4 d4_5 z4_5
        have HNX := Lib.hid ((show MarkSt F 6 l.length b off (fun k => DRule.ct (l.getD k default)) u G (fun _ _ => none) w (j + 1) 0 w5 from HM5.out.next rfl))
        go_wp2
        go_roundw
        case rel =>
          have h1 := hsu.out
          have h2 := hle2.out
          have h3_0 := HU0.out
          refine ⟨j + 1, _, by omega, by go_num, rfl, by omega, by rw [h1]; omega, HNX.out⟩
        case measure => simp [intOf]; omega
      · obtain rfl : j = l.length := by omega
        go_wp2
        go_ret
        exact ⟨_, rfl, hz0, by have h1 := psz_le DRule.sz l l.length; omega, HM0.out.writes⟩

set_option maxHeartbeats 3200000 in
set_option maxRecDepth 100000 in
theorem wmark_Rule {F : Nat → Prop} {a2 : Option Addr} {c2 : Nat} {a4 : Option Addr} {c4 : Nat} {a5 : Option Addr} {c5 : Nat} (x : DRule) (hsz : x.sz ≤ 1048576) (k : Int) (hk0 : 1 ≤ k) (hk : k + 16 * (x.sz : Nat) ≤ 4611686018427387904) (w : World) (hF : ∀ y, F y → y < w.heap.size) (ho : OwnR w F 6 x.ct (fun j => [.string x.fName, .string x.fLeft, .slice a2 x.fRight.length c2, .bool x.fLiteral, .slice a4 x.fEquations.length c4, .slice a5 x.fContributions.length c5].getD j .nilFunc)) :
    Calls Tryz.prog 14 #[.agg #[.string x.fName, .string x.fLeft, .slice a2 x.fRight.length c2, .bool x.fLiteral, .slice a4 x.fEquations.length c4, .slice a5 x.fContributions.length c5], .int .i64 k] w fun e w' => ∃ k' : Int, e = .returned (.int .i64 k') ∧ k ≤ k' ∧ k' ≤ k + 16 * (x.sz : Nat) ∧ WritesF F w w' := by
  obtain ⟨G, g1, g2, g3⟩ := ho
  have HB := Lib.hid ((Below.refl w.heap.size w).alloc (Nat.le_refl _) (.cells #[.string x.fName, .string x.fLeft, .slice a2 x.fRight.length c2, .bool x.fLiteral, .slice a4 x.fEquations.length c4, .slice a5 x.fContributions.length c5] 45))
  have HSZ := Lib.hid hsz
  have HO2 := Lib.hid (show Own w (G 2) (.sl 1 x.fRight.length (fun k => ictS (x.fRight.getD k default))) (.slice a2 x.fRight.length c2) from g1 2 (by decide))
  have HO4 := Lib.hid (show Own w (G 4) (.sl 9 x.fEquations.length (fun k => DEquation.ct (x.fEquations.getD k default))) (.slice a4 x.fEquations.length c4) from g1 4 (by decide))
  have HO5 := Lib.hid (show Own w (G 5) (.sl 16 x.fContributions.length (fun k => DContribution.ct (x.fContributions.getD k default))) (.slice a5 x.fContributions.length c5) from g1 5 (by decide))
  have HK := Lib.hid (fun j hj x hx => hF x (g2 j hj x hx))
  have HG2 := Lib.hid g2
  have HG3 := Lib.hid g3
  clear g1 g2 g3 hsz
  unfold DRule.sz at HSZ hk ⊢
  go_enter Tryz.func14, Tryz.ntmps14
  go_wp2_with fail
  refine (wmark_StringS _ (by have h := HSZ.out; omega) _ (by omega) (by omega) _ (HO2.out.kept (Kept.of_below HB.out (HK.out 2 (by decide))))).mono ?_
  rintro e w1 ⟨k1, rfl, hka1, hkb1, hw1⟩
  have hkz1 : 1 ≤ k1 ∧ k1 ≤ 4611686018427387904 := by have h := HSZ.out; omega
  have HW1 := Lib.hid ((hw1.sub (HG2.out 2 (by decide))).of_below HB.out)
  have HO4_1 := Lib.hid (HO4.out.kept ((Kept.of_below HB.out (HK.out 4 (by decide))).trans (hw1.kept (fun y hy hf => absurd (HG3.out 4 (by decide) 2 (by decide) y hy hf) (by decide)))))
  have HO5_1 := Lib.hid (HO5.out.kept ((Kept.of_below HB.out (HK.out 5 (by decide))).trans (hw1.kept (fun y hy hf => absurd (HG3.out 5 (by decide) 2 (by decide) y hy hf) (by decide)))))
  have x1_4 : w1.cell? ⟨w.heap.size, 4, none⟩ = some (.slice a4 x.fEquations.length c4) := (World.cell?_of_block (a := ⟨w.heap.size, 4, none⟩) (hw1.block w.heap.size (by simp) (fun hf => absurd (HK.out 2 (by decide) _ hf) (Nat.lt_irrefl _)))).trans (by go_simp)
  have x1_5 : w1.cell? ⟨w.heap.size, 5, none⟩ = some (.slice a5 x.fContributions.length c5) := (World.cell?_of_block (a := ⟨w.heap.size, 5, none⟩) (hw1.block w.heap.size (by simp) (fun hf => absurd (HK.out 2 (by decide) _ hf) (Nat.lt_irrefl _)))).trans (by go_simp)
  have SZ1 := Lib.hid (show (w.alloc (.cells #[.string x.fName, .string x.fLeft, .slice a2 x.fRight.length c2, .bool x.fLiteral, .slice a4 x.fEquations.length c4, .slice a5 x.fContributions.length c5] 45)).heap.size ≤ w1.heap.size from hw1.size)
  clear hw1
  go_wp2_with fail
  refine (wmark_EquationS _ (by have h := HSZ.out; omega) _ (by omega) (by omega) _ (HO4_1.out)).mono ?_
  rintro e w2 ⟨k2, rfl, hka2, hkb2, hw2⟩
  have hkz2 : 1 ≤ k2 ∧ k2 ≤ 4611686018427387904 := by have h := HSZ.out; omega
  have HW2 := Lib.hid (HW1.out.trans (hw2.sub (HG2.out 4 (by decide))))
  have HO5_2 := Lib.hid (HO5_1.out.kept (hw2.kept (fun y hy hf => absurd (HG3.out 5 (by decide) 4 (by decide) y hy hf) (by decide))))
  have x2_5 : w2.cell? ⟨w.heap.size, 5, none⟩ = some (.slice a5 x.fContributions.length c5) := (World.cell?_of_block (a := ⟨w.heap.size, 5, none⟩) (hw2.block w.heap.size (Nat.lt_of_lt_of_le (by simp) (SZ1.out)) (fun hf => absurd (HK.out 4 (by decide) _ hf) (Nat.lt_irrefl _)))).trans x1_5
  have SZ2 := Lib.hid (Nat.le_trans SZ1.out hw2.size)
  clear hw2
  go_wp2_with fail
  refine (wmark_ContributionS _ (by have h := HSZ.out; omega) _ (by omega) (by omega) _ (HO5_2.out)).mono ?_
  rintro e w3 ⟨k3, rfl, hka3, hkb3, hw3⟩
  have hkz3 : 1 ≤ k3 ∧ k3 ≤ 4611686018427387904 := by have h := HSZ.out; omega
  have HW3 := Lib.hid (HW2.out.trans (hw3.sub (HG2.out 5 (by decide))))
  clear hw3
  go_wp2
  go_ret
  exact ⟨_, rfl, by omega, by have h := HSZ.out; omega, HW3.out⟩
end Go.Proofs.YtnmepemmpeboeaaGreat
namespace Go.Proofs.YtnmepemmpeboeaaGreat
open Go.ChangeShapes Go.WideShapes Go.ChangeAt Go.RowKit Go.Deep

theorem mod3 {n : Nat} {a : Int} (h : (n : Int) = a) : (n % 3 == 0) = (a % 3 == 0) := by
  subst h
  rw [Bool.eq_iff_iff, beq_iff_eq, beq_iff_eq]
  omega

/-- The marks from number k on. -/
def mkvAttribute (k t : Nat) : Nat → Value
  | 0 => .string (mk (k + 4 * t + 0))
  | 1 => .int .i64 ((k + 4 * t + 1 : Nat) : Int)
  | 2 => .int .i64 ((k + 4 * t + 2 : Nat) : Int)
  | 3 => .bool ((k + 4 * t + 3) % 3 == 0)
  | _ => .nilFunc

set_option maxHeartbeats 3200000 in
set_option maxRecDepth 100000 in
theorem laws_markAttributeS {F : Nat → Prop} {a : Option Addr} {cap : Nat} (l : List DAttribute) (hn : l.length ≤ 1048576) (k : Nat) (hk0 : 1 ≤ k) (hk : k ≤ 4611686018427387904) (w : World) (ho : Own w F (.sl 4 l.length (fun k => DAttribute.ct (l.getD k default))) (.slice a l.length cap)) :
    Calls Tryz.prog 81 #[.slice a l.length cap, .int .i64 (k : Int)] w fun e w' => e = .returned (.int .i64 ((k + 4 * l.length : Nat) : Int)) ∧ Own w' F (.sl 4 l.length (fun t c => .lit (mkvAttribute k t c))) (.slice a l.length cap) ∧ WritesF F w w' := by
  rcases mark_start (fun t c => some (mkvAttribute k t c)) ho with h0 | ⟨b, off, u, G, rfl, hO, hM⟩
  · have HL := Lib.hid h0
    clear ho hn
    generalize l.length = n at *
    obtain rfl : n = 0 := HL.out
    go_enter Tryz.func81, Tryz.ntmps81
    go_wp2
    go_loop [1, 5] (fun q i => q = .int .i64 (k : Int) ∧ i = .int .i64 0) (fun _ _ => 0)
    case atStart => exact ⟨rfl, rfl⟩
    case round =>
      obtain ⟨rfl, rfl⟩ := hrel
      go_wp2
      go_ret
      exact ⟨rfl, .nil _ _ _ _ _, WritesF.refl _ _⟩
  · have HO := Lib.hid hO
    have HMS := Lib.hid hM
    clear ho hO hM
    go_enter Tryz.func81, Tryz.ntmps81
    go_wp2
    go_loopw [1, 5] (fun q i wr => ∃ j : Nat, j ≤ l.length ∧ i = .int .i64 (j : Int) ∧ q = .int .i64 ((k + 4 * j : Nat) : Int) ∧ MarkSt F 4 l.length b off (fun k => DAttribute.ct (l.getD k default)) u G (fun t c => some (mkvAttribute k t c)) w j 0 wr) (fun _ i _ => l.length - (intOf i).toNat)
    case atStart => exact ⟨0, Nat.zero_le _, rfl, by go_num, HMS.out⟩
    case round =>
      clear HMS
      obtain ⟨j, hj, rfl, rfl, hm⟩ := hrel
      have HM0 := Lib.hid hm
      clear hm
      by_cases hlt : j < l.length
      · skip
        obtain ⟨z, hz⟩ : ∃ z : Int, z = ((k + 4 * j : Nat) : Int) := ⟨_, rfl⟩
        rw [← hz]
        have HZ := Lib.hid hz
        have hzb : 1 ≤ z ∧ z ≤ 4611686018527387904 := by omega
        clear hz
        have d0_0 : wr.cell? ⟨b, off + j * 4, none⟩ = some (u j 0) := HM0.out.cell j hlt 0 (by decide) (Or.inr ⟨rfl, by decide⟩)
        generalize u j 0 = v0_0 at d0_0
        have z0_0 : wr.frozen? ⟨b, off + j * 4, none⟩ = false := HM0.out.frozen _
        have d0_1 : wr.cell? ⟨b, off + j * 4 + 1, none⟩ = some (u j 1) := HM0.out.cell j hlt 1 (by decide) (Or.inr ⟨rfl, by decide⟩)
        generalize u j 1 = v0_1 at d0_1
        have z0_1 : wr.frozen? ⟨b, off + j * 4 + 1, none⟩ = false := HM0.out.frozen _
        have d0_2 : wr.cell? ⟨b, off + j * 4 + 2, none⟩ = some (u j 2) := HM0.out.cell j hlt 2 (by decide) (Or.inr ⟨rfl, by decide⟩)
        generalize u j 2 = v0_2 at d0_2
        have z0_2 : wr.frozen? ⟨b, off + j * 4 + 2, none⟩ = false := HM0.out.frozen _
        have d0_3 : wr.cell? ⟨b, off + j * 4 + 3, none⟩ = some (u j 3) := HM0.out.cell j hlt 3 (by decide) (Or.inr ⟨rfl, by decide⟩)
        generalize u j 3 = v0_3 at d0_3
        have z0_3 : wr.frozen? ⟨b, off + j * 4 + 3, none⟩ = false := HM0.out.frozen _
        have HQ0 := Lib.hid (fun (w' : World) (hb : Below wr.heap.size wr w') => (show MarkSt F 4 l.length b off (fun k => DAttribute.ct (l.getD k default)) u G (fun t c => some (mkvAttribute k t c)) w j 0 w' from HM0.out.below hb))
        go_wp2_with fail
        refine (markTextI _ (by omega) (by omega) _).mono ?_
        rintro e w1 ⟨rfl, hb1⟩
        have HM1 := Lib.hid (HQ0.out _ hb1)
        clear hb1 HM0 HQ0 d0_0 z0_0 d0_1 z0_1 d0_2 z0_2 d0_3 z0_3
        have d1_0 : w1.cell? ⟨b, off + j * 4, none⟩ = some (u j 0) := HM1.out.cell j hlt 0 (by decide) (Or.inr ⟨rfl, by decide⟩)
        generalize u j 0 = v1_0 at d1_0
        have z1_0 : w1.frozen? ⟨b, off + j * 4, none⟩ = false := HM1.out.frozen _
        have d1_1 : w1.cell? ⟨b, off + j * 4 + 1, none⟩ = some (u j 1) := HM1.out.cell j hlt 1 (by decide) (Or.inr ⟨rfl, by decide⟩)
        generalize u j 1 = v1_1 at d1_1
        have z1_1 : w1.frozen? ⟨b, off + j * 4 + 1, none⟩ = false := HM1.out.frozen _
        have d1_2 : w1.cell? ⟨b, off + j * 4 + 2, none⟩ = some (u j 2) := HM1.out.cell j hlt 2 (by decide) (Or.inr ⟨rfl, by decide⟩)
        generalize u j 2 = v1_2 at d1_2
        have z1_2 : w1.frozen? ⟨b, off + j * 4 + 2, none⟩ = false := HM1.out.frozen _
        have d1_3 : w1.cell? ⟨b, off + j * 4 + 3, none⟩ = some (u j 3) := HM1.out.cell j hlt 3 (by decide) (Or.inr ⟨rfl, by decide⟩)
        generalize u j 3 = v1_3 at d1_3
        have z1_3 : w1.frozen? ⟨b, off + j * 4 + 3, none⟩ = false := HM1.out.frozen _
        have HNX := Lib.hid (fun (v0 : Value) (h0 : ∀ z, (some (mkvAttribute k j 0) : Option Value) = some z → z = v0) (v1 : Value) (h1 : ∀ z, (some (mkvAttribute k j 1) : Option Value) = some z → z = v1) (v2 : Value) (h2 : ∀ z, (some (mkvAttribute k j 2) : Option Value) = some z → z = v2) (v3 : Value) (h3 : ∀ z, (some (mkvAttribute k j 3) : Option Value) = some z → z = v3) => (show MarkSt F 4 l.length b off (fun k => DAttribute.ct (l.getD k default)) u G (fun t c => some (mkvAttribute k t c)) w (j + 1) 0 ((((w1.setCell ⟨b, off + j * 4, none⟩ v0).setCell ⟨b, off + j * 4 + 1, none⟩ v1).setCell ⟨b, off + j * 4 + 2, none⟩ v2).setCell ⟨b, off + j * 4 + 3, none⟩ v3) from ((((HM1.out.set HO.out hlt (by decide) v0 h0).set HO.out hlt (by decide) v1 h1).set HO.out hlt (by decide) v2 h2).set HO.out hlt (by decide) v3 h3).next rfl))
        go_wp2
        go_roundw
        case rel =>
          have hz := HZ.out
          refine ⟨j + 1, by omega, by go_num, ?_, HNX.out _ (fun _ h => (Option.some.inj h).symm.trans (by unfold mkvAttribute; have h9 := HZ.out; first | exact congrArg (Value.int .i64) (by omega) | exact congrArg (fun q : Nat => Value.string (mk q)) (by omega) | exact congrArg (Value.bool) (by rw [h9]; exact mod3 (by omega)))) _ (fun _ h => (Option.some.inj h).symm.trans (by unfold mkvAttribute; have h9 := HZ.out; first | exact congrArg (Value.int .i64) (by omega) | exact congrArg (fun q : Nat => Value.string (mk q)) (by omega) | exact congrArg (Value.bool) (by rw [h9]; exact mod3 (by omega)))) _ (fun _ h => (Option.some.inj h).symm.trans (by unfold mkvAttribute; have h9 := HZ.out; first | exact congrArg (Value.int .i64) (by omega) | exact congrArg (fun q : Nat => Value.string (mk q)) (by omega) | exact congrArg (Value.bool) (by rw [h9]; exact mod3 (by omega)))) _ (fun _ h => (Option.some.inj h).symm.trans (by unfold mkvAttribute; have h9 := HZ.out; first | exact congrArg (Value.int .i64) (by omega) | exact congrArg (fun q : Nat => Value.string (mk q)) (by omega) | exact congrArg (Value.bool) (by rw [h9]; exact mod3 (by omega))))⟩
          exact congrArg (Value.int .i64) (by omega)
        case measure => simp [intOf]; omega
      · obtain rfl : j = l.length := by omega
        go_wp2
        go_ret
        exact ⟨rfl, HM0.out.marked HO.out cap (fun _ _ _ _ => rfl), HM0.out.writes⟩

theorem wmark_AttributeS {F : Nat → Prop} {a : Option Addr} {cap : Nat} (l : List DAttribute) (hn : lsz DAttribute.sz l ≤ 1048576) (k : Int) (hk0 : 1 ≤ k) (hk : k + 16 * (lsz DAttribute.sz l : Nat) ≤ 4611686018427387904) (w : World) (ho : Own w F (.sl 4 l.length (fun k => DAttribute.ct (l.getD k default))) (.slice a l.length cap)) :
    Calls Tryz.prog 81 #[.slice a l.length cap, .int .i64 k] w fun e w' => ∃ k' : Int, e = .returned (.int .i64 k') ∧ k ≤ k' ∧ k' ≤ k + 16 * (lsz DAttribute.sz l : Nat) ∧ WritesF F w w' := by
  obtain ⟨m, rfl⟩ : ∃ m : Nat, k = m := ⟨k.toNat, by omega⟩
  have hl := lsz_pos DAttribute.sz l
  refine (laws_markAttributeS l (by omega) m (by omega) (by omega) w ho).mono ?_
  rintro e w1 ⟨rfl, _, hw⟩
  exact ⟨_, rfl, by omega, by omega, hw⟩
end Go.Proofs.YtnmepemmpeboeaaGreat
namespace Go.Proofs.YtnmepemmpeboeaaGreat
open Go.ChangeShapes Go.WideShapes Go.ChangeAt Go.RowKit Go.Deep

set_option maxHeartbeats 3200000 in
set_option maxRecDepth 100000 in
theorem wmark_SymbolS {F : Nat → Prop} {a : Option Addr} {cap : Nat} (l : List DSymbol) (hn : lsz DSymbol.sz l ≤ 1048576) (k : Int) (hk0 : 1 ≤ k) (hk : k + 16 * (lsz DSymbol.sz l : Nat) ≤ 4611686018427387904) (w : World) (ho : Own w F (.sl 2 l.length (fun k => DSymbol.ct (l.getD k default))) (.slice a l.length cap)) :
    Calls Tryz.prog 45 #[.slice a l.length cap, .int .i64 k] w fun e w' => ∃ k' : Int, e = .returned (.int .i64 k') ∧ k ≤ k' ∧ k' ≤ k + 16 * (lsz DSymbol.sz l : Nat) ∧ WritesF F w w' := by
  rcases mark_start (fun _ _ => none) ho with h0 | ⟨b, off, u, G, rfl, hO, hM⟩
  · have HL := Lib.hid h0
    clear ho hn
    generalize l.length = n at *
    obtain rfl : n = 0 := HL.out
    generalize lsz DSymbol.sz l = Z at *
    go_enter Tryz.func45, Tryz.ntmps45
    go_wp2
    go_loop [1, 5] (fun q i => q = .int .i64 k ∧ i = .int .i64 0) (fun _ _ => 0)
    case atStart => exact ⟨rfl, rfl⟩
    case round =>
      obtain ⟨rfl, rfl⟩ := hrel
      go_wp2
      go_ret
      exact ⟨_, rfl, Int.le_refl _, by omega, WritesF.refl _ _⟩
  · have HO := Lib.hid hO
    have HMS := Lib.hid hM
    clear ho hO hM
    have hlen := lsz_pos DSymbol.sz l
    go_enter Tryz.func45, Tryz.ntmps45
    go_wp2
    go_loopw [1, 5] (fun q i wr => ∃ (j : Nat) (z : Int), j ≤ l.length ∧ i = .int .i64 (j : Int) ∧ q = .int .i64 z ∧ k ≤ z ∧ z ≤ k + 16 * ((j + psz DSymbol.sz l j : Nat) : Int) ∧ MarkSt F 2 l.length b off (fun k => DSymbol.ct (l.getD k default)) u G (fun _ _ => none) w j 0 wr) (fun _ i _ => l.length - (intOf i).toNat)
    case atStart => exact ⟨0, k, Nat.zero_le _, rfl, rfl, Int.le_refl _, by omega, HMS.out⟩
    case round =>
      clear HMS
      obtain ⟨j, z, hj, rfl, rfl, hz0, hz1, hm⟩ := hrel
      have HM0 := Lib.hid hm
      clear hm
      by_cases hlt : j < l.length
      · skip
        have hsu := Lib.hid (psz_succ DSymbol.sz l j hlt)
        have hle2 := Lib.hid (psz_le DSymbol.sz l (j + 1))
        have hzb : 1 ≤ z ∧ z ≤ 4611686018527387904 := by have h1 := hsu.out; have h2 := hle2.out; omega
        obtain ⟨a1, c1, hu1, _⟩ := own_sl (n := 4) (len := (l.getD j default).fAttributes.length) (f := (fun k => DAttribute.ct ((l.getD j default).fAttributes.getD k default))) (HM0.out.own j hlt 1 (by decide) (Or.inr ⟨rfl, Nat.zero_le _⟩))
        have HW1 := Lib.hid (fun (W : World) (h : MarkSt F 2 l.length b off (fun k => DSymbol.ct (l.getD k default)) u G (fun _ _ => none) w j 1 W) => (show Own W (G j 1) (.sl 4 (l.getD j default).fAttributes.length (fun k => DAttribute.ct ((l.getD j default).fAttributes.getD k default))) (.slice a1 (l.getD j default).fAttributes.length c1) from by have h1 := h.own j hlt 1 (by decide) (Or.inr ⟨rfl, Nat.le_refl _⟩); rw [hu1] at h1; exact h1))
        have HU0 := Lib.hid (show DSymbol.sz (l.getD j default) = (l.getD j default).fName.size + (lsz DAttribute.sz) (l.getD j default).fAttributes from rfl)
        generalize l.getD j default = x at *
        have d0_0 : wr.cell? ⟨b, off + j * 2, none⟩ = some (u j 0) := HM0.out.cell j hlt 0 (by decide) (Or.inr ⟨rfl, by decide⟩)
        generalize u j 0 = v0_0 at d0_0
        have z0_0 : wr.frozen? ⟨b, off + j * 2, none⟩ = false := HM0.out.frozen _
        have d0_1 : wr.cell? ⟨b, off + j * 2 + 1, none⟩ = some (.slice a1 x.fAttributes.length c1) := (HM0.out.cell j hlt 1 (by decide) (Or.inr ⟨rfl, by decide⟩)).trans (congrArg some hu1)
        have z0_1 : wr.frozen? ⟨b, off + j * 2 + 1, none⟩ = false := HM0.out.frozen _
        have HQ0 := Lib.hid (fun (w' : World) (hb : Below wr.heap.size wr w') => (show MarkSt F 2 l.length b off (fun k => DSymbol.ct (l.getD k default)) u G (fun _ _ => none) w j 0 w' from HM0.out.below hb))
        go_wp2_with fail
        refine (markTextI _ (by omega) (by omega) _).mono ?_
        rintro e w1 ⟨rfl, hb1⟩
        have HM1 := Lib.hid (HQ0.out _ hb1)
        clear hb1 HM0 HQ0 d0_0 z0_0 d0_1 z0_1
        have d1_0 : w1.cell? ⟨b, off + j * 2, none⟩ = some (u j 0) := HM1.out.cell j hlt 0 (by decide) (Or.inr ⟨rfl, by decide⟩)
        generalize u j 0 = v1_0 at d1_0
        have z1_0 : w1.frozen? ⟨b, off + j * 2, none⟩ = false := HM1.out.frozen _
        have d1_1 : w1.cell? ⟨b, off + j * 2 + 1, none⟩ = some (.slice a1 x.fAttributes.length c1) := (HM1.out.cell j hlt 1 (by decide) (Or.inr ⟨rfl, by decide⟩)).trans (congrArg some hu1)
        have z1_1 : w1.frozen? ⟨b, off + j * 2 + 1, none⟩ = false := HM1.out.frozen _
        have HP1 := Lib.hid (fun (v0 : Value) => HW1.out (w1.setCell ⟨b, off + j * 2, none⟩ v0) (HM1.out.set HO.out hlt (by decide) v0 (fun _ h => by cases h)))
        have HQ1 := Lib.hid (fun (v0 : Value) (w' : World) (hw : WritesF (G j 1) (w1.setCell ⟨b, off + j * 2, none⟩ v0) w') => (show MarkSt F 2 l.length b off (fun k => DSymbol.ct (l.getD k default)) u G (fun _ _ => none) w j 2 w' from (HM1.out.set HO.out hlt (by decide) v0 (fun _ h => by cases h)).call HO.out hlt (by decide) rfl hw))
        have hn1 := Lib.hid (show lsz DAttribute.sz x.fAttributes ≤ 1048576 from (by have h1 := hsu.out; have h2 := hle2.out; have h3_0 := HU0.out; omega))
        go_wp2_with fail
        refine (wmark_AttributeS x.fAttributes hn1.out _ (by omega) (by have h1 := hsu.out; have h2 := hle2.out; have h3_0 := HU0.out; omega) _ (HP1.out _)).mono ?_
        rintro e w2 ⟨k2, rfl, hka2, hkb2, hw2⟩
        have HM2 := Lib.hid (HQ1.out _ _ hw2)
        have hkz2 : 1 ≤ k2 ∧ k2 ≤ 4611686018427387904 := by have h1 := hsu.out; have h2 := hle2.out; have h3_0 := HU0.out; omega
        clear hw2 HM1 HP1 HQ1 d1_0 z1_0 d1_1 z1_1
        have HNX := Lib.hid ((show MarkSt F 2 l.length b off (fun k => DSymbol.ct (l.getD k default)) u G (fun _ _ => none) w (j + 1) 0 w2 from HM2.out.next rfl))
        go_wp2
        go_roundw
        case rel =>
          have h1 := hsu.out
          have h2 := hle2.out
          have h3_0 := HU0.out
          refine ⟨j + 1, _, by omega, by go_num, rfl, by omega, by rw [h1]; omega, HNX.out⟩
        case measure => simp [intOf]; omega
      · obtain rfl : j = l.length := by omega
        go_wp2
        go_ret
        exact ⟨_, rfl, hz0, by have h1 := psz_le DSymbol.sz l l.length; omega, HM0.out.writes⟩
end Go.Proofs.YtnmepemmpeboeaaGreat
namespace Go.Proofs.YtnmepemmpeboeaaGreat
open Go.ChangeShapes Go.WideShapes Go.ChangeAt Go.RowKit Go.Deep

set_option maxHeartbeats 3200000 in
set_option maxRecDepth 100000 in
theorem wmark_Grammar {F : Nat → Prop} {a0 : Option Addr} {c0 : Nat} {a1 : Option Addr} {c1 : Nat} (x : DGrammar) (hsz : x.sz ≤ 1048576) (k : Int) (hk0 : 1 ≤ k) (hk : k + 16 * (x.sz : Nat) ≤ 4611686018427387904) (w : World) (hF : ∀ y, F y → y < w.heap.size) (ho : OwnR w F 2 x.ct (fun j => [.slice a0 x.fSymbols.length c0, .slice a1 x.fRules.length c1].getD j .nilFunc)) :
    Calls Tryz.prog 13 #[.agg #[.slice a0 x.fSymbols.length c0, .slice a1 x.fRules.length c1], .int .i64 k] w fun e w' => ∃ k' : Int, e = .returned (.int .i64 k') ∧ k ≤ k' ∧ k' ≤ k + 16 * (x.sz : Nat) ∧ WritesF F w w' := by
  obtain ⟨G, g1, g2, g3⟩ := ho
  have HB := Lib.hid ((Below.refl w.heap.size w).alloc (Nat.le_refl _) (.cells #[.slice a0 x.fSymbols.length c0, .slice a1 x.fRules.length c1] 40))
  have HSZ := Lib.hid hsz
  have HO0 := Lib.hid (show Own w (G 0) (.sl 2 x.fSymbols.length (fun k => DSymbol.ct (x.fSymbols.getD k default))) (.slice a0 x.fSymbols.length c0) from g1 0 (by decide))
  have HO1 := Lib.hid (show Own w (G 1) (.sl 6 x.fRules.length (fun k => DRule.ct (x.fRules.getD k default))) (.slice a1 x.fRules.length c1) from g1 1 (by decide))
  have HK := Lib.hid (fun j hj x hx => hF x (g2 j hj x hx))
  have HG2 := Lib.hid g2
  have HG3 := Lib.hid g3
  clear g1 g2 g3 hsz
  unfold DGrammar.sz at HSZ hk ⊢
  go_enter Tryz.func13, Tryz.ntmps13
  go_wp2_with fail
  refine (wmark_SymbolS _ (by have h := HSZ.out; omega) _ (by omega) (by omega) _ (HO0.out.kept (Kept.of_below HB.out (HK.out 0 (by decide))))).mono ?_
  rintro e w1 ⟨k1, rfl, hka1, hkb1, hw1⟩
  have hkz1 : 1 ≤ k1 ∧ k1 ≤ 4611686018427387904 := by have h := HSZ.out; omega
  have HW1 := Lib.hid ((hw1.sub (HG2.out 0 (by decide))).of_below HB.out)
  have HO1_1 := Lib.hid (HO1.out.kept ((Kept.of_below HB.out (HK.out 1 (by decide))).trans (hw1.kept (fun y hy hf => absurd (HG3.out 1 (by decide) 0 (by decide) y hy hf) (by decide)))))
  have x1_1 : w1.cell? ⟨w.heap.size, 1, none⟩ = some (.slice a1 x.fRules.length c1) := (World.cell?_of_block (a := ⟨w.heap.size, 1, none⟩) (hw1.block w.heap.size (by simp) (fun hf => absurd (HK.out 0 (by decide) _ hf) (Nat.lt_irrefl _)))).trans (by go_simp)
  have SZ1 := Lib.hid (show (w.alloc (.cells #[.slice a0 x.fSymbols.length c0, .slice a1 x.fRules.length c1] 40)).heap.size ≤ w1.heap.size from hw1.size)
  clear hw1
  go_wp2_with fail
  refine (wmark_RuleS _ (by have h := HSZ.out; omega) _ (by omega) (by omega) _ (HO1_1.out)).mono ?_
  rintro e w2 ⟨k2, rfl, hka2, hkb2, hw2⟩
  have hkz2 : 1 ≤ k2 ∧ k2 ≤ 4611686018427387904 := by have h := HSZ.out; omega
  have HW2 := Lib.hid (HW1.out.trans (hw2.sub (HG2.out 1 (by decide))))
  clear hw2
  go_wp2
  go_ret
  exact ⟨_, rfl, by omega, by have h := HSZ.out; omega, HW2.out⟩
end Go.Proofs.YtnmepemmpeboeaaGreat
