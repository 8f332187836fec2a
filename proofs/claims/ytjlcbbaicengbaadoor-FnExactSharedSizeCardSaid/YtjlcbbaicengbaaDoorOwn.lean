/-
  Data that a call made for itself: no cell is frozen, and no two slices share a block.
-/
import Derived.Test.YtjlcbbaicengbaaDoorCt
import Derived.Test.YtjlcbbaicengbaaDoorWrites
import Derived.Laws.AppendOwn
import Derived.Laws.Rows
namespace Go.Proofs.YtjlcbbaicengbaaDoor
open Go.ChangeShapes Go.WideShapes Go.ChangeAt Go.RowKit Go.Deep

/-- The cell v reads as c, in blocks of F that nobody else holds. -/
inductive Own (w : World) : (Nat → Prop) → Ct → Value → Prop
  | lit (F : Nat → Prop) (v : Value) : Own w F (.lit v) v
  | nil (F : Nat → Prop) (n : Nat) (f : Nat → Nat → Ct) (a : Option Addr) (cap : Nat) : Own w F (.sl n 0 f) (.slice a 0 cap)
  | row (F : Nat → Prop) (n len : Nat) (f : Nat → Nat → Ct) (b off cap : Nat) (u : Nat → Nat → Value) (G : Nat → Nat → Nat → Prop) (hF : F b) (hb : b < w.heap.size)
      (hc : ∀ k, k < len → ∀ j, j < n → w.cell? ⟨b, off + k * n + j, none⟩ = some (u k j))
      (hz : ∀ o, w.frozen? ⟨b, o, none⟩ = false)
      (hl : ∀ k, k < len → ∀ j, j < n → Own w (G k j) (f k j) (u k j))
      (hG : ∀ k, k < len → ∀ j, j < n → ∀ x, G k j x → F x ∧ x ≠ b)
      (hd : ∀ k, k < len → ∀ j, j < n → ∀ k', k' < len → ∀ j', j' < n → ∀ x, G k j x → G k' j' x → k = k' ∧ j = j') : Own w F (.sl n len f) (.slice (some ⟨b, off, none⟩) len cap)

/-- What was there in F is as it was. -/
def Kept (F : Nat → Prop) (w w' : World) : Prop := w.heap.size ≤ w'.heap.size ∧ ∀ b, F b → b < w.heap.size → w'.heap[b]? = w.heap[b]?
theorem Kept.cell {F : Nat → Prop} {w w' : World} (h : Kept F w w') {p : Addr} (hF : F p.block) (hp : p.block < w.heap.size) : w'.cell? p = w.cell? p := World.cell?_of_block (h.2 p.block hF hp)
theorem Kept.frozen {F : Nat → Prop} {w w' : World} (h : Kept F w w') {p : Addr} (hF : F p.block) (hp : p.block < w.heap.size) : w'.frozen? p = w.frozen? p := World.frozen?_of_block (h.2 p.block hF hp)
theorem Kept.sub {F G : Nat → Prop} {w w' : World} (h : Kept F w w') (hG : ∀ x, G x → F x) : Kept G w w' := ⟨h.1, fun b hb hs => h.2 b (hG b hb) hs⟩
theorem Kept.refl {F : Nat → Prop} {w : World} : Kept F w w := ⟨Nat.le_refl _, fun _ _ _ => rfl⟩
theorem Kept.trans {F : Nat → Prop} {a b c : World} (h : Kept F a b) (k : Kept F b c) : Kept F a c := ⟨Nat.le_trans h.1 k.1, fun x hx hs => (k.2 x hx (Nat.lt_of_lt_of_le hs h.1)).trans (h.2 x hx hs)⟩
theorem Kept.of_below {F : Nat → Prop} {B : Nat} {w w' : World} (h : Below B w w') (hF : ∀ x, F x → x < B) : Kept F w w' := ⟨h.size, fun b hb _ => h.block b (hF b hb)⟩
theorem Kept.of_below_all {F : Nat → Prop} {w w' : World} (h : Below w.heap.size w w') : Kept F w w' := ⟨h.size, fun b _ hs => h.block b hs⟩
theorem Kept.of_writes {F : Nat → Prop} {C : Nat} {w w' : World} (h : Writes C w w') (hF : ¬ F C) : Kept F w w' := ⟨h.size, fun b hb hs => h.block b hs (fun e => hF (e ▸ hb))⟩
theorem Kept.setCell {F : Nat → Prop} {w : World} {p : Addr} {v : Value} (hF : ¬ F p.block) : Kept F w (w.setCell p v) :=
  ⟨by simp [World.setCell], fun b hb _ => Below.heap_setCell _ _ _ _ (fun e => hF (e ▸ hb))⟩

theorem Kept.put {F : Nat → Prop} {a w : World} {p : Addr} {v : Value} (h : Kept F a w) (hF : ¬ F p.block) : Kept F a (w.setCell p v) := h.trans (Kept.setCell hF)

theorem Own.kept {w w' : World} {F : Nat → Prop} {c : Ct} {v : Value} (h : Own w F c v) (hk : Kept F w w') : Own w' F c v := by
  induction h with
  | lit F v => exact .lit F v
  | nil F n f a cap => exact .nil F n f a cap
  | row F n len f b off cap u G hF hb hc hz hl hG hd ih =>
    exact .row F n len f b off cap u G hF (Nat.lt_of_lt_of_le hb hk.1) (fun k hk' j hj => (hk.cell (p := ⟨b, _, none⟩) hF hb).trans (hc k hk' j hj))
      (fun o => (hk.frozen (p := ⟨b, o, none⟩) hF hb).trans (hz o)) (fun k hk' j hj => ih k hk' j hj (hk.sub fun x hx => (hG k hk' j hj x hx).1)) hG hd
theorem Own.sub {w : World} {F F' : Nat → Prop} {c : Ct} {v : Value} (h : Own w F c v) (hF' : ∀ x, F x → F' x) : Own w F' c v := by
  cases h with
  | lit F v => exact .lit F' v
  | nil F n f a cap => exact .nil F' n f a cap
  | row F n len f b off cap u G hF hb hc hz hl hG hd =>
    exact .row F' n len f b off cap u G (hF' _ hF) hb hc hz hl (fun k hk j hj x hx => ⟨hF' _ (hG k hk j hj x hx).1, (hG k hk j hj x hx).2⟩) hd
theorem Own.lies {w : World} {F : Nat → Prop} {c : Ct} {v : Value} {lo hi : Nat} (h : Own w F c v) (hF : ∀ x, F x → lo ≤ x ∧ x < hi) : Lies lo hi w c v := by
  induction h with
  | lit F v => exact .lit v
  | nil F n f a cap => exact .nil n f a cap
  | row F n len f b off cap u G hF' hb hc hz hl hG hd ih =>
    exact .row n len f b off cap u (hF b hF').1 (hF b hF').2 hc fun k hk j hj => ih k hk j hj fun x hx => hF x (hG k hk j hj x hx).1
theorem Own.congr {w : World} {F : Nat → Prop} {n len : Nat} {f g : Nat → Nat → Ct} {v : Value} (h : Own w F (.sl n len f) v) (hfg : ∀ k, k < len → ∀ j, j < n → f k j = g k j) : Own w F (.sl n len g) v := by
  cases h with
  | nil F n f a cap => exact .nil F n g a cap
  | row F n len f b off cap u G hF hb hc hz hl hG hd => exact .row F n len g b off cap u G hF hb hc hz (fun k hk j hj => by rw [← hfg k hk j hj]; exact hl k hk j hj) hG hd

/-- A row of cells of its own. -/
def OwnR (w : World) (F : Nat → Prop) (n : Nat) (c : Nat → Ct) (u : Nat → Value) : Prop :=
  ∃ G : Nat → Nat → Prop, (∀ j, j < n → Own w (G j) (c j) (u j)) ∧ (∀ j, j < n → ∀ x, G j x → F x) ∧ ∀ j, j < n → ∀ j', j' < n → ∀ x, G j x → G j' x → j = j'
theorem OwnR.kept {w w' : World} {F : Nat → Prop} {n : Nat} {c : Nat → Ct} {u : Nat → Value} (h : OwnR w F n c u) (hk : Kept F w w') : OwnR w' F n c u := by
  obtain ⟨G, h1, h2, h3⟩ := h
  exact ⟨G, fun j hj => (h1 j hj).kept (hk.sub (h2 j hj)), h2, h3⟩
theorem OwnR.sub {w : World} {F F' : Nat → Prop} {n : Nat} {c : Nat → Ct} {u : Nat → Value} (h : OwnR w F n c u) (hF : ∀ x, F x → F' x) : OwnR w F' n c u := by
  obtain ⟨G, h1, h2, h3⟩ := h
  exact ⟨G, h1, fun j hj x hx => hF x (h2 j hj x hx), h3⟩
theorem OwnR.congr {w : World} {F : Nat → Prop} {n : Nat} {c c' : Nat → Ct} {u u' : Nat → Value} (h : OwnR w F n c u) (hc : ∀ j, j < n → c j = c' j) (hu : ∀ j, j < n → u j = u' j) : OwnR w F n c' u' := by
  obtain ⟨G, h1, h2, h3⟩ := h
  exact ⟨G, fun j hj => by rw [← hc j hj, ← hu j hj]; exact h1 j hj, h2, h3⟩
/-- A row of plain values. -/
theorem OwnR.lits {w : World} {F : Nat → Prop} {n : Nat} {c : Nat → Ct} {u : Nat → Value} (h : ∀ j, j < n → c j = .lit (u j)) : OwnR w F n c u :=
  ⟨fun _ _ => False, fun j hj => by rw [h j hj]; exact .lit _ _, fun _ _ _ hx => hx.elim, fun _ _ _ _ _ hx => hx.elim⟩
theorem OwnR.lies {w : World} {F : Nat → Prop} {n : Nat} {c : Nat → Ct} {u : Nat → Value} {lo hi : Nat} (h : OwnR w F n c u) (hF : ∀ x, F x → lo ≤ x ∧ x < hi) (j : Nat) (hj : j < n) : Lies lo hi w (c j) (u j) := by
  obtain ⟨G, h1, h2, h3⟩ := h
  exact (h1 j hj).lies fun x hx => hF x (h2 j hj x hx)

theorem OwnR.one {w : World} {F : Nat → Prop} {c : Nat → Ct} {u : Nat → Value} (h : Own w F (c 0) (u 0)) : OwnR w F 1 c u :=
  ⟨fun _ => F, fun j hj => by obtain rfl : j = 0 := by omega
                              exact h, fun _ _ _ hx => hx, fun j hj j' hj' _ _ _ => by omega⟩
theorem OwnR.append {w : World} {F F1 F2 : Nat → Prop} {m n : Nat} {c : Nat → Ct} {u : Nat → Value} (h1 : OwnR w F1 m c u) (h2 : OwnR w F2 n (fun j => c (m + j)) (fun j => u (m + j))) (hd : ∀ x, F1 x → F2 x → False) (hF1 : ∀ x, F1 x → F x) (hF2 : ∀ x, F2 x → F x) : OwnR w F (m + n) c u := by
  obtain ⟨G1, a1, b1, d1⟩ := h1
  obtain ⟨G2, a2, b2, d2⟩ := h2
  refine ⟨fun j => if j < m then G1 j else G2 (j - m), fun j hj => ?_, fun j hj x hx => ?_, fun j hj j' hj' x hx hx' => ?_⟩
  · by_cases h : j < m
    · simp only [if_pos h]; exact a1 j h
    · simp only [if_neg h]
      have : Own w (G2 (j - m)) (c (m + (j - m))) (u (m + (j - m))) := a2 (j - m) (by omega)
      rw [show m + (j - m) = j by omega] at this
      exact this
  · by_cases h : j < m
    · simp only [if_pos h] at hx; exact hF1 x (b1 j h x hx)
    · simp only [if_neg h] at hx; exact hF2 x (b2 (j - m) (by omega) x hx)
  · by_cases h : j < m <;> by_cases h' : j' < m
    · simp only [if_pos h] at hx; simp only [if_pos h'] at hx'; exact d1 j h j' h' x hx hx'
    · simp only [if_pos h] at hx; simp only [if_neg h'] at hx'; exact (hd x (b1 j h x hx) (b2 (j' - m) (by omega) x hx')).elim
    · simp only [if_neg h] at hx; simp only [if_pos h'] at hx'; exact (hd x (b1 j' h' x hx') (b2 (j - m) (by omega) x hx)).elim
    · simp only [if_neg h] at hx; simp only [if_neg h'] at hx'
      have := d2 (j - m) (by omega) (j' - m) (by omega) x hx hx'
      omega

/-! A slice that a loop fills: row by row, each row's own blocks behind those of the rows before. -/
/-- The first k rows are filled. -/
def Filled (B : Nat) (w : World) (n k : Nat) (c : Nat → Nat → Ct) (xs : List Value) : Prop :=
  ∃ s : Nat → Nat, (∀ i, B < s i) ∧ (∀ i, i < k → s i ≤ s (i + 1)) ∧ s k ≤ w.heap.size ∧ ∀ i, i < k → OwnR w (fun x => s i ≤ x ∧ x < s (i + 1)) n (c i) (fun j => xs.getD (i * n + j) .nilFunc)
theorem Filled.zero {B n : Nat} {w : World} {c : Nat → Nat → Ct} {xs : List Value} (h : B < w.heap.size) : Filled B w n 0 c xs := ⟨fun _ => B + 1, fun _ => Nat.lt_succ_self B, fun _ h => absurd h (Nat.not_lt_zero _), h, fun _ h => absurd h (Nat.not_lt_zero _)⟩
theorem Filled.mono {k : Nat} {s : Nat → Nat} (h : ∀ i, i < k → s i ≤ s (i + 1)) : ∀ i j, i ≤ j → j ≤ k → s i ≤ s j := by
  intro i j hij hjk
  induction j with
  | zero => obtain rfl : i = 0 := by omega
            exact Nat.le_refl _
  | succ j ih =>
    rcases Nat.lt_or_ge i (j + 1) with h' | h'
    · exact Nat.le_trans (ih (by omega) (by omega)) (h j (by omega))
    · obtain rfl : i = j + 1 := by omega
      exact Nat.le_refl _
theorem Filled.kept {B n k : Nat} {w w' : World} {c : Nat → Nat → Ct} {xs : List Value} (h : Filled B w n k c xs) (hk : Kept (fun x => B < x) w w') : Filled B w' n k c xs := by
  obtain ⟨s, h1, h2, h3, h4⟩ := h
  exact ⟨s, h1, h2, Nat.le_trans h3 hk.1, fun i hi => (h4 i hi).kept (hk.sub fun x hx => Nat.lt_of_lt_of_le (h1 i) hx.1)⟩
/-- One row more: made behind all that was there (in the world w0), then stored. -/
theorem Filled.step {B n k : Nat} {w0 w : World} {c : Nat → Nat → Ct} {xs ys : List Value} (h : Filled B w0 n k c xs) (hk : Kept (fun x => B < x) w0 w) {u : Nat → Value} (hu : OwnR w (fun x => w0.heap.size ≤ x ∧ x < w.heap.size) n (c k) u)
    (hy1 : ∀ i, i < k → ∀ j, j < n → ys.getD (i * n + j) .nilFunc = xs.getD (i * n + j) .nilFunc) (hy2 : ∀ j, j < n → ys.getD (k * n + j) .nilFunc = u j) : Filled B w n (k + 1) c ys := by
  obtain ⟨s, h1, h2, h3, h4⟩ := h
  refine ⟨fun i => if i ≤ k then s i else w.heap.size, fun i => ?_, fun i hi => ?_, ?_, fun i hi => ?_⟩
  · by_cases hik : i ≤ k
    · simp only [if_pos hik]; exact h1 i
    · simp only [if_neg hik]; exact Nat.lt_of_lt_of_le (h1 k) (Nat.le_trans h3 hk.1)
  · by_cases hik : i < k
    · simp only [if_pos (show i ≤ k by omega), if_pos (show i + 1 ≤ k by omega)]; exact h2 i hik
    · simp only [if_pos (show i ≤ k by omega), if_neg (show ¬ i + 1 ≤ k by omega)]
      obtain rfl : i = k := by omega
      exact Nat.le_trans h3 hk.1
  · simp only [if_neg (show ¬ k + 1 ≤ k by omega)]; exact Nat.le_refl _
  · by_cases hik : i < k
    · simp only [if_pos (show i ≤ k by omega), if_pos (show i + 1 ≤ k by omega)]
      exact ((h4 i hik).kept (hk.sub fun x hx => Nat.lt_of_lt_of_le (h1 i) hx.1)).congr (fun _ _ => rfl) fun j hj => (hy1 i hik j hj).symm
    · simp only [if_pos (show i ≤ k by omega), if_neg (show ¬ i + 1 ≤ k by omega)]
      obtain rfl : i = k := by omega
      exact (hu.sub fun x hx => ⟨Nat.le_trans h3 hx.1, hx.2⟩).congr (fun _ _ => rfl) fun j hj => (hy2 j hj).symm
/-- All rows are filled: the slice is of its own. -/
theorem Filled.own {B n len cap : Nat} {w : World} {c : Nat → Nat → Ct} {xs : List Value} (h : Filled B w n len c xs) (hb : B < w.heap.size)
    (hc : ∀ i, i < len * n → w.cell? ⟨B, i, none⟩ = some (xs.getD i .nilFunc)) (hz : ∀ o, w.frozen? ⟨B, o, none⟩ = false) : Own w (fun x => B ≤ x ∧ x < w.heap.size) (.sl n len c) (.slice (some ⟨B, 0, none⟩) len cap) := by
  obtain ⟨s, h1, h2, h3, h4⟩ := h
  classical
  refine .row _ n len c B 0 cap (fun k j => xs.getD (k * n + j) .nilFunc) (fun k j => if hk : k < len then Classical.choose (h4 k hk) j else fun _ => False) ⟨Nat.le_refl _, hb⟩ hb (fun k hk j hj => ?_) hz (fun k hk j hj => ?_) (fun k hk j hj x hx => ?_) (fun k hk j hj k' hk' j' hj' x hx hx' => ?_)
  · rw [Nat.zero_add]
    refine hc _ ?_
    calc k * n + j < k * n + n := by omega
      _ = (k + 1) * n := by rw [Nat.add_mul, Nat.one_mul]
      _ ≤ len * n := Nat.mul_le_mul_right n (by omega)
  · simp only [dif_pos hk]; exact (Classical.choose_spec (h4 k hk)).1 j hj
  · simp only [dif_pos hk] at hx
    have h5 := (Classical.choose_spec (h4 k hk)).2.1 j hj x hx
    have h6 := h1 k
    have h7 : s (k + 1) ≤ s len := Filled.mono h2 (k + 1) len (by omega) (Nat.le_refl _)
    exact ⟨⟨by omega, by omega⟩, by omega⟩
  · simp only [dif_pos hk] at hx
    simp only [dif_pos hk'] at hx'
    have h5 := (Classical.choose_spec (h4 k hk)).2.1 j hj x hx
    have h6 := (Classical.choose_spec (h4 k' hk')).2.1 j' hj' x hx'
    have hkk : k = k' := by
      rcases Nat.lt_trichotomy k k' with h | h | h
      · have := Filled.mono h2 (k + 1) k' (by omega) (by omega)
        omega
      · exact h
      · have := Filled.mono h2 (k' + 1) k (by omega) (by omega)
        omega
    subst hkk
    exact ⟨rfl, (Classical.choose_spec (h4 k hk)).2.2 j hj j' hj' x hx hx'⟩

/-- The block of a row that the call owns. -/
theorem ownsRow_block {w : World} {B : Nat} {e : TypeId} {n len g cap : Nat} {xs : List Value} (h : w.ownsRow B e n (.slice (some ⟨g, 0, none⟩) len cap) len xs) :
    g < w.heap.size ∧ B ≤ g ∧ (∀ i, i < len * n → w.cell? ⟨g, i, none⟩ = some (xs.getD i .nilFunc)) ∧ ∀ o, w.frozen? ⟨g, o, none⟩ = false := by
  have h0 := h
  have hlen : xs.length = len * n := h.1
  rcases h.2 with ⟨h', _⟩ | ⟨g', cap', cur, h', hB, hg, _⟩
  · cases h'
  · simp only [Value.slice.injEq, Option.some.injEq, Addr.mk.injEq, and_true, true_and] at h'
    obtain ⟨h1, h2⟩ := h'
    subst h1
    refine ⟨(Array.getElem?_eq_some_iff.1 hg).1, hB, fun i hi => ?_, fun o => h0.frozenAt o⟩
    rw [h0.cellAt i hi, List.getD_eq_getElem?_getD, List.getElem?_eq_getElem (show i < xs.length by rw [hlen]; exact hi)]
    rfl
theorem ownsRow_below {w w' : World} {B : Nat} {e : TypeId} {n len : Nat} {v : Value} {xs : List Value} (h : w.ownsRow B e n v len xs) (hb : Below w.heap.size w w') : w'.ownsRow B e n v len xs := by
  obtain ⟨h1, h2⟩ := h
  refine ⟨h1, ?_⟩
  rcases h2 with h2 | ⟨g, cap, cur, hv, hB, hg, h3⟩
  · exact Or.inl h2
  · exact Or.inr ⟨g, cap, cur, hv, hB, by rw [hb.block g (Array.getElem?_eq_some_iff.1 hg).1]; exact hg, h3⟩

/-! A block whole, through allocations and stores. -/
theorem blk_new {w : World} {o : Obj} {k : Nat} (h : k = w.heap.size) : (w.alloc o).heap[k]? = some o := by
  subst h
  show (w.heap.push o)[w.heap.size]? = _
  rw [Array.getElem?_push, if_pos rfl]
theorem blk_alloc {w : World} {o : Obj} {k : Nat} {r : Option Obj} (h : k < w.heap.size) (hr : w.heap[k]? = r) : (w.alloc o).heap[k]? = r := (Below.heap_alloc _ _ _ h).trans hr
theorem blk_other {w : World} {a : Addr} {u : Value} {k : Nat} {r : Option Obj} (h : k ≠ a.block) (hr : w.heap[k]? = r) : (w.setCell a u).heap[k]? = r := (Below.heap_setCell _ _ _ _ h).trans hr
theorem blk_set {w : World} {g j : Nat} {u : Value} {cs : Array Value} {t : TypeId} {fr : Nat × Nat} (h : w.heap[g]? = some (.cells cs t fr)) : (w.setCell ⟨g, j, none⟩ u).heap[g]? = some (.cells (cs.setIfInBounds j u) t fr) := by
  simp only [World.setCell, Array.getElem?_modify, h]
  rfl

/-- Two results: a struct in its cell, and a plain value. -/
theorem results_cell_tmp {P : Program} {fn : Func} {p u : Tmp} {ty : TypeId} (h : fn.results = #[.cell p ty, .tmp u]) (tmps : Array Value) (w : World) (g : Nat) (t : TypeId) (cs : Array Value) (fr : Nat × Nat) (d : TypeDesc)
    (hp : tmps.getD p undef = .pointer (some ⟨g, 0, none⟩)) (hg : w.heap[g]? = some (.cells cs t fr))
    (hu : P.underlying ty = some d) (hd : (match d with | .struct _ | .array _ _ => true | _ => false) = true) (hi : (P.info? ty).map (·.size) = some cs.size) :
    (results fn tmps).run P w = .ok (.tuple #[.agg cs, tmps.getD u undef]) w := by
  have hp' : tmps[p]?.getD undef = .pointer (some ⟨g, 0, none⟩) := by simpa using hp
  simp [results, h, hp', asAddr, run_loadVar_row w g t ty cs fr d hg hu hd hi]

/-! A row of cells stored into a block of its own. -/
def setAll (xs : List Value) (p : Nat) : List Value → List Value
  | [] => xs
  | u :: us => setAll (xs.set p u) (p + 1) us
def setCells (w : World) (g p : Nat) : List Value → World
  | [] => w
  | u :: us => setCells (w.setCell ⟨g, p, none⟩ u) g (p + 1) us
theorem setAll_length (us : List Value) : ∀ (xs : List Value) (p : Nat), (setAll xs p us).length = xs.length := by
  induction us with
  | nil => intro xs p; rfl
  | cons u us ih => intro xs p; unfold setAll; rw [ih, List.length_set]
theorem setAll_other (us : List Value) : ∀ (xs : List Value) (p i : Nat) (d : Value), (i < p ∨ p + us.length ≤ i) → (setAll xs p us).getD i d = xs.getD i d := by
  induction us with
  | nil => intro xs p i d _; rfl
  | cons u us ih =>
    intro xs p i d h
    rw [List.length_cons] at h
    unfold setAll
    rw [ih _ _ _ _ (by omega), List.getD_eq_getElem?_getD, List.getD_eq_getElem?_getD, List.getElem?_set_ne (by omega)]
theorem setAll_at (us : List Value) : ∀ (xs : List Value) (p j : Nat) (d : Value), j < us.length → p + us.length ≤ xs.length → (setAll xs p us).getD (p + j) d = us.getD j d := by
  induction us with
  | nil => intro xs p j d h _; exact absurd h (Nat.not_lt_zero _)
  | cons u us ih =>
    intro xs p j d h hp
    rw [List.length_cons] at h hp
    unfold setAll
    cases j with
    | zero =>
      rw [setAll_other us _ _ _ _ (by omega), List.getD_eq_getElem?_getD, Nat.add_zero, List.getElem?_set_self (by omega)]
      rfl
    | succ j =>
      rw [show p + (j + 1) = p + 1 + j by omega, ih _ _ _ _ (by omega) (by rw [List.length_set]; omega)]
      rfl
theorem setCells_row {base : Nat} {e : TypeId} {n len g cap : Nat} (us : List Value) : ∀ {w : World} {xs : List Value} (p : Nat), w.ownsRow base e n (.slice (some ⟨g, 0, none⟩) len cap) len xs →
    (setCells w g p us).ownsRow base e n (.slice (some ⟨g, 0, none⟩) len cap) len (setAll xs p us) := by
  induction us with
  | nil => intro w xs p h; exact h
  | cons u us ih => intro w xs p h; exact ih (p + 1) (h.stored p u).1
theorem setCells_kept {F : Nat → Prop} {g : Nat} (hF : ¬ F g) (us : List Value) : ∀ (w : World) (p : Nat), Kept F w (setCells w g p us) := by
  induction us with
  | nil => intro w p; exact Kept.refl
  | cons u us ih => intro w p; exact (Kept.setCell (p := ⟨g, p, none⟩) (v := u) hF).trans (ih _ _)
theorem setCells_below {B g : Nat} {a : World} (hg : B ≤ g) (us : List Value) : ∀ {w : World} (p : Nat), Below B a w → Below B a (setCells w g p us) := by
  induction us with
  | nil => intro w p h; exact h
  | cons u us ih => intro w p h; exact ih _ (h.setCell (p := ⟨g, p, none⟩) hg u)
theorem setCells_size (us : List Value) : ∀ (w : World) (g p : Nat), (setCells w g p us).heap.size = w.heap.size := by
  induction us with
  | nil => intro w g p; rfl
  | cons u us ih => intro w g p; unfold setCells; rw [ih]; simp [World.setCell]
/-- The loop's step: a row made behind all that was there, then stored. -/
theorem Filled.stored {B n len k cap : Nat} {e : TypeId} {w0 w : World} {c : Nat → Nat → Ct} {xs : List Value} (h : Filled B w0 n k c xs) (hw : Below w0.heap.size w0 w) (hB : B < w0.heap.size)
    (hrow : w.ownsRow B e n (.slice (some ⟨B, 0, none⟩) len cap) len xs) (hk : k < len) (us : List Value) (hus : us.length = n) (hu : OwnR w (fun x => w0.heap.size ≤ x ∧ x < w.heap.size) n (c k) (fun j => us.getD j .nilFunc)) :
    (setCells w B (k * n) us).ownsRow B e n (.slice (some ⟨B, 0, none⟩) len cap) len (setAll xs (k * n) us) ∧ Filled B (setCells w B (k * n) us) n (k + 1) c (setAll xs (k * n) us) := by
  have hlen : xs.length = len * n := hrow.1
  have hkn : k * n + n ≤ len * n := by
    have : (k + 1) * n ≤ len * n := Nat.mul_le_mul_right n (by omega)
    rw [Nat.add_mul, Nat.one_mul] at this
    exact this
  refine ⟨setCells_row us (k * n) hrow, ?_⟩
  refine Filled.step h (xs := xs) ((Kept.of_below_all hw).trans (setCells_kept (by omega) us w _)) (u := fun j => us.getD j .nilFunc) ?_ (fun i hi j hj => ?_) (fun j hj => ?_)
  · rw [setCells_size]
    exact hu.kept (setCells_kept (by omega) us w _)
  · refine setAll_other us xs _ _ _ (Or.inl ?_)
    calc i * n + j < i * n + n := by omega
      _ = (i + 1) * n := by rw [Nat.add_mul, Nat.one_mul]
      _ ≤ k * n := Nat.mul_le_mul_right n (by omega)
  · exact setAll_at us xs _ j _ (by omega) (by omega)
end Go.Proofs.YtjlcbbaicengbaaDoor
