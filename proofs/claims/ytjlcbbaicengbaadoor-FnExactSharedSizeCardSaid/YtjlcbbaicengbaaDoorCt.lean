/-
  How data lie in memory: a datum is a row of cells; a cell reads as a plain value, or as a slice of rows of data.
-/
import Derived.Test.YtjlcbbaicengbaaDoorKit
import Derived.Deep.Slices
import Derived.Lib.Hide
import Derived.ChangeArms
namespace Go.Proofs.YtjlcbbaicengbaaDoor
open Go.ChangeShapes Go.WideShapes Go.ChangeAt Go.RowKit Go.Deep

/-- What a cell reads as. -/
inductive Ct where
  | lit (v : Value)
  | sl (n len : Nat) (f : Nat → Nat → Ct)

/-- The cell v reads as c; all blocks that this takes lie from lo on and below hi. -/
inductive Lies (lo hi : Nat) (w : World) : Ct → Value → Prop
  | lit (v : Value) : Lies lo hi w (.lit v) v
  | nil (n : Nat) (f : Nat → Nat → Ct) (a : Option Addr) (cap : Nat) : Lies lo hi w (.sl n 0 f) (.slice a 0 cap)
  | row (n len : Nat) (f : Nat → Nat → Ct) (b off cap : Nat) (u : Nat → Nat → Value) (hlo : lo ≤ b) (hhi : b < hi)
      (hc : ∀ k, k < len → ∀ j, j < n → w.cell? ⟨b, off + k * n + j, none⟩ = some (u k j))
      (hl : ∀ k, k < len → ∀ j, j < n → Lies lo hi w (f k j) (u k j)) : Lies lo hi w (.sl n len f) (.slice (some ⟨b, off, none⟩) len cap)

theorem Lies.frame {lo hi : Nat} {w w' : World} (hw : ∀ b o, lo ≤ b → b < hi → w'.cell? ⟨b, o, none⟩ = w.cell? ⟨b, o, none⟩) {c : Ct} {v : Value} (h : Lies lo hi w c v) : Lies lo hi w' c v := by
  induction h with
  | lit v => exact .lit v
  | nil n f a cap => exact .nil n f a cap
  | row n len f b off cap u hlo hhi hc hl ih => exact .row n len f b off cap u hlo hhi (fun k hk j hj => (hw b _ hlo hhi).trans (hc k hk j hj)) ih
theorem Lies.mono {lo hi lo' hi' : Nat} {w : World} (h1 : lo' ≤ lo) (h2 : hi ≤ hi') {c : Ct} {v : Value} (h : Lies lo hi w c v) : Lies lo' hi' w c v := by
  induction h with
  | lit v => exact .lit v
  | nil n f a cap => exact .nil n f a cap
  | row n len f b off cap u hlo hhi hc hl ih => exact .row n len f b off cap u (by omega) (by omega) hc ih
theorem Lies.later {lo hi B : Nat} {w w' : World} {c : Ct} {v : Value} (h : Lies lo hi w c v) (hb : Below B w w') (hB : hi ≤ B) : Lies lo hi w' c v :=
  h.frame fun b o _ h2 => hb.cell (p := ⟨b, o, none⟩) (by show b < B; omega)
theorem lies_lit {lo hi : Nat} {w : World} {u v : Value} (h : Lies lo hi w (.lit u) v) : v = u := by cases h; rfl

/-- A slice at the address a reads as len rows of n cells. -/
def Sl (lo hi : Nat) (w : World) (n len : Nat) (f : Nat → Nat → Ct) (a : Option Addr) : Prop := ∀ cap, Lies lo hi w (.sl n len f) (.slice a len cap)
theorem lies_sl {lo hi : Nat} {w : World} {n len : Nat} {f : Nat → Nat → Ct} {v : Value} (h : Lies lo hi w (.sl n len f) v) : ∃ a cap, v = .slice a len cap ∧ Sl lo hi w n len f a := by
  cases h with
  | nil n f a cap => exact ⟨a, cap, rfl, fun _ => .nil n f a _⟩
  | row n len f b off cap u hlo hhi hc hl => exact ⟨_, cap, rfl, fun _ => .row n len f b off _ u hlo hhi hc hl⟩
theorem Sl.of {lo hi : Nat} {w : World} {n len l cap : Nat} {f : Nat → Nat → Ct} {a : Option Addr} (h : Lies lo hi w (.sl n len f) (.slice a l cap)) : Sl lo hi w n len f a := by
  obtain ⟨a', cap', h1, h2⟩ := lies_sl h
  simp only [Value.slice.injEq] at h1
  rw [h1.1]
  exact h2
theorem Sl.up {lo hi : Nat} {w w' : World} {n len : Nat} {f : Nat → Nat → Ct} {a : Option Addr} (h : Sl lo hi w n len f a) (hb : Below w.heap.size w w') (hB : hi ≤ w.heap.size) : Sl lo w'.heap.size w' n len f a := fun cap => ((h cap).later hb hB).mono (Nat.le_refl _) (Nat.le_trans hB hb.size)
theorem Sl.later {lo hi B : Nat} {w w' : World} {n len : Nat} {f : Nat → Nat → Ct} {a : Option Addr} (h : Sl lo hi w n len f a) (hb : Below B w w') (hB : hi ≤ B) : Sl lo hi w' n len f a := fun cap => (h cap).later hb hB
theorem Sl.frame {lo hi : Nat} {w w' : World} {n len : Nat} {f : Nat → Nat → Ct} {a : Option Addr} (h : Sl lo hi w n len f a) (hw : ∀ b o, lo ≤ b → b < hi → w'.cell? ⟨b, o, none⟩ = w.cell? ⟨b, o, none⟩) : Sl lo hi w' n len f a := fun cap => (h cap).frame hw
theorem Sl.mono {lo hi lo' hi' : Nat} {w : World} {n len : Nat} {f : Nat → Nat → Ct} {a : Option Addr} (h : Sl lo hi w n len f a) (h1 : lo' ≤ lo) (h2 : hi ≤ hi') : Sl lo' hi' w n len f a := fun cap => (h cap).mono h1 h2
theorem Sl.at {lo hi : Nat} {w : World} {n len : Nat} {f : Nat → Nat → Ct} {a : Option Addr} (h : Sl lo hi w n len f a) (k : Nat) (hk : k < len) :
    ∃ b off : Nat, a = some ⟨b, off, none⟩ ∧ lo ≤ b ∧ b < hi ∧ ∀ j, j < n → ∃ u, w.cell? ⟨b, off + k * n + j, none⟩ = some u ∧ Lies lo hi w (f k j) u := by
  have h' := h 0
  cases h' with
  | nil => exact absurd hk (Nat.not_lt_zero _)
  | row n len f b off cap u hlo hhi hc hl => exact ⟨b, off, rfl, hlo, hhi, fun j hj => ⟨u k j, hc k hk j hj, hl k hk j hj⟩⟩
theorem Sl.nil {lo hi : Nat} {w : World} {n : Nat} {f : Nat → Nat → Ct} {a : Option Addr} : Sl lo hi w n 0 f a := fun _ => .nil n f a _
theorem Sl.row {lo hi : Nat} {w : World} {n len : Nat} {f : Nat → Nat → Ct} {b off : Nat} (hlo : lo ≤ b) (hhi : b < hi)
    (h : ∀ k, k < len → ∀ j, j < n → ∃ u, w.cell? ⟨b, off + k * n + j, none⟩ = some u ∧ Lies lo hi w (f k j) u) : Sl lo hi w n len f (some ⟨b, off, none⟩) := by
  intro cap
  classical
  refine .row n len f b off cap (fun k j => if hk : k < len then if hj : j < n then Classical.choose (h k hk j hj) else .nilFunc else .nilFunc) hlo hhi (fun k hk j hj => ?_) (fun k hk j hj => ?_)
  · simp only [dif_pos hk, dif_pos hj]; exact (Classical.choose_spec (h k hk j hj)).1
  · simp only [dif_pos hk, dif_pos hj]; exact (Classical.choose_spec (h k hk j hj)).2
/-- The rows may be spelled otherwise. -/
theorem Lies.congr {lo hi : Nat} {w : World} {n len : Nat} {f g : Nat → Nat → Ct} {v : Value} (h : Lies lo hi w (.sl n len f) v) (hfg : ∀ k, k < len → ∀ j, j < n → f k j = g k j) : Lies lo hi w (.sl n len g) v := by
  cases h with
  | nil n f a cap => exact .nil n g a cap
  | row n len f b off cap u hlo hhi hc hl => exact .row n len g b off cap u hlo hhi hc (fun k hk j hj => by rw [← hfg k hk j hj]; exact hl k hk j hj)
theorem Sl.congr {lo hi : Nat} {w : World} {n len : Nat} {f g : Nat → Nat → Ct} {a : Option Addr} (h : Sl lo hi w n len f a) (hfg : ∀ k, k < len → ∀ j, j < n → f k j = g k j) : Sl lo hi w n len g a := fun cap => (h cap).congr hfg

/-! What a list of data reads as. -/
def lct {α : Type} [Inhabited α] (n : Nat) (ct : α → Nat → Ct) (l : List α) : Nat → Ct := fun _ => .sl n l.length fun k => ct (l.getD k default)
def okI (z : Int) : Prop := -9223372036854775808 ≤ z ∧ z ≤ 9223372036854775807
def okS (s : ByteArray) : Prop := s.size ≤ 9223372036854775807
def okB (_ : Bool) : Prop := True
def okL {α : Type} (ok : α → Prop) (l : List α) : Prop := l.length ≤ 9223372036854775807 ∧ ∀ a ∈ l, ok a
theorem okL.at {α : Type} [Inhabited α] {ok : α → Prop} {l : List α} (h : okL ok l) {k : Nat} (hk : k < l.length) : ok (l.getD k default) := by
  rw [List.getD_eq_getElem?_getD, List.getElem?_eq_getElem hk]; exact h.2 _ (List.getElem_mem _)
def ictI (z : Int) : Nat → Ct := fun _ => .lit (.int .i64 z)
def ictS (s : ByteArray) : Nat → Ct := fun _ => .lit (.string s)
def ictB (b : Bool) : Nat → Ct := fun _ => .lit (.bool b)

/-! What came in reads so. -/
section
variable {H : Type} {enc : TypeId × Value → H} {P : Program} {w : World}

def Opens (enc : TypeId × Value → H) (P : Program) (w : World) (t : TypeId) (n : Nat) {α : Type} (ct : α → Nat → Ct) (ok : α → Prop) (fuel : Nat) : Prop :=
  ∀ (cs : List Value) (x : DataW H × List MemPlace), DataW.trod enc P w 0 (fun _ => true) true fuel t cs = some x → ∃ a : α, ok a ∧ cs.length = n ∧ ∀ j, j < n → ∃ v, cs[j]? = some v ∧ Lies 0 w.heap.size w (ct a j) v

theorem opens_int {t : TypeId} (ht : P.underlying t = some (.int .i64)) (fuel : Nat) : Opens enc P w t 1 ictI okI fuel := by
  intro cs x h
  obtain ⟨z, rfl, _, wf⟩ := DataW.trod_int ht h
  refine ⟨z, bounds_i64 wf, rfl, fun j hj => ?_⟩
  obtain rfl : j = 0 := by omega
  exact ⟨_, rfl, .lit _⟩
theorem opens_string {t : TypeId} (ht : P.underlying t = some .string) (fuel : Nat) : Opens enc P w t 1 ictS okS fuel := by
  intro cs x h
  obtain ⟨z, rfl, _, wf⟩ := DataW.trod_string ht h
  refine ⟨z, by unfold maxLen at wf; exact wf, rfl, fun j hj => ?_⟩
  obtain rfl : j = 0 := by omega
  exact ⟨_, rfl, .lit _⟩
theorem opens_bool {t : TypeId} (ht : P.underlying t = some .bool) (fuel : Nat) : Opens enc P w t 1 ictB okB fuel := by
  intro cs x h
  obtain ⟨z, rfl, _⟩ := DataW.trod_bool ht h
  refine ⟨z, trivial, rfl, fun j hj => ?_⟩
  obtain rfl : j = 0 := by omega
  exact ⟨_, rfl, .lit _⟩

theorem cell_block_lt {w : World} {p : Addr} {v : Value} (h : w.cell? p = some v) : p.block < w.heap.size := by
  rcases Nat.lt_or_ge p.block w.heap.size with h' | h'
  · exact h'
  · unfold World.cell? at h; rw [Array.getElem?_eq_none h'] at h; simp at h

theorem opens_slice {t e : TypeId} {n : Nat} {α : Type} [Inhabited α] {ct : α → Nat → Ct} {ok : α → Prop} (ht : P.underlying t = some (.slice e)) (hn : P.cellsOf e = n) (hn0 : 0 < n) (fuel : Nat)
    (ih : ∀ m, m < fuel → Opens enc P w e n ct ok m) : Opens enc P w t 1 (lct n ct) (okL ok) fuel := by
  intro cs x h
  rcases DataW.trod_slice ht h with ⟨rfl, _⟩ | ⟨a, len, cap, elems, rest, m, rfl, rfl, _, _, hlc, hcm, hlen, hel, _, _⟩
  · refine ⟨[], ⟨Nat.zero_le _, by simp⟩, rfl, fun j hj => ?_⟩
    obtain rfl : j = 0 := by omega
    exact ⟨_, rfl, .nil _ _ _ _⟩
  · have hk : ∀ k, k < len → ∃ z : α × List Value, ok z.1 ∧ z.2.length = n ∧ (∀ j, j < n → w.cell? (a.add (k * n + j)) = z.2[j]?) ∧ ∀ j, j < n → ∃ v, z.2[j]? = some v ∧ Lies 0 w.heap.size w (ct z.1 j) v := by
      intro k hk
      have he := hel k hk
      rw [hn, List.getElem?_eq_getElem (by omega)] at he
      obtain ⟨cs', hc', hx'⟩ := Option.bind_eq_some_iff.1 he
      obtain ⟨z, hz, hl, hj⟩ := ih m (by omega) cs' _ hx'
      obtain ⟨_, hcl, hat⟩ := World.cells?_some hc'
      exact ⟨⟨z, cs'⟩, hz, hl, fun j hj => by rw [← Go.Deep.add_add]; exact hat j hj, hj⟩
    obtain ⟨z, hz⟩ : ∃ z : Nat → α × List Value, ∀ k, k < len → ok (z k).1 ∧ (z k).2.length = n ∧ (∀ j, j < n → w.cell? (a.add (k * n + j)) = (z k).2[j]?) ∧ ∀ j, j < n → ∃ v, (z k).2[j]? = some v ∧ Lies 0 w.heap.size w (ct (z k).1 j) v := by
      classical
      exact ⟨fun k => if h : k < len then Classical.choose (hk k h) else ⟨default, []⟩, fun k h => by simp only [dif_pos h]; exact Classical.choose_spec (hk k h)⟩
    refine ⟨(List.range len).map fun k => (z k).1, ⟨by rw [List.length_map, List.length_range]; unfold maxLen at hcm; omega, fun b hb => ?_⟩, rfl, fun j hj => ?_⟩
    · obtain ⟨k, hk', rfl⟩ := List.mem_map.1 hb
      exact (hz k (List.mem_range.1 hk')).1
    · obtain rfl : j = 0 := by omega
      refine ⟨_, rfl, ?_⟩
      unfold lct
      rw [List.length_map, List.length_range]
      rcases Nat.eq_zero_or_pos len with h0 | h0
      · subst h0; exact .nil _ _ _ _
      · obtain ⟨b, off, spot⟩ := a
        have hs : spot = none := by
          obtain ⟨_, _, hat, hlies⟩ := hz 0 h0
          obtain ⟨v, hv, hl⟩ := hlies 0 hn0
          have hc := hat 0 hn0
          rw [hv] at hc
          have := World.cell?_spot hc
          simpa [Addr.add] using this
        subst hs
        have hcell : ∀ k, k < len → ∀ j, j < n → ∃ u, w.cell? ⟨b, off + k * n + j, none⟩ = some u ∧ Lies 0 w.heap.size w (ct (z k).1 j) u := by
          intro k hk' j hj'
          obtain ⟨_, _, hat, hlies⟩ := hz k hk'
          obtain ⟨v, hv, hl⟩ := hlies j hj'
          have hc := hat j hj'
          rw [hv] at hc
          rw [Go.WideShapes.add_plain, ← Nat.add_assoc] at hc
          exact ⟨v, hc, hl⟩
        have hb : b < w.heap.size := by
          obtain ⟨u, hc, _⟩ := hcell 0 h0 0 hn0
          exact cell_block_lt hc
        have hsl : Sl 0 w.heap.size w n len (fun k => ct (((List.range len).map fun k => (z k).1).getD k default)) (some ⟨b, off, none⟩) := Sl.row (Nat.zero_le _) hb fun k hk' j hj' => by
          obtain ⟨u, hc, hl⟩ := hcell k hk' j hj'
          refine ⟨u, hc, ?_⟩
          rw [List.getD_eq_getElem?_getD, List.getElem?_map, List.getElem?_range hk']
          exact hl
        exact hsl cap

/-- A field of a struct. -/
theorem opens_field {t : TypeId} {fs : Array Field} {fuel : Nat} {cs : List Value} {x : DataW H × List MemPlace} (hs : P.underlying t = some (.struct fs)) (h : DataW.trod enc P w 0 (fun _ => true) true fuel t cs = some x)
    (i : Nat) (f : Field) (hf : fs[i]? = some f) {ft : TypeId} {o n : Nat} (hft : f.type = ft) (ho : f.offset = o) {α : Type} {ct : α → Nat → Ct} {ok : α → Prop} (hop : ∀ m, m < fuel → Opens enc P w ft n ct ok m) (hC : P.cellsOf ft = n) :
    ∃ a : α, ok a ∧ ∀ j, j < n → ∃ v, cs[o + j]? = some v ∧ Lies 0 w.heap.size w (ct a j) v := by
  obtain ⟨xs, m, hm, _, hlen, hxs, hfs⟩ := DataW.trod_struct hs h
  have h1 := hfs i f hf
  have hi : i < fs.size := (Array.getElem?_eq_some_iff.1 hf).1
  rw [List.getElem?_eq_getElem (by omega)] at h1
  rw [hft, hC, ho] at h1
  obtain ⟨a, ha, hl, hj⟩ := hop m (by omega) _ _ h1
  refine ⟨a, ha, fun j hj' => ?_⟩
  obtain ⟨v, hv, hL⟩ := hj j hj'
  rw [List.getElem?_take, if_pos hj', List.getElem?_drop] at hv
  exact ⟨v, hv, hL⟩
theorem opens_len {t : TypeId} {fs : Array Field} {fuel : Nat} {cs : List Value} {x : DataW H × List MemPlace} (hs : P.underlying t = some (.struct fs)) (h : DataW.trod enc P w 0 (fun _ => true) true fuel t cs = some x) : cs.length = P.cellsOf t := by
  obtain ⟨xs, m, hm, _, hlen, hxs, hfs⟩ := DataW.trod_struct hs h
  exact hlen
end
end Go.Proofs.YtjlcbbaicengbaaDoor
