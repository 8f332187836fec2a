/-
  A map that a call makes and owns, as a function from keys to values: what it holds at every key (its zero value where nothing was put).
-/
import Derived.Test.YtjlcbbaicengbaaDoorKit
import Derived.Maps.OwnOps
import Derived.Maps.Views
import Derived.WalkSpells
import Derived.WalkSmall
import Derived.WalkLawsBesides
import Derived.DeepKeys4
import Derived.Lib.Hide
namespace Go.Proofs.YtjlcbbaicengbaaDoor
open Go.ChangeShapes Go.WideShapes Go.ChangeAt Go.RowKit
open Go.Maps (Keyed)
open Go.WideMaps (keyOf_string_mk)

/-- How keys and values of a map are read. -/
structure MapK (P : Program) (t k e : TypeId) {κ β : Type} (okK : κ → Prop) (emb : κ → Value) (okV : β → Prop) (vv : β → Value) (vl : β → Lit) (z : β) : Prop where
  keyed : Keyed P k
  type : P.underlying t = some (.map k e)
  key : ∀ x, okK x → ∃ l, keyOf P k (emb x) = some l
  inj : ∀ x y, okK x → okK y → emb x = emb y → x = y
  val : ∀ v, okV v → plainElem (H := Unit) P e (vv v) = some (.lit (vl v), [])
  back : ∀ (u : Value) (v : β) (ps : List MemPlace), plainElem (H := Unit) P e u = some (.lit (vl v), ps) → u = vv v
  zero : ∀ w, (zeroValue e).run P w = .ok (vv z) w
  okz : okV z

/-- Block b is a map of at most n entries that holds f. -/
def MapF (P : Program) (k e : TypeId) {κ β : Type} (okK : κ → Prop) (emb : κ → Value) (vl : β → Lit) (z : β) (w : World) (b n : Nat) (f : κ → β) : Prop :=
  ∃ D : DataW Unit, w.ownsMap P k (plainElem P e) b n D ∧ Maps.IsMap D ∧ ∀ x, okK x → ∀ kl, keyOf P k (emb x) = some kl → D.atKey kl (.lit (vl z)) = .lit (vl (f x))

section
variable {P : Program} {t k e : TypeId} {κ β : Type} {okK : κ → Prop} {emb : κ → Value} {okV : β → Prop} {vv : β → Value} {vl : β → Lit} {z : β} {w : World} {b n : Nat} {f : κ → β}

theorem MapF.made (w : World) : MapF P k e okK emb vl z (w.alloc (.map #[] 0)) w.heap.size 0 (fun _ => z) :=
  ⟨.map [], World.ownsMap_made _ _ _ _, ⟨_, rfl⟩, fun _ _ _ _ => rfl⟩
theorem MapF.lt (h : MapF P k e okK emb vl z w b n f) : b < w.heap.size := by obtain ⟨D, h1, _⟩ := h; exact h1.lt
theorem MapF.kept {w' : World} {row : Option Nat} (h : MapF P k e okK emb vl z w b n f) (hg : w.grownBy w' row) (hne : some b ≠ row) : MapF P k e okK emb vl z w' b n f := by
  obtain ⟨D, h1, h2⟩ := h; exact ⟨D, h1.kept hg hne, h2⟩
theorem MapF.block {w' : World} (h : MapF P k e okK emb vl z w b n f) (hb : w'.heap[b]? = w.heap[b]?) : MapF P k e okK emb vl z w' b n f := by
  obtain ⟨D, ⟨es, clock, h1, h3⟩, h2⟩ := h
  exact ⟨D, ⟨es, clock, hb.trans h1, h3⟩, h2⟩
theorem MapF.later {w' : World} (h : MapF P k e okK emb vl z w b n f) (hb : Below w.heap.size w w') : MapF P k e okK emb vl z w' b n f := h.block (hb.block b h.lt)
theorem MapF.mono {m : Nat} (h : MapF P k e okK emb vl z w b n f) (hm : n ≤ m) : MapF P k e okK emb vl z w b m f := by
  obtain ⟨D, h1, h2⟩ := h; exact ⟨D, h1.mono hm, h2⟩
theorem MapF.congr {f' : κ → β} (h : MapF P k e okK emb vl z w b n f) (hf : ∀ x, okK x → f' x = f x) : MapF P k e okK emb vl z w b n f' := by
  obtain ⟨D, h1, h2, h3⟩ := h; exact ⟨D, h1, h2, fun x hx kl hk => by rw [hf x hx]; exact h3 x hx kl hk⟩

theorem MapF.put (K : MapK P t k e okK emb okV vv vl z) (h : MapF P k e okK emb vl z w b n f) (hn : n < maxLen) {x : κ} (hx : okK x) {v : β} (hv : okV v) {f' : κ → β} (h1 : f' x = v) (h2 : ∀ y, okK y → y ≠ x → f' y = f y) :
    ∃ w', (Instr.mapUpdate t (.map (some b)) (emb x) (vv v)).run P w = .ok () w' ∧ MapF P k e okK emb vl z w' b (n + 1) f' ∧ w.grownBy w' (some b) := by
  obtain ⟨D, d1, d2, d3⟩ := h
  obtain ⟨kl, hkl⟩ := K.key x hx
  obtain ⟨w', r1, r2, r3⟩ := d1.update K.keyed K.type hn hkl (K.val v hv)
  refine ⟨w', r1, ⟨_, r2, ?_, fun y hy kl' hkl' => ?_⟩, r3⟩
  · obtain ⟨es, rfl⟩ := d2; exact ⟨_, rfl⟩
  · by_cases hyx : y = x
    · subst hyx
      obtain rfl : kl' = kl := Option.some.inj (hkl'.symm.trans hkl)
      rw [Maps.atKey_put_same d2 (K.keyed.key hkl), h1]
    · have hne : kl' ≠ kl := fun e => hyx (K.inj y x hy hx (K.keyed.inj (e ▸ hkl') hkl))
      rw [Maps.atKey_put_other hne, d3 y hy kl' hkl', h2 y hy hyx]

theorem MapF.look (K : MapK P t k e okK emb okV vv vl z) (h : MapF P k e okK emb vl z w b n f) {x : κ} (hx : okK x) :
    (Instr.lookup t (.map (some b)) (emb x) false).run P w = .ok (vv (f x)) w := by
  obtain ⟨D, d1, d2, d3⟩ := h
  obtain ⟨kl, hkl⟩ := K.key x hx
  obtain ⟨v, ps, r1, r2⟩ := d1.lookup K.keyed K.type (K.zero w) (K.val z K.okz) hkl
  rw [d3 x hx kl hkl] at r2
  rw [r1, K.back v (f x) ps r2]
end

section
variable {P : Program} (w : World) {ops : Array Oper} {rest : List Oper} {o : Oper} {a : Act} {Q : Exit → Act → World → Prop}
variable {t k e : TypeId} {κ β : Type} {okK : κ → Prop} {emb : κ → Value} {okV : β → Prop} {vv : β → Value} {vl : β → Lit} {z : β} {b n : Nat} {f : κ → β}

theorem wpList_put_mapF (hg : o.guard = none) (m x v : Operand) (hop : o.op = Op.mapUpdate t m x v) (K : MapK P t k e okK emb okV vv vl z) (h : MapF P k e okK emb vl z w b n f) (hn : n < maxLen) (hm : a.eval m = .map (some b))
    {y : κ} (hy : okK y) {u : β} (hu : okV u) (hx : a.eval x = emb y) (hv : a.eval v = vv u) {f' : κ → β} (h1 : f' y = u) (h2 : ∀ q, okK q → q ≠ y → f' q = f q)
    (hK : ∀ w', MapF P k e okK emb vl z w' b (n + 1) f' → w.grownBy w' (some b) → wpList P ops Q rest (a.put o.dst undef) w') : wpList P ops Q (o :: rest) a w := by
  refine wpList_plain hg fun K' hK' => ?_
  obtain ⟨w', hrun, r1, r2⟩ := h.put K hn hy hu h1 h2
  unfold Oper.wp
  simp [execOp, hop, hm, hx, hv, hrun, Result.andThen]
  exact hK' _ _ (hK w' r1 r2)

theorem wpList_look_mapF (hg : o.guard = none) (m x : Operand) (hop : o.op = Op.lookup t m x false) (K : MapK P t k e okK emb okV vv vl z) (h : MapF P k e okK emb vl z w b n f) (hm : a.eval m = .map (some b))
    {y : κ} (hy : okK y) (hx : a.eval x = emb y) (hK : wpList P ops Q rest (a.put o.dst (vv (f y))) w) : wpList P ops Q (o :: rest) a w := by
  refine wpList_plain hg fun K' hK' => ?_
  have hrun := h.look K hy
  unfold Oper.wp
  simp [execOp, hop, hm, hx, hrun, Result.andThen]
  exact hK' _ _ hK
end

/-! Kinds of keys and values. -/
def litI (z : Int) : Lit := .int .i64 z
def litB (x : Bool) : Lit := .bool x
def valI (z : Int) : Value := .int .i64 z
def valB (x : Bool) : Value := .bool x
def embS (s : ByteArray) : Value := .string s
def okMS (s : ByteArray) : Prop := s.size ≤ maxLen
def okMI (z : Int) : Prop := -9223372036854775808 ≤ z ∧ z ≤ 9223372036854775807
theorem valI_read {P : Program} {e : TypeId} (he : P.underlying e = some (.int .i64)) (v : Int) (h : okMI v) : plainElem (H := Unit) P e (valI v) = some (.lit (litI v), []) := plainElem_int he (WalkArith.wf_i64 h)
theorem valI_back {P : Program} {e : TypeId} (he : P.underlying e = some (.int .i64)) (u : Value) (v : Int) (ps : List MemPlace) (h : plainElem (H := Unit) P e u = some (.lit (litI v), ps)) : u = valI v := by
  obtain ⟨c, rfl, hc, _⟩ := plainElem_int_inv he h
  simp only [Prod.mk.injEq, DataW.lit.injEq, litI, Lit.int.injEq, true_and] at hc
  rw [← hc.1]; rfl
theorem valB_back {P : Program} {e : TypeId} (he : P.underlying e = some .bool) (u : Value) (v : Bool) (ps : List MemPlace) (h : plainElem (H := Unit) P e u = some (.lit (litB v), ps)) : u = valB v := by
  unfold plainElem at h
  rw [he] at h
  cases u <;> simp [litB] at h
  rw [← h.1]; rfl
theorem mapK_SI {P : Program} {t k e : TypeId} (ht : P.underlying t = some (.map k e)) (hk : P.underlying k = some .string) (he : P.underlying e = some (.int .i64)) (hz : ∀ w, (zeroValue e).run P w = .ok (.int .i64 0) w) : MapK P t k e okMS embS okMI valI litI 0 :=
  ⟨Maps.string_keyed hk, ht, fun _ h => ⟨_, keyOf_string_mk hk h⟩, fun _ _ _ _ h => by injection h, valI_read he, valI_back he, hz, by unfold okMI; omega⟩
theorem mapK_II {P : Program} {t k e : TypeId} (ht : P.underlying t = some (.map k e)) (hk : P.underlying k = some (.int .i64)) (he : P.underlying e = some (.int .i64)) (hz : ∀ w, (zeroValue e).run P w = .ok (.int .i64 0) w) : MapK P t k e okMI valI okMI valI litI 0 :=
  ⟨Maps.int_keyed hk, ht, fun _ h => ⟨_, Maps.keyOf_int_mk hk (WalkArith.wf_i64 h)⟩, fun _ _ _ _ h => by injection h, valI_read he, valI_back he, hz, by unfold okMI; omega⟩
theorem mapK_IB {P : Program} {t k e : TypeId} (ht : P.underlying t = some (.map k e)) (hk : P.underlying k = some (.int .i64)) (he : P.underlying e = some .bool) (hz : ∀ w, (zeroValue e).run P w = .ok (.bool false) w) : MapK P t k e okMI valI (fun _ => True) valB litB false :=
  ⟨Maps.int_keyed hk, ht, fun _ h => ⟨_, Maps.keyOf_int_mk hk (WalkArith.wf_i64 h)⟩, fun _ _ _ _ h => by injection h, fun v _ => plainElem_bool he v, valB_back he, hz, trivial⟩
end Go.Proofs.YtjlcbbaicengbaaDoor
