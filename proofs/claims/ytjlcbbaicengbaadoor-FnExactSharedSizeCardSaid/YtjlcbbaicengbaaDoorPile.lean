/-
  A list that a call grows by append, whose rows hold data of their own: what it holds, and that it is the call's own.
-/
import Derived.Test.YtjlcbbaicengbaaDoorGrow
import Derived.Laws.Append
import Derived.Laws.Tables
namespace Go.Proofs.YtjlcbbaicengbaaDoor
open Go.ChangeShapes Go.WideShapes Go.ChangeAt Go.RowKit Go.Deep

section
variable {P : Program}
/-- An append: as the library's law says it; and the row stays where it was, or it is the newest block. -/
theorem run_append_at {w : World} (base : Nat) (t ty e : TypeId) (i : TypeInfo) (z : Value) (size bytes : Nat) (ht : P.underlying t = some (.slice e)) (hi : P.info? e = some i) (hz : i.zero = some z)
    (hsize : i.size = size) (hby : i.bytes = bytes) (hzs : z.cells.size = size) (hsz : 0 < size)
    (v : Value) (n : Nat) (xs : List Value) (hown : w.ownsRow base e size v n xs)
    (a : Addr) (m c : Nat) (news : List Value) (hl : news.length = m * size) (hnews : ∀ j u, news[j]? = some u → w.cell? (a.add j) = some u) (h1 : ∀ u ∈ news, u.oneCell' = true)
    (h63 : n + m ≤ maxLen) (hbytes : (n + m) * bytes ≤ 140737488355328) (hbase : base ≤ w.heap.size) :
    ∃ v' w', (Builtin.append_ #[t, t] ty #[v, .slice (some a) m c]).run P w = .ok v' w' ∧ w'.ownsRow base e size v' (n + m) (xs ++ news) ∧ w.grownBy w' v.ownBlock ∧ (v'.ownBlock = v.ownBlock ∨ v'.ownBlock = some w.heap.size) := by
  obtain ⟨v', w', hr, h2, h3, _⟩ := run_append_own (P := P) w base t ty e i z size bytes ht hi hz hsize hby hzs hsz v n xs hown a m c news hl hnews h1 h63 hbytes hbase
  refine ⟨v', w', hr, h2, h3, ?_⟩
  subst hsize
  subst hby
  rcases hown.2 with ⟨rfl, rfl⟩ | ⟨g, cap, cur, rfl, hbg, hg, hnc, hcm, hcs, htake⟩
  · by_cases hm : m = 0
    · subst hm
      have hn : news = [] := List.eq_nil_of_length_eq_zero (by simpa using hl)
      subst hn
      simp [Builtin.append_, run_underlying ht, sizeOf, typeInfo, hi, Builtin.lenOf, Builtin.firstCells, loadCells, loadCellsFrom] at hr
      exact .inl (by rw [← hr.1])
    · have hr' := run_append_nil (P := P) w t ty e i z ht hi hz a m c news hl hnews (by omega) (by unfold maxLen at h63; omega) (by have hb := hbytes; simp only [Nat.zero_add] at hb; omega)
      rw [hr'] at hr
      simp only [Result.ok.injEq] at hr
      exact .inr (by rw [← hr.1]; rfl)
  · by_cases hroom : n + m ≤ cap
    · have hfit : n * i.size + news.length ≤ cur.size := by rw [hl, hcs, ← Nat.add_mul]; exact Nat.mul_le_mul_right _ hroom
      have hr' := run_append_room (P := P) w t ty e i ht hi g n cap cur hg a m c news hl hnews h1 hroom hfit
      rw [hr'] at hr
      simp only [Result.ok.injEq] at hr
      exact .inl (by rw [← hr.1]; rfl)
    · have holds : ∀ j u, xs[j]? = some u → w.cell? ((⟨g, 0, none⟩ : Addr).add j) = some u := hown.cells (g := g) rfl
      have hr' := run_append_grow (P := P) w t ty e i z ht hi hz ⟨g, 0, none⟩ n cap xs hown.1 holds a m c news hl hnews (by omega) (by unfold maxLen at h63; omega) (growslice_fits (by omega) hbytes)
      rw [hr'] at hr
      simp only [Result.ok.injEq] at hr
      exact .inr (by rw [← hr.1]; rfl)
theorem wpList_append_at {w : World} {ops : Array Oper} {rest : List Oper} {o : Oper} {a : Act} {Q : Exit → Act → World → Prop} (hgd : o.guard = none) (s x : Operand) (t : TypeId)
    (ho : o.op = .call { callee := .builtin .append, args := #[s, x], argTypes := #[t, t] })
    (base : Nat) (e : TypeId) (i : TypeInfo) (z : Value) (size bytes : Nat) (ht : P.underlying t = some (.slice e)) (hi : P.info? e = some i) (hz : i.zero = some z)
    (hsize : i.size = size) (hby : i.bytes = bytes) (hzs : z.cells.size = size) (hsz : 0 < size)
    (v : Value) (n : Nat) (xs : List Value) (hs : a.eval s = v) (hown : w.ownsRow base e size v n xs)
    (ad : Addr) (m c : Nat) (news : List Value) (hx : a.eval x = .slice (some ad) m c) (hl : news.length = m * size) (hnews : ∀ j u, news[j]? = some u → w.cell? (ad.add j) = some u) (h1 : ∀ u ∈ news, u.oneCell' = true)
    (h63 : n + m ≤ maxLen) (hbytes : (n + m) * bytes ≤ 140737488355328) (hbase : base ≤ w.heap.size)
    (h : ∀ v' w', w'.ownsRow base e size v' (n + m) (xs ++ news) → w.grownBy w' v.ownBlock → (v'.ownBlock = v.ownBlock ∨ v'.ownBlock = some w.heap.size) → wpList P ops Q rest (a.put o.dst v') w') : wpList P ops Q (o :: rest) a w := by
  refine wpList_plain hgd fun K hK => ?_
  obtain ⟨v', w', hr, h2, h3, h4⟩ := run_append_at (P := P) base t o.type e i z size bytes ht hi hz hsize hby hzs hsz v n xs hown ad m c news hl hnews h1 h63 hbytes hbase
  unfold Oper.wp execOp
  simp only [ho, resolve, invoke, builtin, Sem.run_bind, Sem.run_pure, Result.andThen_ok, List.map_toArray, List.map_cons, List.map_nil, hs, hx, hr]
  exact hK _ _ (h v' w' h2 h3 h4)
end

/-! A block whole. -/
theorem pblk_cell {w : World} {g j : Nat} {v : Value} {cs : Array Value} {t : TypeId} {fr : Nat × Nat} (h : w.heap[g]? = some (.cells cs t fr)) (hj : cs[j]? = some v) : w.cell? ⟨g, j, Option.none⟩ = some v := by
  simp only [World.cell?, h]
  exact hj
theorem pblk_frozen {w : World} {g j : Nat} {cs : Array Value} {t : TypeId} (h : w.heap[g]? = some (.cells cs t (0, 0))) : w.frozen? ⟨g, j, Option.none⟩ = false := by
  simp only [World.frozen?, h]
  simp
theorem pblk_put {w : World} {g j : Nat} {u : Value} {cs cs' : Array Value} {t : TypeId} {fr : Nat × Nat} (h : w.heap[g]? = some (.cells cs t fr)) (hc : cs.setIfInBounds j u = cs') : (w.setCell ⟨g, j, Option.none⟩ u).heap[g]? = some (.cells cs' t fr) := by
  rw [← hc]
  exact blk_set h
theorem news_new {w : World} {cs : List Value} {t : TypeId} : ∀ j u, cs[j]? = some u → (w.alloc (.cells cs.toArray t)).cell? ((⟨w.heap.size, 0, Option.none⟩ : Addr).add j) = some u := by
  intro j u h
  rw [Go.WideShapes.add_plain, Nat.zero_add]
  exact pblk_cell (blk_new rfl) (by simpa using h)
theorem kept_setRow {F : Nat → Prop} {a w : World} {g : Nat} {cs : Array Value} (h : Kept F a w) (hF : ¬ F g) : Kept F a (w.setRow g cs) :=
  h.trans ⟨by simp [World.setRow], fun b hb _ => setRow_other w g b cs (fun e => hF (e ▸ hb))⟩
theorem pile_setRow {B g : Nat} {w0 w : World} (hb : Below B w0 w) (hBg : B ≤ g) (cs : Array Value) : Below B w0 (w.setRow g cs) :=
  hb.trans ⟨rfl, rfl, rfl, by simp [World.setRow], fun k hk => setRow_other w g k cs (by omega)⟩

theorem ownsRow_kept {w w' : World} {B : Nat} {e : TypeId} {n len : Nat} {v : Value} {xs : List Value} (h : w.ownsRow B e n v len xs) (hk : Kept (fun x => B ≤ x) w w') : w'.ownsRow B e n v len xs := by
  obtain ⟨h1, h2⟩ := h
  refine ⟨h1, ?_⟩
  rcases h2 with h2 | ⟨g, cap, cur, hv, hB, hg, h3⟩
  · exact Or.inl h2
  · exact Or.inr ⟨g, cap, cur, hv, hB, by rw [hk.2 g hB (Array.getElem?_eq_some_iff.1 hg).1]; exact hg, h3⟩

/-- The rows' own data: each in its own blocks, from B on, none in the block r. -/
def Rows (B : Nat) (w : World) (n : Nat) (r : Option Nat) (len : Nat) (c : Nat → Nat → Ct) (xs : List Value) : Prop :=
  ∃ G : Nat → Nat → Prop, (∀ k, k < len → OwnR w (G k) n (c k) (fun j => xs.getD (k * n + j) .nilFunc)) ∧ (∀ k, k < len → ∀ x, G k x → B ≤ x ∧ x < w.heap.size ∧ r ≠ some x) ∧ ∀ k, k < len → ∀ k', k' < len → ∀ x, G k x → G k' x → k = k'
theorem Rows.zero {B n : Nat} {w : World} {r : Option Nat} {c : Nat → Nat → Ct} {xs : List Value} : Rows B w n r 0 c xs := ⟨fun _ _ => False, fun _ h => absurd h (Nat.not_lt_zero _), fun _ h => absurd h (Nat.not_lt_zero _), fun _ h => absurd h (Nat.not_lt_zero _)⟩
theorem Rows.kept {B n len : Nat} {w w' : World} {r : Option Nat} {c : Nat → Nat → Ct} {xs : List Value} (h : Rows B w n r len c xs) (hk : Kept (fun x => B ≤ x ∧ r ≠ some x) w w') : Rows B w' n r len c xs := by
  obtain ⟨G, h1, h2, h3⟩ := h
  exact ⟨G, fun k hk' => (h1 k hk').kept (hk.sub fun x hx => ⟨(h2 k hk' x hx).1, (h2 k hk' x hx).2.2⟩), fun k hk' x hx => ⟨(h2 k hk' x hx).1, Nat.lt_of_lt_of_le (h2 k hk' x hx).2.1 hk.1, (h2 k hk' x hx).2.2⟩, h3⟩
theorem Rows.congr {B n len : Nat} {w : World} {r : Option Nat} {c c' : Nat → Nat → Ct} {xs : List Value} (h : Rows B w n r len c xs) (hc : ∀ k, k < len → ∀ j, j < n → c k j = c' k j) : Rows B w n r len c' xs := by
  obtain ⟨G, h1, h2, h3⟩ := h
  exact ⟨G, fun k hk => (h1 k hk).congr (hc k hk) fun _ _ => rfl, h2, h3⟩
/-- One row more: its data were made behind all that was there (in the world w0); then the list was written in its own block r or in the newest one. -/
theorem Rows.step {B n len : Nat} {w0 w1 w2 : World} {r r' : Option Nat} {c : Nat → Nat → Ct} {xs news : List Value} (h : Rows B w0 n r len c xs) (hB : B ≤ w0.heap.size) (hr0 : ∀ x, r = some x → x < w0.heap.size) (hb : Below w0.heap.size w0 w1)
    (hu : OwnR w1 (fun x => w0.heap.size ≤ x ∧ x < w1.heap.size) n (c len) (fun j => news.getD j .nilFunc)) (hg : w1.grownBy w2 r) (hr : r' = r ∨ r' = some w1.heap.size) (hxs : xs.length = len * n) :
    Rows B w2 n r' (len + 1) c (xs ++ news) := by
  obtain ⟨G, h1, h2, h3⟩ := h
  have hk : Kept (fun x => r ≠ some x) w1 w2 := ⟨hg.size, fun b hb hs => hg.block b hs (fun e => hb e.symm)⟩
  have hr' : ∀ x, x < w1.heap.size → r ≠ some x → r' ≠ some x := by
    intro x hx hn
    rcases hr with rfl | rfl
    · exact hn
    · intro e; simp at e; omega
  refine ⟨fun k x => if k < len then G k x else w0.heap.size ≤ x ∧ x < w1.heap.size, fun k hk' => ?_, fun k hk' x hx => ?_, fun k hk1 k' hk2 x hx hx' => ?_⟩
  · by_cases hkl : k < len
    · simp only [if_pos hkl]
      refine (((h1 k hkl).kept (Kept.of_below hb fun x hx => (h2 k hkl x hx).2.1)).kept (hk.sub fun x hx => (h2 k hkl x hx).2.2)).congr (fun _ _ => rfl) fun j hj => ?_
      have hlt : k * n + j < xs.length := by
        rw [hxs]
        have := Nat.mul_le_mul_right n (show k + 1 ≤ len from hkl)
        rw [Nat.succ_mul] at this
        omega
      simp only [List.getD_eq_getElem?_getD, List.getElem?_append_left hlt]
    · obtain rfl : k = len := by omega
      simp only [if_neg hkl]
      refine (hu.kept (hk.sub fun x hx e => ?_)).congr (fun _ _ => rfl) fun j hj => ?_
      · have := hr0 x e; omega
      · simp only [List.getD_eq_getElem?_getD, List.getElem?_append_right (show xs.length ≤ k * n + j by omega), hxs, Nat.add_sub_cancel_left]
  · by_cases hkl : k < len
    · simp only [if_pos hkl] at hx
      have h4 := h2 k hkl x hx
      have h5 := hb.size
      exact ⟨h4.1, by have := hg.size; omega, hr' x (by omega) h4.2.2⟩
    · simp only [if_neg hkl] at hx
      exact ⟨by omega, by have := hg.size; omega, hr' x hx.2 (fun e => by have := hr0 x e; omega)⟩
  · by_cases ha : k < len <;> by_cases hb' : k' < len
    · simp only [if_pos ha] at hx; simp only [if_pos hb'] at hx'; exact h3 k ha k' hb' x hx hx'
    · simp only [if_pos ha] at hx; simp only [if_neg hb'] at hx'; have := (h2 k ha x hx).2.1; omega
    · simp only [if_neg ha] at hx; simp only [if_pos hb'] at hx'; have := (h2 k' hb' x hx').2.1; omega
    · omega
/-- The list as a whole is the call's own. -/
theorem Rows.own {B n len : Nat} {w : World} {e : TypeId} {v : Value} {c : Nat → Nat → Ct} {xs : List Value} (h : Rows B w n v.ownBlock len c xs) (ho : w.ownsRow B e n v len xs) :
    ∃ a cap, v = .slice a len cap ∧ Own w (fun y => B ≤ y ∧ y < w.heap.size) (.sl n len c) (.slice a len cap) := by
  obtain ⟨G, h1, h2, h3⟩ := h
  have ho' := ho
  rcases ho.2 with ⟨rfl, rfl⟩ | ⟨g, cap, cur, rfl, hB, hg, _⟩
  · exact ⟨Option.none, 0, rfl, .nil _ _ _ _ _⟩
  · have hlt : g < w.heap.size := (Array.getElem?_eq_some_iff.1 hg).1
    classical
    refine ⟨some ⟨g, 0, Option.none⟩, cap, rfl, .row _ n len c g 0 cap (fun t j => xs.getD (t * n + j) .nilFunc) (fun t j => if ht : t < len then Classical.choose (h1 t ht) j else fun _ => False) ⟨hB, hlt⟩ hlt (fun t ht j hj => ?_) (fun o => ho'.frozenAt o) (fun t ht j hj => ?_) (fun t ht j hj x hx => ?_) (fun t ht j hj t' ht' j' hj' x hx hx' => ?_)⟩
    · have hi : t * n + j < len * n := by
        have := Nat.mul_le_mul_right n (show t + 1 ≤ len from ht)
        rw [Nat.succ_mul] at this
        omega
      rw [Nat.zero_add, ho'.cellAt (t * n + j) hi, List.getD_eq_getElem?_getD, List.getElem?_eq_getElem (by rw [ho'.1]; exact hi)]
      rfl
    · simp only [dif_pos ht]; exact (Classical.choose_spec (h1 t ht)).1 j hj
    · simp only [dif_pos ht] at hx
      have h5 := h2 t ht x ((Classical.choose_spec (h1 t ht)).2.1 j hj x hx)
      exact ⟨⟨h5.1, h5.2.1⟩, fun e => h5.2.2 (by rw [e]; rfl)⟩
    · simp only [dif_pos ht] at hx
      simp only [dif_pos ht'] at hx'
      have hkk : t = t' := h3 t ht t' ht' x ((Classical.choose_spec (h1 t ht)).2.1 j hj x hx) ((Classical.choose_spec (h1 t' ht')).2.1 j' hj' x hx')
      subst hkk
      exact ⟨rfl, (Classical.choose_spec (h1 t ht)).2.2 j hj j' hj' x hx hx'⟩
end Go.Proofs.YtjlcbbaicengbaaDoor
