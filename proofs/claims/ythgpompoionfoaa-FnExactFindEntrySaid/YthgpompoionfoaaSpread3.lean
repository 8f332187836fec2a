/-
  'append([]T{}, list...)': a list of plain rows copied into a row that was made with nothing in it: as a law for the walk.
-/
import Derived.Test.YthgpompoionfoaaSpread
import Derived.Test.YthgpompoionfoaaPile
namespace Go.Proofs.Ythgpompoionfoaa
open Go.ChangeShapes Go.WideShapes Go.ChangeAt Go.RowKit Go.Deep

theorem ownsRow_at {w : World} {B B' n len g c : Nat} {e : TypeId} {xs : List Value} (h : w.ownsRow B e n (.slice (some ⟨g, 0, none⟩) len c) len xs) (hB : B' ≤ g) : w.ownsRow B' e n (.slice (some ⟨g, 0, none⟩) len c) len xs := by
  obtain ⟨h1, h2⟩ := h
  refine ⟨h1, ?_⟩
  rcases h2 with ⟨h2, _⟩ | ⟨g', cap, cur, hv, _, hg, h3⟩
  · cases h2
  · have e1 : g = g' := by simp only [Value.slice.injEq, Option.some.injEq, Addr.mk.injEq, and_true] at hv; exact hv.1
    subst e1
    exact Or.inr ⟨g, cap, cur, hv, hB, hg, h3⟩
section
variable {P : Program}
theorem wpList_append_fresh {w : World} {ops : Array Oper} {rest : List Oper} {o : Oper} {a : Act} {Q : Exit → Act → World → Prop} (hgd : o.guard = none) (s x : Operand) (t : TypeId)
    (ho : o.op = .call { callee := .builtin .append, args := #[s, x], argTypes := #[t, t] })
    (e : TypeId) (i : TypeInfo) (z : Value) (size bytes : Nat) (ht : P.underlying t = some (.slice e)) (hi : P.info? e = some i) (hz : i.zero = some z)
    (hsize : i.size = size) (hby : i.bytes = bytes) (hzs : z.cells.size = size) (hsz : 0 < size)
    (g : Nat) (hg : w.heap[g]? = some (.cells #[] e (0, 0))) (hs : a.eval s = .slice (some ⟨g, 0, none⟩) 0 0)
    {α : Type} [Inhabited α] {vals : α → List Value} {ct : α → Nat → Ct} {lo hi2 : Nat} (l : List α) (A : Option Addr) (c : Nat) (hx : a.eval x = .slice A l.length c)
    (hv : ∀ x, (vals x).length = size) (hct : ∀ x j, j < size → ct x j = .lit ((vals x).getD j .nilFunc)) (hone : ∀ x, ∀ u ∈ vals x, u.oneCell' = true)
    (hsl : Sl lo hi2 w size l.length (fun t => ct (l.getD t default)) A)
    (h63 : l.length ≤ maxLen) (hbytes : l.length * bytes ≤ 140737488355328)
    (h : ∀ a' c' w', Own w' (fun y => w.heap.size ≤ y ∧ y < w'.heap.size) (.sl size l.length (fun t => ct (l.getD t default))) (.slice a' l.length c') → Below w.heap.size w w' → wpList P ops Q rest (a.put o.dst (.slice a' l.length c')) w') : wpList P ops Q (o :: rest) a w := by
  have hlt : g < w.heap.size := (Array.getElem?_eq_some_iff.1 hg).1
  have hown : w.ownsRow g e size (.slice (some ⟨g, 0, none⟩) 0 0) 0 [] := ⟨by simp, Or.inr ⟨g, 0, #[], rfl, Nat.le_refl _, hg, Nat.le_refl _, Nat.zero_le _, by simp, by simp⟩⟩
  rcases Nat.eq_zero_or_pos l.length with h0 | h0
  · rw [h0] at hx
    rw [h0] at h
    cases A with
    | none => exact wpList_append_nil hgd s x t ho g e i size ht hi _ 0 [] hs hown c hx (h (some ⟨g, 0, none⟩) 0 w (.nil _ _ _ _ _) (Below.refl _ _))
    | some ad =>
      refine wpList_plain hgd fun K hK => ?_
      have hr := run_append_room (P := P) w t o.type e i ht hi g 0 0 #[] hg ad 0 c [] (by simp) (by simp) (by simp) (Nat.le_refl _) (by simp)
      unfold Oper.wp execOp
      simp only [ho, resolve, invoke, builtin, Sem.run_bind, Sem.run_pure, Result.andThen_ok, List.map_toArray, List.map_cons, List.map_nil, hs, hx, hr]
      refine hK _ _ (h (some ⟨g, 0, none⟩) 0 _ (.nil _ _ _ _ _) ?_)
      refine ⟨rfl, rfl, rfl, by simp [World.setRow], fun k hk => ?_⟩
      by_cases hkg : k = g
      · subst hkg
        rw [setRow_heap _ _ _ _ _ _ hg, hg]
        simp
      · exact setRow_other w g k _ hkg
  · obtain ⟨b, off, rfl, _, _, _⟩ := hsl.at 0 h0
    have hnews := sl_news hv hct hsl
    have hlen := flat_len hv l
    have hone' : ∀ u ∈ l.flatMap vals, u.oneCell' = true := fun u hu => by obtain ⟨y, _, hy⟩ := List.mem_flatMap.1 hu; exact hone y u hy
    obtain ⟨v', w', hr, h2, h3, _⟩ := run_append_own (P := P) w g t o.type e i z size bytes ht hi hz hsize hby hzs hsz _ 0 [] hown ⟨b, off, none⟩ l.length c (l.flatMap vals) hlen hnews hone' (by rw [Nat.zero_add]; exact h63) (by rw [Nat.zero_add]; exact hbytes) (by omega)
    have hr0 := hr
    subst hsize
    subst hby
    have hr' := run_append_grow (P := P) w t o.type e i z ht hi hz ⟨g, 0, none⟩ 0 0 [] (by simp) (by simp) ⟨b, off, none⟩ l.length c (l.flatMap vals) hlen hnews (by omega) (by unfold maxLen at h63; omega) (growslice_fits (by omega) (by rw [Nat.zero_add]; exact hbytes))
    rw [hr'] at hr
    simp only [Result.ok.injEq] at hr
    obtain ⟨e1, e2⟩ := hr
    rw [Nat.zero_add] at e1 h2
    rw [List.nil_append] at h2
    have hB : Below w.heap.size w w' := by rw [← e2]; exact (Below.drew (Below.refl _ _)).alloc (Nat.le_refl _) _
    rw [← e1] at h2
    have h4 := ownsRow_at (B' := w.heap.size) h2 (Nat.le_refl _)
    obtain ⟨a', c', e3, ho4⟩ := grown_own hsz hv hct h4
    rw [← e1, e3] at hr0
    refine wpList_plain hgd fun K hK => ?_
    unfold Oper.wp execOp
    simp only [ho, resolve, invoke, builtin, Sem.run_bind, Sem.run_pure, Result.andThen_ok, List.map_toArray, List.map_cons, List.map_nil, hs, hx, hr0]
    exact hK _ _ (h a' c' w' ho4 hB)
end
end Go.Proofs.Ythgpompoionfoaa
