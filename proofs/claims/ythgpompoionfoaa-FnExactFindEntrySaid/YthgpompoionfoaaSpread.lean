/-
  append(s, list...) where list is a list of plain rows that lies in memory.
-/
import Derived.Test.YthgpompoionfoaaGrow
namespace Go.Proofs.Ythgpompoionfoaa
open Go.ChangeShapes Go.WideShapes Go.ChangeAt Go.RowKit Go.Deep

theorem sl_news {lo hi size : Nat} {w : World} {α : Type} [Inhabited α] {vals : α → List Value} {ct : α → Nat → Ct} {l : List α} {b off : Nat} (hv : ∀ x, (vals x).length = size) (hct : ∀ x j, j < size → ct x j = .lit ((vals x).getD j .nilFunc))
    (hsl : Sl lo hi w size l.length (fun t => ct (l.getD t default)) (some ⟨b, off, none⟩)) (j : Nat) (u : Value) (hu : (l.flatMap vals)[j]? = some u) : w.cell? ((⟨b, off, none⟩ : Addr).add j) = some u := by
  have hj : j < (l.flatMap vals).length := (List.getElem?_eq_some_iff.1 hu).1
  rw [flat_len hv] at hj
  have h0 : 0 < size := by rcases Nat.eq_zero_or_pos size with h | h; (· rw [h, Nat.mul_zero] at hj; exact absurd hj (Nat.not_lt_zero _)); exact h
  have ht : j / size < l.length := Nat.div_lt_of_lt_mul (by rw [Nat.mul_comm]; exact hj)
  have hc : j % size < size := Nat.mod_lt _ h0
  have e : j / size * size + j % size = j := by rw [Nat.mul_comm]; exact Nat.div_add_mod j size
  obtain ⟨b', off', hbo, _, _, hcell⟩ := hsl.at (j / size) ht
  simp only [Option.some.injEq, Addr.mk.injEq, and_true] at hbo
  obtain ⟨rfl, rfl⟩ := hbo
  obtain ⟨v, hv', hl⟩ := hcell (j % size) hc
  rw [hct _ _ hc] at hl
  have h1 := lies_lit hl
  have h2 := flat_get hv l (j / size) (j % size) ht hc
  rw [e, hu] at h2
  rw [Go.WideShapes.add_plain, ← e, ← Nat.add_assoc, hv', h1]
  exact congrArg some (Option.some.inj h2).symm

section
variable {P : Program} {w : World}
theorem wpList_append_nil {ops : Array Oper} {rest : List Oper} {o : Oper} {a : Act} {Q : Exit → Act → World → Prop} (hgd : o.guard = none) (s x : Operand) (t : TypeId)
    (ho : o.op = .call { callee := .builtin .append, args := #[s, x], argTypes := #[t, t] })
    (base : Nat) (e : TypeId) (i : TypeInfo) (size : Nat) (ht : P.underlying t = some (.slice e)) (hi : P.info? e = some i)
    (v : Value) (n : Nat) (xs : List Value) (hs : a.eval s = v) (hown : w.ownsRow base e size v n xs) (c : Nat) (hx : a.eval x = .slice none 0 c)
    (h : wpList P ops Q rest (a.put o.dst v) w) : wpList P ops Q (o :: rest) a w := by
  refine wpList_plain hgd fun K hK => ?_
  have hrun : (Builtin.append_ #[t, t] o.type #[v, .slice none 0 c]).run P w = .ok v w := by
    rcases hown.2 with ⟨rfl, rfl⟩ | ⟨g, cap, cur, rfl, _, _, hnc, _⟩
    · simp [Builtin.append_, run_underlying ht, sizeOf, typeInfo, hi, Builtin.lenOf, Builtin.firstCells]
    · simp [Builtin.append_, run_underlying ht, sizeOf, typeInfo, hi, Builtin.lenOf, Builtin.firstCells, hnc, storeCells]
  unfold Oper.wp
  simp [execOp, ho, resolve, invoke, builtin, hs, hx, hrun, Result.andThen]
  exact hK _ _ h

/-- The rows of a list in memory, appended. -/
theorem wpList_append_sl {ops : Array Oper} {rest : List Oper} {o : Oper} {a : Act} {Q : Exit → Act → World → Prop} (hgd : o.guard = none) (s x : Operand) (t : TypeId)
    (ho : o.op = .call { callee := .builtin .append, args := #[s, x], argTypes := #[t, t] })
    (base : Nat) (e : TypeId) (i : TypeInfo) (z : Value) (size bytes : Nat) (ht : P.underlying t = some (.slice e)) (hi : P.info? e = some i) (hz : i.zero = some z)
    (hsize : i.size = size) (hby : i.bytes = bytes) (hzs : z.cells.size = size) (hsz : 0 < size)
    (v : Value) (n : Nat) (xs : List Value) (hs : a.eval s = v) (hown : w.ownsRow base e size v n xs)
    {α : Type} [Inhabited α] {vals : α → List Value} {ct : α → Nat → Ct} {lo hi2 : Nat} (l : List α) (A : Option Addr) (c : Nat) (hx : a.eval x = .slice A l.length c)
    (hv : ∀ x, (vals x).length = size) (hct : ∀ x j, j < size → ct x j = .lit ((vals x).getD j .nilFunc)) (hone : ∀ x, ∀ u ∈ vals x, u.oneCell' = true)
    (hsl : Sl lo hi2 w size l.length (fun t => ct (l.getD t default)) A)
    (h63 : n + l.length ≤ maxLen) (hbytes : (n + l.length) * bytes ≤ 140737488355328) (hbase : base ≤ w.heap.size)
    (h : ∀ v' w', w'.ownsRow base e size v' (n + l.length) (xs ++ l.flatMap vals) → w.grownBy w' v.ownBlock → wpList P ops Q rest (a.put o.dst v') w') : wpList P ops Q (o :: rest) a w := by
  have h1 : ∀ u ∈ l.flatMap vals, u.oneCell' = true := fun u hu => by
    obtain ⟨x, _, hx⟩ := List.mem_flatMap.1 hu
    exact hone x u hx
  cases A with
  | none =>
    have h0 : l = [] := by
      rcases Nat.eq_zero_or_pos l.length with h | h
      · exact List.length_eq_zero_iff.1 h
      · obtain ⟨b, off, hb, _⟩ := hsl.at 0 h
        cases hb
    subst h0
    refine wpList_append_nil hgd s x t ho base e i size ht hi v n xs hs hown c hx (h v w (by simpa using hown) ⟨rfl, rfl, rfl, Nat.le_refl _, fun _ _ _ => rfl⟩)
  | some p =>
    refine wpList_append_own w hgd s x t ho base e i z size bytes ht hi hz hsize hby hzs hsz v n xs hs hown p l.length c (l.flatMap vals) hx (by rw [flat_len hv]) ?_ h1 h63 hbytes hbase (fun v' w' h2 h3 _ => h v' w' h2 h3)
    intro j u hu
    rcases Nat.eq_zero_or_pos l.length with h | h
    · obtain rfl : l = [] := List.length_eq_zero_iff.1 h
      simp at hu
    · obtain ⟨b, off, hb, _⟩ := hsl.at 0 h
      obtain rfl := Option.some.inj hb
      exact sl_news hv hct hsl j u hu
end
end Go.Proofs.Ythgpompoionfoaa
