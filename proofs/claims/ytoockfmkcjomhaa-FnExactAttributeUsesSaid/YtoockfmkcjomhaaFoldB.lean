/-
  The rows of a fold: a row cut at a place, what stands behind the place, an append of such a part to nothing, in a round too.
-/
import Derived.Test.YtoockfmkcjomhaaBack
import Derived.Test.YtoockfmkcjomhaaFold
import Derived.Test.YtoockfmkcjomhaaRev
import Derived.Test.YtoockfmkcjomhaaFreeKIn
import Derived.Test.YtoockfmkcjomhaaFreeA
namespace Go.Proofs.Ytoockfmkcjomhaa
open Go.ChangeShapes Go.WideShapes Go.ChangeAt Go.RowKit Go.Deep

section
variable {α : Type}
theorem flat_cut {enc : α → List Value} {n : Nat} (hk : ∀ x, (enc x).length = n) (zs : List α) {r : Nat} (hr : r ≤ zs.length) : (zs.flatMap enc).take (r * n) = (zs.take r).flatMap enc ∧ (zs.flatMap enc).drop (r * n) = (zs.drop r).flatMap enc := by
  have h1 : zs.flatMap enc = (zs.take r).flatMap enc ++ (zs.drop r).flatMap enc := by rw [← List.flatMap_append, List.take_append_drop]
  have h2 : ((zs.take r).flatMap enc).length = r * n := by
    have h3 : ∀ l : List α, (l.flatMap enc).length = l.length * n := by
      intro l
      induction l with
      | nil => simp
      | cons a l ih => rw [List.flatMap_cons, List.length_append, hk, ih, List.length_cons, Nat.succ_mul, Nat.add_comm]
    rw [h3, List.length_take, Nat.min_eq_left hr]
  rw [h1]
  exact ⟨List.take_left' h2, List.drop_left' h2⟩

/-- A row of the call's own, cut at place r. -/
theorem own_take {w : World} {B n c r : Nat} {e : TypeId} {a : Option Addr} {enc : α → List Value} (hk : ∀ x, (enc x).length = n) {zs : List α} (h : w.ownsRow B e n (.slice a zs.length c) zs.length (zs.flatMap enc)) (hr : r ≤ zs.length) :
    w.ownsRow B e n (.slice a r c) (zs.take r).length ((zs.take r).flatMap enc) := by
  have hl : (zs.take r).length = r := by rw [List.length_take, Nat.min_eq_left hr]
  have hlen : ((zs.take r).flatMap enc).length = r * n := by
    rw [← (flat_cut hk zs hr).1, List.length_take, h.1, Nat.min_eq_left (Nat.mul_le_mul_right n hr)]
  rw [hl]
  refine ⟨hlen, ?_⟩
  rcases h.2 with ⟨e0, hx⟩ | ⟨g, cap, cur, e0, hB, hg, hle, hcm, hcs, ht⟩
  · simp only [Value.slice.injEq] at e0
    obtain ⟨rfl, _, rfl⟩ := e0
    obtain rfl : r = 0 := by omega
    exact .inl ⟨rfl, rfl⟩
  · simp only [Value.slice.injEq, true_and] at e0
    obtain ⟨rfl, rfl⟩ := e0
    refine .inr ⟨g, c, cur, rfl, hB, hg, Nat.le_trans hr hle, hcm, hcs, ?_⟩
    rw [← (flat_cut hk zs hr).1, ← ht, List.take_take, Nat.min_eq_left (Nat.mul_le_mul_right n hr)]

/-- What stands in a row behind place r. -/
theorem own_from {w : World} {B n c r g : Nat} {e : TypeId} {enc : α → List Value} (hk : ∀ x, (enc x).length = n) {zs : List α} (h : w.ownsRow B e n (.slice (some ⟨g, 0, none⟩) zs.length c) zs.length (zs.flatMap enc)) (hr : r ≤ zs.length) :
    ∀ j u, ((zs.drop r).flatMap enc)[j]? = some u → w.cell? ((⟨g, r * n, none⟩ : Addr).add j) = some u := by
  intro j u hj
  rw [← (flat_cut hk zs hr).2, List.getElem?_drop] at hj
  have hlt : r * n + j < zs.length * n := by
    have := (List.getElem?_eq_some_iff.1 hj).1
    rwa [h.1] at this
  rw [add_plain, h.cellAt (r * n + j) hlt, hj]
end

theorem own_form2 {w : World} {B n m c : Nat} {e : TypeId} {a : Option Addr} {xs : List Value} (h : w.ownsRow B e n (.slice a m c) m xs) : (a = none ∧ m = 0 ∧ c = 0) ∨ ∃ g, a = some ⟨g, 0, none⟩ ∧ m ≤ c ∧ c ≤ 9223372036854775807 ∧ B ≤ g ∧ g < w.heap.size := by
  rcases h.2 with ⟨e0, hx⟩ | ⟨g, cap, cur, e0, hB, hg, hle, hcm, _, _⟩
  · simp only [Value.slice.injEq] at e0
    exact .inl ⟨e0.1, e0.2.1, e0.2.2⟩
  · simp only [Value.slice.injEq, true_and] at e0
    obtain ⟨rfl, rfl⟩ := e0
    exact .inr ⟨g, rfl, hle, by unfold maxLen at hcm; exact hcm, hB, (Array.getElem?_eq_some_iff.1 hg).1⟩
theorem own_isCells {w : World} {B n m g : Nat} {e : TypeId} {v : Value} {xs : List Value} (h : w.ownsRow B e n v m xs) (hv : v.ownBlock = some g) : ∃ cur, w.heap[g]? = some (.cells cur e (0, 0)) := by
  rcases h.2 with ⟨rfl, _⟩ | ⟨g', cap, cur, rfl, _, hg, _⟩
  · cases hv
  · have e1 : g' = g := by simpa [Value.ownBlock] using hv
    subst e1
    exact ⟨cur, hg⟩
theorem len_le_stack {α : Type} (comb : ENode → List α → α) : ∀ N : List ENode, (stackOf comb N).length ≤ N.length
  | [] => Nat.le_refl _
  | n :: N => by
    have h := len_le_stack comb N
    show (stepS comb n (stackOf comb N)).length ≤ N.length + 1
    unfold stepS
    rw [List.length_append, List.length_take]
    show min _ _ + 1 ≤ _
    omega

section
variable {P : Program}
/-- An append to nothing: a row of new blocks. -/
theorem run_append_args (w : World) (t ty e : TypeId) (i : TypeInfo) (z : Value) (size bytes : Nat) (ht : P.underlying t = some (.slice e)) (hi : P.info? e = some i) (hz : i.zero = some z)
    (hsize : i.size = size) (hby : i.bytes = bytes) (hzs : z.cells.size = size) (hsz : 0 < size)
    (ad : Option Addr) (m c : Nat) (news : List Value) (hl : news.length = m * size) (hnil : ad = none → m = 0) (hnews : ∀ p, ad = some p → ∀ j u, news[j]? = some u → w.cell? (p.add j) = some u) (h1 : ∀ u ∈ news, u.oneCell' = true)
    (h63 : m ≤ maxLen) (hbytes : m * bytes ≤ 140737488355328) :
    ∃ a' c' w', (Builtin.append_ #[t, t] ty #[.slice none 0 0, .slice ad m c]).run P w = .ok (.slice a' m c') w' ∧ w'.ownsRow w.heap.size e size (.slice a' m c') m news ∧ Below w.heap.size w w' := by
  cases ad with
  | none =>
    obtain rfl := hnil rfl
    obtain rfl : news = [] := List.eq_nil_of_length_eq_zero (by simpa using hl)
    exact ⟨none, 0, w, by simp [Builtin.append_, run_underlying ht, sizeOf, typeInfo, hi, Builtin.lenOf, Builtin.firstCells], World.ownsRow_nil _ _ _ _, Below.refl _ _⟩
  | some p =>
    obtain ⟨v', w', hr, h2, h3, _⟩ := run_append_own (P := P) w w.heap.size t ty e i z size bytes ht hi hz hsize hby hzs hsz (.slice none 0 0) 0 [] (World.ownsRow_nil _ _ _ _) p m c news hl (hnews p rfl) h1 (by omega) (by rw [Nat.zero_add]; exact hbytes) (Nat.le_refl _)
    rw [Nat.zero_add, List.nil_append] at h2
    obtain ⟨a', c', rfl⟩ := own_slice h2
    exact ⟨a', c', w', hr, h2, ⟨h3.os, h3.tape, h3.output, h3.size, fun b hb => h3.block b hb (fun e => by cases e)⟩⟩

theorem wpListIn_append_run {F : Fence} {nF : Nat} {w : World} {ops : Array Oper} {rest : List Oper} {o : Oper} {a : Act} {Q : Exit → Act → World → Prop} (hgd : o.guard = none) (s x : Operand) (t : TypeId)
    (ho : o.op = .call { callee := .builtin .append, args := #[s, x], argTypes := #[t, t] }) (v u v' : Value) (w' : World) (hs : a.eval s = v) (hx : a.eval x = u)
    (hr : (Builtin.append_ #[t, t] o.type #[v, u]).run P w = .ok v' w') (h : wpListIn F nF P ops Q rest (a.put o.dst v') w') : wpListIn F nF P ops Q (o :: rest) a w := by
  refine wpListIn_plain hgd fun K hK => ?_
  unfold Oper.wpIn
  refine ⟨by simp [Oper.about, ho, resolve, Target.leads, Sem.run_pure], ?_⟩
  rw [Oper.semAt_plain F _ _ (by rw [ho]; intro c hc'; cases hc')]
  simp [execOp, ho, resolve, invoke, builtin, hs, hx, hr, Result.andThen]
  exact hK _ _ h

theorem run_sliceAt_from (w : World) (t e : TypeId) (i : TypeInfo) (size : Nat) (ht : P.underlying t = some (.slice e)) (hi : P.info? e = some i) (hsize : i.size = size) (a : Option Addr) (len cap r : Nat) (hr : r ≤ len) :
    (Instr.sliceAt t (.slice a len cap) (some (.int .i64 (r : Int))) none none).run P w = .ok (.slice (if cap = r then a else a.map (·.add (r * size))) (len - r) (cap - r)) w := by
  have h0 : (0 : Int) ≤ (r : Int) := by omega
  have h1 : (r : Int) ≤ (len : Int) := by omega
  simp [Instr.sliceAt, Instr.slice, Instr.sliceBounds, run_underlying ht, run_sliceBound, h0, h1, sizeOf, typeInfo, hi, hsize]

/-- 's[r:]' in a round. -/
theorem wpListIn_slice_from {F : Fence} {nF : Nat} {w : World} {ops : Array Oper} {rest : List Oper} {o : Oper} {a : Act} {Q : Exit → Act → World → Prop} (hgd : o.guard = none) (x y : Operand) (t e : TypeId)
    (ho : o.op = .slice t x (some y) none none) (i : TypeInfo) (size : Nat) (ht : P.underlying t = some (.slice e)) (hi : P.info? e = some i) (hsize : i.size = size) (ad : Option Addr) (len cap r : Nat) (z : Int) (hz : z = (r : Int)) (hr : r ≤ len) (ad' : Option Addr) (had : (if cap = r then ad else ad.map (·.add (r * size))) = ad')
    (hx : a.eval x = .slice ad len cap) (hy : a.eval y = .int .i64 z) (h : wpListIn F nF P ops Q rest (a.put o.dst (.slice ad' (len - r) (cap - r))) w) : wpListIn F nF P ops Q (o :: rest) a w := by
  subst hz
  refine wpListIn_plain hgd fun K hK => ?_
  unfold Oper.wpIn
  refine ⟨by simp [Oper.about, ho], ?_⟩
  rw [Oper.semAt_plain F _ _ (by rw [ho]; intro c hc'; cases hc')]
  simp [execOp, ho, hx, hy, run_sliceAt_from w t e i size ht hi hsize ad len cap r hr, Result.andThen, had]
  exact hK _ _ h

theorem wpListIn_append_at {F : Fence} {nF : Nat} {w : World} {ops : Array Oper} {rest : List Oper} {o : Oper} {a : Act} {Q : Exit → Act → World → Prop} (hgd : o.guard = none) (s x : Operand) (t : TypeId)
    (ho : o.op = .call { callee := .builtin .append, args := #[s, x], argTypes := #[t, t] })
    (base : Nat) (e : TypeId) (i : TypeInfo) (z : Value) (size bytes : Nat) (ht : P.underlying t = some (.slice e)) (hi : P.info? e = some i) (hz : i.zero = some z)
    (hsize : i.size = size) (hby : i.bytes = bytes) (hzs : z.cells.size = size) (hsz : 0 < size)
    (v : Value) (n : Nat) (xs : List Value) (hs : a.eval s = v) (hown : w.ownsRow base e size v n xs)
    (ad : Addr) (m c : Nat) (news : List Value) (hx : a.eval x = .slice (some ad) m c) (hl : news.length = m * size) (hnews : ∀ j u, news[j]? = some u → w.cell? (ad.add j) = some u) (h1 : ∀ u ∈ news, u.oneCell' = true)
    (h63 : n + m ≤ maxLen) (hbytes : (n + m) * bytes ≤ 140737488355328) (hbase : base ≤ w.heap.size)
    (h : ∀ v' w', w'.ownsRow base e size v' (n + m) (xs ++ news) → w.grownBy w' v.ownBlock → (v'.ownBlock = v.ownBlock ∨ v'.ownBlock = some w.heap.size) → wpListIn F nF P ops Q rest (a.put o.dst v') w') : wpListIn F nF P ops Q (o :: rest) a w := by
  obtain ⟨v', w', hr, h2, h3, h4⟩ := run_append_at (P := P) base t o.type e i z size bytes ht hi hz hsize hby hzs hsz v n xs hown ad m c news hl hnews h1 h63 hbytes hbase
  exact wpListIn_append_run hgd s x t ho v _ v' w' hs hx hr (h v' w' h2 h3 h4)
end
end Go.Proofs.Ytoockfmkcjomhaa
