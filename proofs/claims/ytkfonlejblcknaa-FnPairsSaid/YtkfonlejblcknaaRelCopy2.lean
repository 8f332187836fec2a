/-
  The model's copy of a relation.
-/
import Derived.Test.YtkfonlejblcknaaRelCopy
import Derived.Deep.RegionLaw
import Derived.Deep.AppendLies
import Derived.Laws.AppendOwnNone
namespace Go.Proofs.Ytkfonlejblcknaa
open Go.ChangeShapes Go.WideShapes Go.ChangeAt Go.RowKit Go.Deep

theorem step_append_own {P : Program} (w : World) {ops : Array Oper} {o : Oper} {a : Act} {K : Act → World → Prop} {Q : Exit → Act → World → Prop} {E : Prop} (hgd : o.guard = none) (s x : Operand) (t : TypeId)
    (ho : o.op = .call { callee := .builtin .append, args := #[s, x], argTypes := #[t, t] })
    (base : Nat) (e : TypeId) (i : TypeInfo) (z : Value) (size bytes : Nat) (ht : P.underlying t = some (.slice e)) (hi : P.info? e = some i) (hz : i.zero = some z)
    (hsize : i.size = size) (hby : i.bytes = bytes) (hzs : z.cells.size = size) (hsz : 0 < size)
    (v : Value) (n : Nat) (xs : List Value) (hs : a.eval s = v) (hown : w.ownsRow base e size v n xs)
    (ad : Addr) (m c : Nat) (news : List Value) (hx : a.eval x = .slice (some ad) m c) (hl : news.length = m * size) (hnews : ∀ j u, news[j]? = some u → w.cell? (ad.add j) = some u) (h1 : ∀ u ∈ news, u.oneCell' = true)
    (h63 : n + m ≤ maxLen) (hbytes : (n + m) * bytes ≤ 140737488355328) (hbase : base ≤ w.heap.size)
    (h : ∀ v' w', w'.ownsRow base e size v' (n + m) (xs ++ news) → w.grownBy w' v.ownBlock → (v' = .slice none 0 0 ↔ v = .slice none 0 0 ∧ m = 0) → K (a.put o.dst v') w') :
    if Region.wanted o (yielded ops a.tmps) = true then Oper.wp P o a w K Q else E := by
  have hw : Region.wanted o (yielded ops a.tmps) = true := by simp [Region.wanted, hgd]
  rw [if_pos hw]
  exact wp_append_own w s x t ho base e i z size bytes ht hi hz hsize hby hzs hsz v n xs hs hown ad m c news hx hl hnews h1 h63 hbytes hbase h
/-- An append of nil leaves the slice and the world. -/
theorem step_append_none {P : Program} (w : World) {ops : Array Oper} {o : Oper} {a : Act} {K : Act → World → Prop} {Q : Exit → Act → World → Prop} {E : Prop} (hgd : o.guard = none) (s x : Operand) (t : TypeId)
    (ho : o.op = .call { callee := .builtin .append, args := #[s, x], argTypes := #[t, t] })
    (base : Nat) (e : TypeId) (i : TypeInfo) (size : Nat) (ht : P.underlying t = some (.slice e)) (hi : P.info? e = some i)
    (v : Value) (n : Nat) (xs : List Value) (hs : a.eval s = v) (hown : w.ownsRow base e size v n xs) (c : Nat) (hx : a.eval x = .slice none 0 c) (h : K (a.put o.dst v) w) :
    if Region.wanted o (yielded ops a.tmps) = true then Oper.wp P o a w K Q else E := by
  have hw : Region.wanted o (yielded ops a.tmps) = true := by simp [Region.wanted, hgd]
  rw [if_pos hw]
  have hrun : (Builtin.append_ #[t, t] o.type #[v, .slice none 0 c]).run P w = .ok v w := by
    rcases hown.2 with ⟨rfl, rfl⟩ | ⟨g, cap, cur, rfl, _, _, hnc, _⟩
    · simp [Builtin.append_, run_underlying ht, sizeOf, typeInfo, hi, Builtin.lenOf, Builtin.firstCells]
    · simp [Builtin.append_, run_underlying ht, sizeOf, typeInfo, hi, Builtin.lenOf, Builtin.firstCells, hnc, storeCells]
  unfold Oper.wp
  simp [execOp, ho, resolve, invoke, builtin, hs, hx, hrun, Result.andThen]
  exact h

theorem grown_below {B : Nat} {w w' : World} {row : Option Nat} (h : w.grownBy w' row) (hB : B ≤ w.heap.size) (hr : ∀ k, row = some k → B ≤ k) : Below B w w' :=
  ⟨h.os, h.tape, h.output, h.size, fun k hk => h.block k (by omega) (fun e => by have := hr k e.symm; omega)⟩

theorem some_cells {lo hi : Nat} {w W : World} {l : List Int} {p : Addr} (hs : Sl lo hi w 1 l.length (rowsI l) (some p)) (hhi : hi ≤ w.heap.size) (hW : Below w.heap.size w W) {j : Nat} {u : Value} (hu : (l.map (Value.int .i64))[j]? = some u) : W.cell? (p.add j) = some u := by
  have hj : j < l.length := by have := (List.getElem?_eq_some_iff.1 hu).1; simpa using this
  obtain ⟨b, off, hb, _, hbh, _⟩ := hs.at j hj
  obtain rfl : p = ⟨b, off, none⟩ := Option.some.inj hb
  have hc := cells_of_sl hs j hj
  rw [WideShapes.add_plain, hW.cell (p := ⟨b, off + j, none⟩) (by show b < _; omega), hc]
  rw [List.getElem?_map, List.getElem?_eq_getElem hj] at hu
  rw [← hu, List.getD_eq_getElem?_getD, List.getElem?_eq_getElem hj]
  rfl

set_option maxHeartbeats 1600000 in
set_option maxRecDepth 100000 in
theorem spec_l22Copy {lo hi c0 : Nat} {p : Addr} (r : DRelation) (hl : r.fRows.length ≤ 1048576) (w : World) (hhi : hi ≤ w.heap.size) (hs : Sl lo hi w 1 r.fRows.length (rowsI r.fRows) (some p)) :
    Calls Try.prog 38 #[.agg #[.int .i64 r.fN, .slice (some p) r.fRows.length c0]] w (RelOut r w) := by
  obtain ⟨i0, hi', hz0, hz1, hz2⟩ := info_parts info_Int
  have HB := Lib.hid (((Below.refl w.heap.size w).alloc (Nat.le_refl _) (.cells #[.int .i64 r.fN, .slice (some p) r.fRows.length c0] 27)).alloc (by simp) (.cells #[.int .i64 0, .slice none 0 0] 27))
  have HG := Lib.hid (show ((w.alloc (.cells #[.int .i64 r.fN, .slice (some p) r.fRows.length c0] 27)).alloc (.cells #[.int .i64 0, .slice none 0 0] 27)).heap[w.heap.size + 1]? = some (.cells #[.int .i64 0, .slice none 0 0] 27) from blk_new (by simp))
  have HC0 := Lib.hid (show ((w.alloc (.cells #[.int .i64 r.fN, .slice (some p) r.fRows.length c0] 27)).alloc (.cells #[.int .i64 0, .slice none 0 0] 27)).cell? ⟨w.heap.size, 0, none⟩ = some (.int .i64 r.fN) by go_simp)
  have HC1 := Lib.hid (show ((w.alloc (.cells #[.int .i64 r.fN, .slice (some p) r.fRows.length c0] 27)).alloc (.cells #[.int .i64 0, .slice none 0 0] 27)).cell? ⟨w.heap.size + 1, 0, none⟩ = some (.int .i64 0) by go_simp)
  have HC2 := Lib.hid (show ((w.alloc (.cells #[.int .i64 r.fN, .slice (some p) r.fRows.length c0] 27)).alloc (.cells #[.int .i64 0, .slice none 0 0] 27)).cell? ⟨w.heap.size + 1, 1, none⟩ = some (.slice none 0 0) by go_simp)
  have HF1 := Lib.hid (show ((w.alloc (.cells #[.int .i64 r.fN, .slice (some p) r.fRows.length c0] 27)).alloc (.cells #[.int .i64 0, .slice none 0 0] 27)).frozen? ⟨w.heap.size + 1, 0, none⟩ = false by go_simp)
  have HF2 := Lib.hid (show ((w.alloc (.cells #[.int .i64 r.fN, .slice (some p) r.fRows.length c0] 27)).alloc (.cells #[.int .i64 0, .slice none 0 0] 27)).frozen? ⟨w.heap.size + 1, 1, none⟩ = false by go_simp)
  have hnews := Lib.hid (fun (W : World) (hW : Below w.heap.size w W) (j : Nat) (u : Value) (hu : (r.fRows.map (Value.int .i64))[j]? = some u) => some_cells hs hhi hW hu)
  have HLN := Lib.hid (show (r.fRows.map (Value.int .i64)).length = r.fRows.length * 1 by simp)
  have HON := Lib.hid (show ∀ u ∈ r.fRows.map (Value.int .i64), u.oneCell' = true from fun u hu => by obtain ⟨z, _, rfl⟩ := List.mem_map.1 hu; rfl)
  clear hs
  go_enter Try.func38, Try.ntmps38
  go_wp2_with fail
  go_region_law ((refine step_append_own _ rfl (.tmp 5) (.tmp 7) 22 rfl (w.heap.size + 2) 3 i0 (.int .i64 0) 1 8 Try.underlying22 hi' hz0 hz1 hz2 rfl (by decide) _ 0 [] (by simp [Act.eval]) (World.ownsRow_made _ #[] 0 (by simp) (Nat.zero_le _) rfl) p r.fRows.length c0 (r.fRows.map (Value.int .i64)) (by simp [Act.eval]) HLN.out (hnews.out _ (by repeat (first | (with_reducible exact HB.out) | (with_reducible apply Below.drew) | (with_reducible refine below_drewN ?_ _) | (refine Below.alloc ?_ (by simp <;> omega) _)))) HON.out (by unfold maxLen; omega) (by omega) (by simp) ?_; intro v1 w1 hown1 hgrow1 hnil1; rw [Nat.zero_add, List.nil_append] at hown1; have hst : Below (w.heap.size + 2) ((w.alloc (.cells #[.int .i64 r.fN, .slice (some p) r.fRows.length c0] 27)).alloc (.cells #[.int .i64 0, .slice none 0 0] 27)) w1 := Below.trans (by repeat (first | (with_reducible exact Below.refl _ _) | (with_reducible apply Below.drew) | (with_reducible refine below_drewN ?_ _) | (refine Below.alloc ?_ (by simp <;> omega) _))) (grown_below hgrow1 (by simp) (fun k hk => by simp [Value.ownBlock] at hk; omega)); skip; have x0 := (hst.cell (p := ⟨w.heap.size, 0, none⟩) (by show w.heap.size < w.heap.size + 2; omega)).trans HC0.out; have x1 := (hst.cell (p := ⟨w.heap.size + 1, 0, none⟩) (by show w.heap.size + 1 < w.heap.size + 2; omega)).trans HC1.out; have x2 := (hst.cell (p := ⟨w.heap.size + 1, 1, none⟩) (by show w.heap.size + 1 < w.heap.size + 2; omega)).trans HC2.out; have z1 := (hst.frozen (p := ⟨w.heap.size + 1, 0, none⟩) (by show w.heap.size + 1 < w.heap.size + 2; omega)).trans HF1.out; have z2 := (hst.frozen (p := ⟨w.heap.size + 1, 1, none⟩) (by show w.heap.size + 1 < w.heap.size + 2; omega)).trans HF2.out; have HG1 := Lib.hid ((hst.block (w.heap.size + 1) (by omega)).trans HG.out); have HB1 := Lib.hid (HB.out.trans (hst.mono (by omega))); have hor := own_of_row hown1; obtain ⟨a1, c1, rfl, ho1⟩ := hor; have HO := Lib.hid ho1; clear hown1 hgrow1 hnil1 hst ho1))
  all_goals
    go_wp2
    refine bodyPost_ret (v := .agg #[.int .i64 r.fN, .slice a1 r.fRows.length c1]) (results_cell_row Try.results38 _ _ (w.heap.size + 1) 27 #[.int .i64 r.fN, .slice a1 r.fRows.length c1] (0, 0) _ rfl (by refine Eq.trans (blk_set (cs := #[.int .i64 r.fN, .slice none 0 0]) (t := 27) (fr := (0, 0)) ?_) rfl; refine Eq.trans (blk_set (cs := #[.int .i64 0, .slice none 0 0]) (t := 27) (fr := (0, 0)) ?_) rfl; exact HG1.out) Try.underlying27 rfl rfl) rfl ⟨a1, c1, rfl, ?_, ?_⟩
    · refine Own.sub (F := fun y => w.heap.size + 2 ≤ y ∧ y < w1.heap.size) (HO.out.kept ?_) (fun y hy => ⟨Nat.le_trans (by omega) hy.1, Nat.lt_of_lt_of_le hy.2 (by simp)⟩)
      repeat (first | (with_reducible exact Kept.refl) | (refine Kept.put ?_ (by intro h; have h1 := h.1; dsimp only at h1; omega)))
    · repeat (first | (with_reducible exact HB1.out) | (with_reducible apply Below.drew) | (with_reducible refine below_drewN ?_ _) | (refine Below.setCell ?_ (by simp <;> omega) _))

set_option maxHeartbeats 1600000 in
set_option maxRecDepth 100000 in
theorem spec_l22Copy_none {c0 : Nat} (N : Int) (w : World) :
    Calls Try.prog 38 #[.agg #[.int .i64 N, .slice none 0 c0]] w (RelOut ⟨N, []⟩ w) := by
  obtain ⟨i0, hi', hz0, hz1, hz2⟩ := info_parts info_Int
  have HB := Lib.hid (((Below.refl w.heap.size w).alloc (Nat.le_refl _) (.cells #[.int .i64 N, .slice none 0 c0] 27)).alloc (by simp) (.cells #[.int .i64 0, .slice none 0 0] 27))
  have HG := Lib.hid (show ((w.alloc (.cells #[.int .i64 N, .slice none 0 c0] 27)).alloc (.cells #[.int .i64 0, .slice none 0 0] 27)).heap[w.heap.size + 1]? = some (.cells #[.int .i64 0, .slice none 0 0] 27) from blk_new (by simp))
  have HC0 := Lib.hid (show ((w.alloc (.cells #[.int .i64 N, .slice none 0 c0] 27)).alloc (.cells #[.int .i64 0, .slice none 0 0] 27)).cell? ⟨w.heap.size, 0, none⟩ = some (.int .i64 N) by go_simp)
  have HC1 := Lib.hid (show ((w.alloc (.cells #[.int .i64 N, .slice none 0 c0] 27)).alloc (.cells #[.int .i64 0, .slice none 0 0] 27)).cell? ⟨w.heap.size + 1, 0, none⟩ = some (.int .i64 0) by go_simp)
  have HC2 := Lib.hid (show ((w.alloc (.cells #[.int .i64 N, .slice none 0 c0] 27)).alloc (.cells #[.int .i64 0, .slice none 0 0] 27)).cell? ⟨w.heap.size + 1, 1, none⟩ = some (.slice none 0 0) by go_simp)
  have HF1 := Lib.hid (show ((w.alloc (.cells #[.int .i64 N, .slice none 0 c0] 27)).alloc (.cells #[.int .i64 0, .slice none 0 0] 27)).frozen? ⟨w.heap.size + 1, 0, none⟩ = false by go_simp)
  have HF2 := Lib.hid (show ((w.alloc (.cells #[.int .i64 N, .slice none 0 c0] 27)).alloc (.cells #[.int .i64 0, .slice none 0 0] 27)).frozen? ⟨w.heap.size + 1, 1, none⟩ = false by go_simp)
  go_enter Try.func38, Try.ntmps38
  go_wp2_with fail
  go_region_law ((refine step_append_none _ rfl (.tmp 5) (.tmp 7) 22 rfl (w.heap.size + 2) 3 i0 1 Try.underlying22 hi' _ 0 [] (by simp [Act.eval]) (World.ownsRow_made _ #[] 0 (by simp) (Nat.zero_le _) rfl) c0 (by simp [Act.eval]) ?_))
  all_goals
    go_wp2
    refine bodyPost_ret (v := .agg #[.int .i64 N, .slice (some ⟨w.heap.size + 2, 0, none⟩) 0 0]) (by simp [results, Try.results38, go_sem]) rfl ⟨some ⟨w.heap.size + 2, 0, none⟩, 0, rfl, .nil _ _ _ _ _, ?_⟩
    repeat (first | (with_reducible exact HB.out) | (with_reducible apply Below.drew) | (with_reducible refine below_drewN ?_ _) | (refine Below.setCell ?_ (by simp <;> omega) _) | (refine Below.alloc ?_ (by simp <;> omega) _) | (with_reducible exact Below.refl _ _))

theorem spec_copy {lo hi c0 : Nat} {a0 : Option Addr} (r : DRelation) (hl : r.fRows.length ≤ 1048576) (w : World) (hhi : hi ≤ w.heap.size) (hs : Sl lo hi w 1 r.fRows.length (rowsI r.fRows) a0) :
    Calls Try.prog 38 #[.agg #[.int .i64 r.fN, .slice a0 r.fRows.length c0]] w (RelOut r w) := by
  cases a0 with
  | some p => exact spec_l22Copy r hl w hhi hs
  | none =>
    obtain ⟨N, l⟩ := r
    have h0 : l = [] := by
      rcases Nat.eq_zero_or_pos l.length with h | h
      · exact List.length_eq_zero_iff.1 h
      · obtain ⟨b, off, hb, _⟩ := hs.at 0 h
        cases hb
    subst h0
    exact spec_l22Copy_none N w
end Go.Proofs.Ytkfonlejblcknaa
