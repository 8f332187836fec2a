/-
  The model's copy of a relation.
  AddPair in the model and in the program.
-/
import Derived.Test.YtnmepemmpeboeaaGreatZRelCopy
import Derived.Deep.RegionLaw
import Derived.Deep.AppendLies
import Derived.Laws.AppendOwnNone
import Derived.Test.YtnmepemmpeboeaaGreatZz13
namespace Go.Proofs.YtnmepemmpeboeaaGreat
open Go.ChangeShapes Go.WideShapes Go.ChangeAt Go.RowKit Go.Deep

theorem step_append_own {P : Program} (w : World) {ops : Array Oper} {o : Oper} {a : Act} {K : Act → World → Prop} {Q : Exit → Act → World → Prop} {E : Prop} (hgd : o.guard = none) (s x : Operand) (t : TypeId)
    (ho : o.op = .call { callee := .builtin .append, args := #[s, x], argTypes := #[t, t] })
    (base : Nat) (e : TypeId) (i : TypeInfo) (z : Value) (size bytes : Nat) (ht : P.underlying t = some (.slice e)) (hi : P.info? e = some i) (hz : i.zero = some z)
    (hsize : i.size = size) (hby : i.bytes = bytes) (hzs : z.cells.size = size) (hsz : 0 < size)
    (v : Value) (n : Nat) (xs : List Value) (hs : a.eval s = v) (hown : w.ownsRow base e size v n xs)
    (ad : Addr) (m c : Nat) (news : List Value) (hx : a.eval x = .slice (some ad) m c) (hl : news.length = m * size) (hnews : ∀ j u, news[j]? = some u → w.cell? (ad.add j) = some u) (h1 : ∀ u ∈ news, u.oneCell' = true)
    (h63 : n + m ≤ maxLen) (hbytes : (n + m) * bytes ≤ 140737488355328) (hbase : base ≤ w.heap.size)
    (h : ∀ v' w', w'.ownsRow base e size v' (n + m) (xs ++ news) → w.grownBy w' v.ownBlock → (v' = .slice none 0 0 ↔ v = .slice none 0 0 ∧ m = 0) → K (a.put o.dst v') w') :
    if Region.wanted o (yielded ops a.tmps) = true then Oper.wp P o a w K Q else E := by
  have hw : Region.wanted o (yielded ops a.tmps) = true := by simp [Region.wanted, hgd]
  rw [if_pos hw]
  exact wp_append_own w s x t ho base e i z size bytes ht hi hz hsize hby hzs hsz v n xs hs hown ad m c news hx hl hnews h1 h63 hbytes hbase h
/-- An append of nil leaves the slice and the world. -/
theorem step_append_none {P : Program} (w : World) {ops : Array Oper} {o : Oper} {a : Act} {K : Act → World → Prop} {Q : Exit → Act → World → Prop} {E : Prop} (hgd : o.guard = none) (s x : Operand) (t : TypeId)
    (ho : o.op = .call { callee := .builtin .append, args := #[s, x], argTypes := #[t, t] })
    (base : Nat) (e : TypeId) (i : TypeInfo) (size : Nat) (ht : P.underlying t = some (.slice e)) (hi : P.info? e = some i)
    (v : Value) (n : Nat) (xs : List Value) (hs : a.eval s = v) (hown : w.ownsRow base e size v n xs) (c : Nat) (hx : a.eval x = .slice none 0 c) (h : K (a.put o.dst v) w) :
    if Region.wanted o (yielded ops a.tmps) = true then Oper.wp P o a w K Q else E := by
  have hw : Region.wanted o (yielded ops a.tmps) = true := by simp [Region.wanted, hgd]
  rw [if_pos hw]
  have hrun : (Builtin.append_ #[t, t] o.type #[v, .slice none 0 c]).run P w = .ok v w := by
    rcases hown.2 with ⟨rfl, rfl⟩ | ⟨g, cap, cur, rfl, _, _, hnc, _⟩
    · simp [Builtin.append_, run_underlying ht, sizeOf, typeInfo, hi, Builtin.lenOf, Builtin.firstCells]
    · simp [Builtin.append_, run_underlying ht, sizeOf, typeInfo, hi, Builtin.lenOf, Builtin.firstCells, hnc, storeCells]
  unfold Oper.wp
  simp [execOp, ho, resolve, invoke, builtin, hs, hx, hrun, Result.andThen]
  exact h

theorem grown_below {B : Nat} {w w' : World} {row : Option Nat} (h : w.grownBy w' row) (hB : B ≤ w.heap.size) (hr : ∀ k, row = some k → B ≤ k) : Below B w w' :=
  ⟨h.os, h.tape, h.output, h.size, fun k hk => h.block k (by omega) (fun e => by have := hr k e.symm; omega)⟩

theorem some_cells {lo hi : Nat} {w W : World} {l : List Int} {p : Addr} (hs : Sl lo hi w 1 l.length (rowsI l) (some p)) (hhi : hi ≤ w.heap.size) (hW : Below w.heap.size w W) {j : Nat} {u : Value} (hu : (l.map (Value.int .i64))[j]? = some u) : W.cell? (p.add j) = some u := by
  have hj : j < l.length := by have := (List.getElem?_eq_some_iff.1 hu).1; simpa using this
  obtain ⟨b, off, hb, _, hbh, _⟩ := hs.at j hj
  obtain rfl : p = ⟨b, off, none⟩ := Option.some.inj hb
  have hc := cells_of_sl hs j hj
  rw [WideShapes.add_plain, hW.cell (p := ⟨b, off + j, none⟩) (by show b < _; omega), hc]
  rw [List.getElem?_map, List.getElem?_eq_getElem hj] at hu
  rw [← hu, List.getD_eq_getElem?_getD, List.getElem?_eq_getElem hj]
  rfl

set_option maxHeartbeats 1600000 in
set_option maxRecDepth 100000 in
theorem spec_l22Copy {lo hi c0 : Nat} {p : Addr} (r : DRelation) (hl : r.fRows.length ≤ 1048576) (w : World) (hhi : hi ≤ w.heap.size) (hs : Sl lo hi w 1 r.fRows.length (rowsI r.fRows) (some p)) :
    Calls Tryz.prog 60 #[.agg #[.int .i64 r.fN, .slice (some p) r.fRows.length c0]] w (RelOut r w) := by
  obtain ⟨i0, hi', hz0, hz1, hz2⟩ := info_parts info_Int
  have HB := Lib.hid (((Below.refl w.heap.size w).alloc (Nat.le_refl _) (.cells #[.int .i64 r.fN, .slice (some p) r.fRows.length c0] 35)).alloc (by simp) (.cells #[.int .i64 0, .slice none 0 0] 35))
  have HG := Lib.hid (show ((w.alloc (.cells #[.int .i64 r.fN, .slice (some p) r.fRows.length c0] 35)).alloc (.cells #[.int .i64 0, .slice none 0 0] 35)).heap[w.heap.size + 1]? = some (.cells #[.int .i64 0, .slice none 0 0] 35) from blk_new (by simp))
  have HC0 := Lib.hid (show ((w.alloc (.cells #[.int .i64 r.fN, .slice (some p) r.fRows.length c0] 35)).alloc (.cells #[.int .i64 0, .slice none 0 0] 35)).cell? ⟨w.heap.size, 0, none⟩ = some (.int .i64 r.fN) by go_simp)
  have HC1 := Lib.hid (show ((w.alloc (.cells #[.int .i64 r.fN, .slice (some p) r.fRows.length c0] 35)).alloc (.cells #[.int .i64 0, .slice none 0 0] 35)).cell? ⟨w.heap.size + 1, 0, none⟩ = some (.int .i64 0) by go_simp)
  have HC2 := Lib.hid (show ((w.alloc (.cells #[.int .i64 r.fN, .slice (some p) r.fRows.length c0] 35)).alloc (.cells #[.int .i64 0, .slice none 0 0] 35)).cell? ⟨w.heap.size + 1, 1, none⟩ = some (.slice none 0 0) by go_simp)
  have HF1 := Lib.hid (show ((w.alloc (.cells #[.int .i64 r.fN, .slice (some p) r.fRows.length c0] 35)).alloc (.cells #[.int .i64 0, .slice none 0 0] 35)).frozen? ⟨w.heap.size + 1, 0, none⟩ = false by go_simp)
  have HF2 := Lib.hid (show ((w.alloc (.cells #[.int .i64 r.fN, .slice (some p) r.fRows.length c0] 35)).alloc (.cells #[.int .i64 0, .slice none 0 0] 35)).frozen? ⟨w.heap.size + 1, 1, none⟩ = false by go_simp)
  have hnews := Lib.hid (fun (W : World) (hW : Below w.heap.size w W) (j : Nat) (u : Value) (hu : (r.fRows.map (Value.int .i64))[j]? = some u) => some_cells hs hhi hW hu)
  have HLN := Lib.hid (show (r.fRows.map (Value.int .i64)).length = r.fRows.length * 1 by simp)
  have HON := Lib.hid (show ∀ u ∈ r.fRows.map (Value.int .i64), u.oneCell' = true from fun u hu => by obtain ⟨z, _, rfl⟩ := List.mem_map.1 hu; rfl)
  clear hs
  go_enter Tryz.func60, Tryz.ntmps60
  go_wp2_with fail
  go_region_law ((refine step_append_own _ rfl (.tmp 5) (.tmp 7) 33 rfl (w.heap.size + 2) 3 i0 (.int .i64 0) 1 8 Tryz.underlying33 hi' hz0 hz1 hz2 rfl (by decide) _ 0 [] (by simp [Act.eval]) (World.ownsRow_made _ #[] 0 (by simp) (Nat.zero_le _) rfl) p r.fRows.length c0 (r.fRows.map (Value.int .i64)) (by simp [Act.eval]) HLN.out (hnews.out _ (by repeat (first | (with_reducible exact HB.out) | (with_reducible apply Below.drew) | (with_reducible refine below_drewN ?_ _) | (refine Below.alloc ?_ (by simp <;> omega) _)))) HON.out (by unfold maxLen; omega) (by omega) (by simp) ?_; intro v1 w1 hown1 hgrow1 hnil1; rw [Nat.zero_add, List.nil_append] at hown1; have hst : Below (w.heap.size + 2) ((w.alloc (.cells #[.int .i64 r.fN, .slice (some p) r.fRows.length c0] 35)).alloc (.cells #[.int .i64 0, .slice none 0 0] 35)) w1 := Below.trans (by repeat (first | (with_reducible exact Below.refl _ _) | (with_reducible apply Below.drew) | (with_reducible refine below_drewN ?_ _) | (refine Below.alloc ?_ (by simp <;> omega) _))) (grown_below hgrow1 (by simp) (fun k hk => by simp [Value.ownBlock] at hk; omega)); skip; have x0 := (hst.cell (p := ⟨w.heap.size, 0, none⟩) (by show w.heap.size < w.heap.size + 2; omega)).trans HC0.out; have x1 := (hst.cell (p := ⟨w.heap.size + 1, 0, none⟩) (by show w.heap.size + 1 < w.heap.size + 2; omega)).trans HC1.out; have x2 := (hst.cell (p := ⟨w.heap.size + 1, 1, none⟩) (by show w.heap.size + 1 < w.heap.size + 2; omega)).trans HC2.out; have z1 := (hst.frozen (p := ⟨w.heap.size + 1, 0, none⟩) (by show w.heap.size + 1 < w.heap.size + 2; omega)).trans HF1.out; have z2 := (hst.frozen (p := ⟨w.heap.size + 1, 1, none⟩) (by show w.heap.size + 1 < w.heap.size + 2; omega)).trans HF2.out; have HG1 := Lib.hid ((hst.block (w.heap.size + 1) (by omega)).trans HG.out); have HB1 := Lib.hid (HB.out.trans (hst.mono (by omega))); have hor := own_of_row hown1; obtain ⟨a1, c1, rfl, ho1⟩ := hor; have HO := Lib.hid ho1; clear hown1 hgrow1 hnil1 hst ho1))
  all_goals
    go_wp2
    refine bodyPost_ret (v := .agg #[.int .i64 r.fN, .slice a1 r.fRows.length c1]) (results_cell_row Tryz.results60 _ _ (w.heap.size + 1) 35 #[.int .i64 r.fN, .slice a1 r.fRows.length c1] (0, 0) _ rfl (by refine Eq.trans (blk_set (cs := #[.int .i64 r.fN, .slice none 0 0]) (t := 35) (fr := (0, 0)) ?_) rfl; refine Eq.trans (blk_set (cs := #[.int .i64 0, .slice none 0 0]) (t := 35) (fr := (0, 0)) ?_) rfl; exact HG1.out) Tryz.underlying35 rfl rfl) rfl ⟨a1, c1, rfl, ?_, ?_⟩
    · refine Own.sub (F := fun y => w.heap.size + 2 ≤ y ∧ y < w1.heap.size) (HO.out.kept ?_) (fun y hy => ⟨Nat.le_trans (by omega) hy.1, Nat.lt_of_lt_of_le hy.2 (by simp)⟩)
      repeat (first | (with_reducible exact Kept.refl) | (refine Kept.put ?_ (by intro h; have h1 := h.1; dsimp only at h1; omega)))
    · repeat (first | (with_reducible exact HB1.out) | (with_reducible apply Below.drew) | (with_reducible refine below_drewN ?_ _) | (refine Below.setCell ?_ (by simp <;> omega) _))

set_option maxHeartbeats 1600000 in
set_option maxRecDepth 100000 in
theorem spec_l22Copy_none {c0 : Nat} (N : Int) (w : World) :
    Calls Tryz.prog 60 #[.agg #[.int .i64 N, .slice none 0 c0]] w (RelOut ⟨N, []⟩ w) := by
  obtain ⟨i0, hi', hz0, hz1, hz2⟩ := info_parts info_Int
  have HB := Lib.hid (((Below.refl w.heap.size w).alloc (Nat.le_refl _) (.cells #[.int .i64 N, .slice none 0 c0] 35)).alloc (by simp) (.cells #[.int .i64 0, .slice none 0 0] 35))
  have HG := Lib.hid (show ((w.alloc (.cells #[.int .i64 N, .slice none 0 c0] 35)).alloc (.cells #[.int .i64 0, .slice none 0 0] 35)).heap[w.heap.size + 1]? = some (.cells #[.int .i64 0, .slice none 0 0] 35) from blk_new (by simp))
  have HC0 := Lib.hid (show ((w.alloc (.cells #[.int .i64 N, .slice none 0 c0] 35)).alloc (.cells #[.int .i64 0, .slice none 0 0] 35)).cell? ⟨w.heap.size, 0, none⟩ = some (.int .i64 N) by go_simp)
  have HC1 := Lib.hid (show ((w.alloc (.cells #[.int .i64 N, .slice none 0 c0] 35)).alloc (.cells #[.int .i64 0, .slice none 0 0] 35)).cell? ⟨w.heap.size + 1, 0, none⟩ = some (.int .i64 0) by go_simp)
  have HC2 := Lib.hid (show ((w.alloc (.cells #[.int .i64 N, .slice none 0 c0] 35)).alloc (.cells #[.int .i64 0, .slice none 0 0] 35)).cell? ⟨w.heap.size + 1, 1, none⟩ = some (.slice none 0 0) by go_simp)
  have HF1 := Lib.hid (show ((w.alloc (.cells #[.int .i64 N, .slice none 0 c0] 35)).alloc (.cells #[.int .i64 0, .slice none 0 0] 35)).frozen? ⟨w.heap.size + 1, 0, none⟩ = false by go_simp)
  have HF2 := Lib.hid (show ((w.alloc (.cells #[.int .i64 N, .slice none 0 c0] 35)).alloc (.cells #[.int .i64 0, .slice none 0 0] 35)).frozen? ⟨w.heap.size + 1, 1, none⟩ = false by go_simp)
  go_enter Tryz.func60, Tryz.ntmps60
  go_wp2_with fail
  go_region_law ((refine step_append_none _ rfl (.tmp 5) (.tmp 7) 33 rfl (w.heap.size + 2) 3 i0 1 Tryz.underlying33 hi' _ 0 [] (by simp [Act.eval]) (World.ownsRow_made _ #[] 0 (by simp) (Nat.zero_le _) rfl) c0 (by simp [Act.eval]) ?_))
  all_goals
    go_wp2
    refine bodyPost_ret (v := .agg #[.int .i64 N, .slice (some ⟨w.heap.size + 2, 0, none⟩) 0 0]) (by simp [results, Tryz.results60, go_sem]) rfl ⟨some ⟨w.heap.size + 2, 0, none⟩, 0, rfl, .nil _ _ _ _ _, ?_⟩
    repeat (first | (with_reducible exact HB.out) | (with_reducible apply Below.drew) | (with_reducible refine below_drewN ?_ _) | (refine Below.setCell ?_ (by simp <;> omega) _) | (refine Below.alloc ?_ (by simp <;> omega) _) | (with_reducible exact Below.refl _ _))

theorem spec_copy {lo hi c0 : Nat} {a0 : Option Addr} (r : DRelation) (hl : r.fRows.length ≤ 1048576) (w : World) (hhi : hi ≤ w.heap.size) (hs : Sl lo hi w 1 r.fRows.length (rowsI r.fRows) a0) :
    Calls Tryz.prog 60 #[.agg #[.int .i64 r.fN, .slice a0 r.fRows.length c0]] w (RelOut r w) := by
  cases a0 with
  | some p => exact spec_l22Copy r hl w hhi hs
  | none =>
    obtain ⟨N, l⟩ := r
    have h0 : l = [] := by
      rcases Nat.eq_zero_or_pos l.length with h | h
      · exact List.length_eq_zero_iff.1 h
      · obtain ⟨b, off, hb, _⟩ := hs.at 0 h
        cases hb
    subst h0
    exact spec_l22Copy_none N w
end Go.Proofs.YtnmepemmpeboeaaGreat
namespace Go.Proofs.YtnmepemmpeboeaaGreat
open Go.ChangeShapes Go.WideShapes Go.ChangeAt Go.RowKit Go.Deep

/-- A row with bit k. -/
def orB (row : Int) (k : Nat) : Int := bits BinOp.or IntKind.i64 row (2 ^ k)
def addPair (r : DRelation) (i k : Int) : DRelation := if relB r && inR i 0 (r.fN - 1) && inR k 0 (r.fN - 1) then ⟨r.fN, r.fRows.set i.toNat (orB (r.fRows.getD i.toNat default) k.toNat)⟩ else r
theorem addPair_no1 {r : DRelation} {i k : Int} (h : relB r = false) : addPair r i k = r := by unfold addPair; rw [h]; rfl
theorem addPair_no2 {r : DRelation} {i k : Int} (h : inR i 0 (r.fN - 1) = false) : addPair r i k = r := by unfold addPair; rw [h, Bool.and_false]; rfl
theorem addPair_no3 {r : DRelation} {i k : Int} (h : inR k 0 (r.fN - 1) = false) : addPair r i k = r := by unfold addPair; rw [h, Bool.and_false]; rfl
theorem addPair_yes {r : DRelation} {i k : Nat} (h : relB r = true) (h1 : inR i 0 (r.fN - 1) = true) (h2 : inR k 0 (r.fN - 1) = true) : addPair r i k = ⟨r.fN, r.fRows.set i (orB (r.fRows.getD i default) k)⟩ := by
  unfold addPair; rw [h, h1, h2, Int.toNat_natCast, Int.toNat_natCast]; rfl
theorem addPair_len (r : DRelation) (i k : Int) : (addPair r i k).fRows.length = r.fRows.length := by
  unfold addPair
  split <;> simp
/-- A number stored into a list of its own. -/
theorem own_at {w : World} {F : Nat → Prop} {l : List Int} {a : Option Addr} {c : Nat} (h : Own w F (.sl 1 l.length (rowsI l)) (.slice a l.length c)) (i : Nat) (hi : i < l.length) :
    ∃ b off, a = some ⟨b, off, none⟩ ∧ F b ∧ b < w.heap.size ∧ (∀ j, j < l.length → w.cell? ⟨b, off + j, none⟩ = some (.int .i64 (l.getD j default))) ∧ ∀ o, w.frozen? ⟨b, o, none⟩ = false := by
  rcases own_ints h (fun k _ => ⟨_, rfl⟩) with h0 | ⟨b, off, ha, hF, hb, hc, hz⟩
  · omega
  · refine ⟨b, off, ha, hF, hb, fun j hj => ?_, hz⟩
    obtain ⟨v, hv, hcell⟩ := hc j hj
    obtain rfl : v = .int .i64 (l.getD j default) := by
      have : Ct.lit v = .lit (.int .i64 (l.getD j default)) := hv.symm
      simpa using this
    exact hcell
theorem own_set {w : World} {F : Nat → Prop} {l : List Int} {b off c : Nat} (h : Own w F (.sl 1 l.length (rowsI l)) (.slice (some ⟨b, off, none⟩) l.length c)) (i : Nat) (hi : i < l.length) (z : Int) :
    Own (w.setCell ⟨b, off + i, none⟩ (.int .i64 z)) F (.sl 1 (l.set i z).length (rowsI (l.set i z))) (.slice (some ⟨b, off, none⟩) (l.set i z).length c) := by
  obtain ⟨b', off', ha, hF, hb, hc, hz⟩ := own_at h i hi
  simp only [Option.some.injEq, Addr.mk.injEq, and_true] at ha
  obtain ⟨rfl, rfl⟩ := ha
  refine ints_own hF (by simpa [World.setCell] using hb) (fun j hj => ⟨_, rfl, ?_⟩) (fun o => by rw [World.frozen?_setCell]; exact hz o)
  rw [List.length_set] at hj
  by_cases hji : j = i
  · subst hji
    rw [World.cell?_setCell_same _ _ _ (hc j hj), List.getD_eq_getElem?_getD, List.getElem?_set_self hj]
    rfl
  · rw [World.cell?_setCell_other _ ⟨b, off + i, none⟩ ⟨b, off + j, none⟩ _ (fun e => by have := congrArg Addr.off e; simp only at this; omega), hc j hj, List.getD_eq_getElem?_getD, List.getD_eq_getElem?_getD, List.getElem?_set_ne (by omega)]
theorem Kept.drew {F : Nat → Prop} {a w : World} (h : Kept F a w) : Kept F a w.drew := h
set_option maxHeartbeats 1600000 in
set_option maxRecDepth 100000 in
theorem spec_AddPair {lo hi c0_0 : Nat} {a0 : Option Addr} (r : DRelation) (hsz : r.sz ≤ 1048576) (i : Int) (k : Int) (w : World) (hhi : hi ≤ w.heap.size) (hs : Sl lo hi w 1 r.fRows.length (rowsI r.fRows) a0) :
    Calls Tryz.prog 26 #[.agg #[.int .i64 r.fN, .slice a0 r.fRows.length c0_0], .int .i64 i, .int .i64 k] w (RelOut (addPair r i k) w) := by
  have HL := Lib.hid (rel_len hsz)
  have HB0 := Lib.hid (((Below.refl w.heap.size w).alloc (Nat.le_refl _) (.cells #[.int .i64 r.fN, .slice a0 r.fRows.length c0_0] 35)).alloc (by simp) (.cells #[.int .i64 0, .slice none 0 0] 35))
  have HS := Lib.hid hs
  have HH := Lib.hid hhi
  have HG0 := Lib.hid (show ((w.alloc (.cells #[.int .i64 r.fN, .slice a0 r.fRows.length c0_0] 35)).alloc (.cells #[.int .i64 0, .slice none 0 0] 35)).heap[w.heap.size + 1]? = some (.cells #[.int .i64 0, .slice none 0 0] 35) from blk_new (by simp))
  clear hs hhi hsz
  cases hv : relB r with
  | false =>
    have HV := Lib.hid hv
    have fin := Lib.hid (addPair_no1 (i := i) (k := k) hv)
    clear hv
    go_enter Tryz.func26, Tryz.ntmps26
    go_wp2_with fail
    refine (spec_copy (c0 := c0_0) r HL.out _ (Nat.le_trans HH.out HB0.out.size) (HS.out.later (HB0.out) HH.out)).mono ?_
    rintro e w1 ⟨a1, c1, rfl, ho1, hb1⟩
    have hst1 : Below (w.heap.size + 2) ((w.alloc (.cells #[.int .i64 r.fN, .slice a0 r.fRows.length c0_0] 35)).alloc (.cells #[.int .i64 0, .slice none 0 0] 35)) w1 := hb1.mono (by simp)
    have sz1_r : w.heap.size < w1.heap.size := Nat.lt_of_lt_of_le (by show w.heap.size < w.heap.size + 2; omega) (Nat.le_trans (by simp) hst1.size)
    have bx1_r_0 : w1.cell? ⟨w.heap.size, 0, none⟩ = some (.int .i64 r.fN) := (hst1.cell (p := ⟨w.heap.size, 0, none⟩) (by show w.heap.size < w.heap.size + 2; omega)).trans (by go_simp)
    have bx1_r_1 : w1.cell? ⟨w.heap.size, 1, none⟩ = some (.slice a0 r.fRows.length c0_0) := (hst1.cell (p := ⟨w.heap.size, 1, none⟩) (by show w.heap.size < w.heap.size + 2; omega)).trans (by go_simp)
    have sz1_z : w.heap.size + 1 < w1.heap.size := Nat.lt_of_lt_of_le (by show w.heap.size + 1 < w.heap.size + 2; omega) (Nat.le_trans (by simp) hst1.size)
    have bx1_z_0 : w1.cell? ⟨w.heap.size + 1, 0, none⟩ = some (.int .i64 0) := (hst1.cell (p := ⟨w.heap.size + 1, 0, none⟩) (by show w.heap.size + 1 < w.heap.size + 2; omega)).trans (by go_simp)
    have fz1_z_0 : w1.frozen? ⟨w.heap.size + 1, 0, none⟩ = false := (hst1.frozen (p := ⟨w.heap.size + 1, 0, none⟩) (by show w.heap.size + 1 < w.heap.size + 2; omega)).trans (by go_simp)
    have bx1_z_1 : w1.cell? ⟨w.heap.size + 1, 1, none⟩ = some (.slice none 0 0) := (hst1.cell (p := ⟨w.heap.size + 1, 1, none⟩) (by show w.heap.size + 1 < w.heap.size + 2; omega)).trans (by go_simp)
    have fz1_z_1 : w1.frozen? ⟨w.heap.size + 1, 1, none⟩ = false := (hst1.frozen (p := ⟨w.heap.size + 1, 1, none⟩) (by show w.heap.size + 1 < w.heap.size + 2; omega)).trans (by go_simp)
    have HG1 := Lib.hid ((hst1.block (w.heap.size + 1) (by omega)).trans HG0.out)
    have HO1 := Lib.hid (ho1.sub (F' := fun y => w.heap.size + 2 ≤ y ∧ y < w1.heap.size) (fun y hy => ⟨Nat.le_trans (by simp) hy.1, hy.2⟩))
    clear ho1
    have HB1 := Lib.hid (HB0.out.trans (hb1.mono HB0.out.size))
    clear hb1 hst1
    go_wp2_with fail
    refine (spec_relValid (c0 := c0_0) r HL.out false HV.out _ (Nat.le_trans HH.out (Nat.le_trans HB1.out.size (Below.size (by repeat (first | (with_reducible exact Below.refl _ _) | (with_reducible apply Below.drew) | (with_reducible refine below_drewN ?_ _) | (refine Below.setCell ?_ (by simp <;> omega) _) | (refine Below.alloc ?_ (by simp <;> omega) _)) : Below w1.heap.size w1 _)))) (HS.out.later (HB1.out.trans ((by repeat (first | (with_reducible exact Below.refl _ _) | (with_reducible apply Below.drew) | (with_reducible refine below_drewN ?_ _) | (refine Below.setCell ?_ (by simp <;> omega) _) | (refine Below.alloc ?_ (by simp <;> omega) _)) : Below w1.heap.size w1 _).mono HB1.out.size)) HH.out)).mono ?_
    rintro e w2 ⟨rfl, hb2⟩
    have hst2 : Below w1.heap.size w1 w2 := Below.trans (by repeat (first | (with_reducible exact Below.refl _ _) | (with_reducible apply Below.drew) | (with_reducible refine below_drewN ?_ _) | (refine Below.setCell ?_ (by simp <;> omega) _) | (refine Below.alloc ?_ (by simp <;> omega) _)) : Below w1.heap.size w1 _) (hb2.mono (Below.size (by repeat (first | (with_reducible exact Below.refl _ _) | (with_reducible apply Below.drew) | (with_reducible refine below_drewN ?_ _) | (refine Below.setCell ?_ (by simp <;> omega) _) | (refine Below.alloc ?_ (by simp <;> omega) _)) : Below w1.heap.size w1 _)))
    have sz2_r : w.heap.size < w2.heap.size := Nat.lt_of_lt_of_le sz1_r hst2.size
    have bx2_r_0 : w2.cell? ⟨w.heap.size, 0, none⟩ = some (.int .i64 r.fN) := (hst2.cell (p := ⟨w.heap.size, 0, none⟩) sz1_r).trans bx1_r_0
    have bx2_r_1 : w2.cell? ⟨w.heap.size, 1, none⟩ = some (.slice a0 r.fRows.length c0_0) := (hst2.cell (p := ⟨w.heap.size, 1, none⟩) sz1_r).trans bx1_r_1
    have sz2_z : w.heap.size + 1 < w2.heap.size := Nat.lt_of_lt_of_le sz1_z hst2.size
    have bx2_z_0 : w2.cell? ⟨w.heap.size + 1, 0, none⟩ = some (.int .i64 0) := (hst2.cell (p := ⟨w.heap.size + 1, 0, none⟩) sz1_z).trans bx1_z_0
    have fz2_z_0 : w2.frozen? ⟨w.heap.size + 1, 0, none⟩ = false := (hst2.frozen (p := ⟨w.heap.size + 1, 0, none⟩) sz1_z).trans fz1_z_0
    have bx2_z_1 : w2.cell? ⟨w.heap.size + 1, 1, none⟩ = some (.slice none 0 0) := (hst2.cell (p := ⟨w.heap.size + 1, 1, none⟩) sz1_z).trans bx1_z_1
    have fz2_z_1 : w2.frozen? ⟨w.heap.size + 1, 1, none⟩ = false := (hst2.frozen (p := ⟨w.heap.size + 1, 1, none⟩) sz1_z).trans fz1_z_1
    have sz2_x : w1.heap.size < w2.heap.size := Nat.lt_of_lt_of_le (by first | omega | (simp; done) | (simp; omega) | (simp [World.setCell]; omega)) hb2.size
    have bx2_x_0 : w2.cell? ⟨w1.heap.size, 0, none⟩ = some (.int .i64 r.fN) := (hb2.cell (p := ⟨w1.heap.size, 0, none⟩) (by first | omega | (simp; done) | (simp; omega) | (simp [World.setCell]; omega))).trans (by go_simp)
    have bx2_x_1 : w2.cell? ⟨w1.heap.size, 1, none⟩ = some (.slice a1 r.fRows.length c1) := (hb2.cell (p := ⟨w1.heap.size, 1, none⟩) (by first | omega | (simp; done) | (simp; omega) | (simp [World.setCell]; omega))).trans (by go_simp)
    have HG2 := Lib.hid ((hst2.block (w.heap.size + 1) sz1_z).trans HG1.out)
    have HO2 := Lib.hid (HO1.out.kept (Kept.of_below_all hst2))
    have HB2 := Lib.hid (HB1.out.trans (hst2.mono HB1.out.size))
    have hr2 : w1.heap.size ≤ w2.heap.size := hst2.size
    clear hb2 hst2 bx1_r_0 bx1_r_1 sz1_r bx1_z_0 bx1_z_1 sz1_z fz1_z_0 fz1_z_1
    go_wp2
    refine bodyPost_ret (v := .agg #[.int .i64 r.fN, .slice a1 r.fRows.length c1]) (results_cell_row Tryz.results26 _ _ (w.heap.size + 1) 35 #[.int .i64 r.fN, .slice a1 r.fRows.length c1] (0, 0) _ rfl (by refine Eq.trans (blk_set (cs := #[.int .i64 r.fN, .slice none 0 0]) (t := 35) (fr := (0, 0)) ?_) rfl; refine Eq.trans (blk_set (cs := #[.int .i64 0, .slice none 0 0]) (t := 35) (fr := (0, 0)) ?_) rfl; repeat (first | (with_reducible exact HG2.out) | (refine blk_other (by dsimp only; omega) ?_))) Tryz.underlying35 rfl rfl) rfl ?_
    rw [fin.out]
    refine ⟨a1, c1, rfl, ?_, ?_⟩
    · refine Own.sub (F := fun y => w.heap.size + 2 ≤ y ∧ y < w1.heap.size) (HO2.out.kept ?_) (fun y hy => ⟨Nat.le_trans (by omega) hy.1, Nat.lt_of_lt_of_le hy.2 (by first | (simp; done) | (simp; omega))⟩)
      repeat (first | (with_reducible exact Kept.refl) | (refine Kept.put ?_ (by intro h; have h1 := h.1; dsimp only at h1; omega)))
    · repeat (first | (with_reducible exact HB2.out) | (with_reducible apply Below.drew) | (with_reducible refine below_drewN ?_ _) | (refine Below.setCell ?_ (by simp <;> omega) _) | (refine Below.alloc ?_ (by simp <;> omega) _))
  | true =>
    have HV := Lib.hid hv
    have HP := Lib.hid (relB_parts hv)
    clear hv
    have hN1 : 0 ≤ r.fN ∧ r.fN ≤ 16 := by
      obtain ⟨n, h1, h2, _⟩ := HP.out
      rw [h2]; omega
    cases hi1 : inR i 0 (r.fN - 1) with
    | false =>
      have fin := Lib.hid (addPair_no2 (k := k) hi1)
      have HI := Lib.hid (fun w => spec_l1In_b i 0 (r.fN - 1) false hi1 w)
      clear hi1
      go_enter Tryz.func26, Tryz.ntmps26
      go_wp2_with fail
      refine (spec_copy (c0 := c0_0) r HL.out _ (Nat.le_trans HH.out HB0.out.size) (HS.out.later (HB0.out) HH.out)).mono ?_
      rintro e w1 ⟨a1, c1, rfl, ho1, hb1⟩
      have hst1 : Below (w.heap.size + 2) ((w.alloc (.cells #[.int .i64 r.fN, .slice a0 r.fRows.length c0_0] 35)).alloc (.cells #[.int .i64 0, .slice none 0 0] 35)) w1 := hb1.mono (by simp)
      have sz1_r : w.heap.size < w1.heap.size := Nat.lt_of_lt_of_le (by show w.heap.size < w.heap.size + 2; omega) (Nat.le_trans (by simp) hst1.size)
      have bx1_r_0 : w1.cell? ⟨w.heap.size, 0, none⟩ = some (.int .i64 r.fN) := (hst1.cell (p := ⟨w.heap.size, 0, none⟩) (by show w.heap.size < w.heap.size + 2; omega)).trans (by go_simp)
      have bx1_r_1 : w1.cell? ⟨w.heap.size, 1, none⟩ = some (.slice a0 r.fRows.length c0_0) := (hst1.cell (p := ⟨w.heap.size, 1, none⟩) (by show w.heap.size < w.heap.size + 2; omega)).trans (by go_simp)
      have sz1_z : w.heap.size + 1 < w1.heap.size := Nat.lt_of_lt_of_le (by show w.heap.size + 1 < w.heap.size + 2; omega) (Nat.le_trans (by simp) hst1.size)
      have bx1_z_0 : w1.cell? ⟨w.heap.size + 1, 0, none⟩ = some (.int .i64 0) := (hst1.cell (p := ⟨w.heap.size + 1, 0, none⟩) (by show w.heap.size + 1 < w.heap.size + 2; omega)).trans (by go_simp)
      have fz1_z_0 : w1.frozen? ⟨w.heap.size + 1, 0, none⟩ = false := (hst1.frozen (p := ⟨w.heap.size + 1, 0, none⟩) (by show w.heap.size + 1 < w.heap.size + 2; omega)).trans (by go_simp)
      have bx1_z_1 : w1.cell? ⟨w.heap.size + 1, 1, none⟩ = some (.slice none 0 0) := (hst1.cell (p := ⟨w.heap.size + 1, 1, none⟩) (by show w.heap.size + 1 < w.heap.size + 2; omega)).trans (by go_simp)
      have fz1_z_1 : w1.frozen? ⟨w.heap.size + 1, 1, none⟩ = false := (hst1.frozen (p := ⟨w.heap.size + 1, 1, none⟩) (by show w.heap.size + 1 < w.heap.size + 2; omega)).trans (by go_simp)
      have HG1 := Lib.hid ((hst1.block (w.heap.size + 1) (by omega)).trans HG0.out)
      have HO1 := Lib.hid (ho1.sub (F' := fun y => w.heap.size + 2 ≤ y ∧ y < w1.heap.size) (fun y hy => ⟨Nat.le_trans (by simp) hy.1, hy.2⟩))
      clear ho1
      have HB1 := Lib.hid (HB0.out.trans (hb1.mono HB0.out.size))
      clear hb1 hst1
      go_wp2_with fail
      refine (spec_relValid (c0 := c0_0) r HL.out true HV.out _ (Nat.le_trans HH.out (Nat.le_trans HB1.out.size (Below.size (by repeat (first | (with_reducible exact Below.refl _ _) | (with_reducible apply Below.drew) | (with_reducible refine below_drewN ?_ _) | (refine Below.setCell ?_ (by simp <;> omega) _) | (refine Below.alloc ?_ (by simp <;> omega) _)) : Below w1.heap.size w1 _)))) (HS.out.later (HB1.out.trans ((by repeat (first | (with_reducible exact Below.refl _ _) | (with_reducible apply Below.drew) | (with_reducible refine below_drewN ?_ _) | (refine Below.setCell ?_ (by simp <;> omega) _) | (refine Below.alloc ?_ (by simp <;> omega) _)) : Below w1.heap.size w1 _).mono HB1.out.size)) HH.out)).mono ?_
      rintro e w2 ⟨rfl, hb2⟩
      have hst2 : Below w1.heap.size w1 w2 := Below.trans (by repeat (first | (with_reducible exact Below.refl _ _) | (with_reducible apply Below.drew) | (with_reducible refine below_drewN ?_ _) | (refine Below.setCell ?_ (by simp <;> omega) _) | (refine Below.alloc ?_ (by simp <;> omega) _)) : Below w1.heap.size w1 _) (hb2.mono (Below.size (by repeat (first | (with_reducible exact Below.refl _ _) | (with_reducible apply Below.drew) | (with_reducible refine below_drewN ?_ _) | (refine Below.setCell ?_ (by simp <;> omega) _) | (refine Below.alloc ?_ (by simp <;> omega) _)) : Below w1.heap.size w1 _)))
      have sz2_r : w.heap.size < w2.heap.size := Nat.lt_of_lt_of_le sz1_r hst2.size
      have bx2_r_0 : w2.cell? ⟨w.heap.size, 0, none⟩ = some (.int .i64 r.fN) := (hst2.cell (p := ⟨w.heap.size, 0, none⟩) sz1_r).trans bx1_r_0
      have bx2_r_1 : w2.cell? ⟨w.heap.size, 1, none⟩ = some (.slice a0 r.fRows.length c0_0) := (hst2.cell (p := ⟨w.heap.size, 1, none⟩) sz1_r).trans bx1_r_1
      have sz2_z : w.heap.size + 1 < w2.heap.size := Nat.lt_of_lt_of_le sz1_z hst2.size
      have bx2_z_0 : w2.cell? ⟨w.heap.size + 1, 0, none⟩ = some (.int .i64 0) := (hst2.cell (p := ⟨w.heap.size + 1, 0, none⟩) sz1_z).trans bx1_z_0
      have fz2_z_0 : w2.frozen? ⟨w.heap.size + 1, 0, none⟩ = false := (hst2.frozen (p := ⟨w.heap.size + 1, 0, none⟩) sz1_z).trans fz1_z_0
      have bx2_z_1 : w2.cell? ⟨w.heap.size + 1, 1, none⟩ = some (.slice none 0 0) := (hst2.cell (p := ⟨w.heap.size + 1, 1, none⟩) sz1_z).trans bx1_z_1
      have fz2_z_1 : w2.frozen? ⟨w.heap.size + 1, 1, none⟩ = false := (hst2.frozen (p := ⟨w.heap.size + 1, 1, none⟩) sz1_z).trans fz1_z_1
      have sz2_x : w1.heap.size < w2.heap.size := Nat.lt_of_lt_of_le (by first | omega | (simp; done) | (simp; omega) | (simp [World.setCell]; omega)) hb2.size
      have bx2_x_0 : w2.cell? ⟨w1.heap.size, 0, none⟩ = some (.int .i64 r.fN) := (hb2.cell (p := ⟨w1.heap.size, 0, none⟩) (by first | omega | (simp; done) | (simp; omega) | (simp [World.setCell]; omega))).trans (by go_simp)
      have bx2_x_1 : w2.cell? ⟨w1.heap.size, 1, none⟩ = some (.slice a1 r.fRows.length c1) := (hb2.cell (p := ⟨w1.heap.size, 1, none⟩) (by first | omega | (simp; done) | (simp; omega) | (simp [World.setCell]; omega))).trans (by go_simp)
      have HG2 := Lib.hid ((hst2.block (w.heap.size + 1) sz1_z).trans HG1.out)
      have HO2 := Lib.hid (HO1.out.kept (Kept.of_below_all hst2))
      have HB2 := Lib.hid (HB1.out.trans (hst2.mono HB1.out.size))
      have hr2 : w1.heap.size ≤ w2.heap.size := hst2.size
      clear hb2 hst2 bx1_r_0 bx1_r_1 sz1_r bx1_z_0 bx1_z_1 sz1_z fz1_z_0 fz1_z_1
      go_wp2_with fail
      refine (HI.out _).mono ?_
      rintro e w3 ⟨rfl, hb3⟩
      have hst3 : Below w2.heap.size w2 w3 := Below.trans (by repeat (first | (with_reducible exact Below.refl _ _) | (with_reducible apply Below.drew) | (with_reducible refine below_drewN ?_ _) | (refine Below.setCell ?_ (by simp <;> omega) _) | (refine Below.alloc ?_ (by simp <;> omega) _)) : Below w2.heap.size w2 _) (hb3.mono (Below.size (by repeat (first | (with_reducible exact Below.refl _ _) | (with_reducible apply Below.drew) | (with_reducible refine below_drewN ?_ _) | (refine Below.setCell ?_ (by simp <;> omega) _) | (refine Below.alloc ?_ (by simp <;> omega) _)) : Below w2.heap.size w2 _)))
      have sz3_r : w.heap.size < w3.heap.size := Nat.lt_of_lt_of_le sz2_r hst3.size
      have bx3_r_0 : w3.cell? ⟨w.heap.size, 0, none⟩ = some (.int .i64 r.fN) := (hst3.cell (p := ⟨w.heap.size, 0, none⟩) sz2_r).trans bx2_r_0
      have bx3_r_1 : w3.cell? ⟨w.heap.size, 1, none⟩ = some (.slice a0 r.fRows.length c0_0) := (hst3.cell (p := ⟨w.heap.size, 1, none⟩) sz2_r).trans bx2_r_1
      have sz3_z : w.heap.size + 1 < w3.heap.size := Nat.lt_of_lt_of_le sz2_z hst3.size
      have bx3_z_0 : w3.cell? ⟨w.heap.size + 1, 0, none⟩ = some (.int .i64 0) := (hst3.cell (p := ⟨w.heap.size + 1, 0, none⟩) sz2_z).trans bx2_z_0
      have fz3_z_0 : w3.frozen? ⟨w.heap.size + 1, 0, none⟩ = false := (hst3.frozen (p := ⟨w.heap.size + 1, 0, none⟩) sz2_z).trans fz2_z_0
      have bx3_z_1 : w3.cell? ⟨w.heap.size + 1, 1, none⟩ = some (.slice none 0 0) := (hst3.cell (p := ⟨w.heap.size + 1, 1, none⟩) sz2_z).trans bx2_z_1
      have fz3_z_1 : w3.frozen? ⟨w.heap.size + 1, 1, none⟩ = false := (hst3.frozen (p := ⟨w.heap.size + 1, 1, none⟩) sz2_z).trans fz2_z_1
      have sz3_x : w1.heap.size < w3.heap.size := Nat.lt_of_lt_of_le sz2_x hst3.size
      have bx3_x_0 : w3.cell? ⟨w1.heap.size, 0, none⟩ = some (.int .i64 r.fN) := (hst3.cell (p := ⟨w1.heap.size, 0, none⟩) sz2_x).trans bx2_x_0
      have bx3_x_1 : w3.cell? ⟨w1.heap.size, 1, none⟩ = some (.slice a1 r.fRows.length c1) := (hst3.cell (p := ⟨w1.heap.size, 1, none⟩) sz2_x).trans bx2_x_1
      have HG3 := Lib.hid ((hst3.block (w.heap.size + 1) sz2_z).trans HG2.out)
      have HO3 := Lib.hid (HO2.out.kept (Kept.of_below_all hst3))
      have HB3 := Lib.hid (HB2.out.trans (hst3.mono HB2.out.size))
      have hr3 : w2.heap.size ≤ w3.heap.size := hst3.size
      clear hb3 hst3 bx2_r_0 bx2_r_1 sz2_r bx2_z_0 bx2_z_1 sz2_z fz2_z_0 fz2_z_1 bx2_x_0 bx2_x_1 sz2_x
      go_wp2
      refine bodyPost_ret (v := .agg #[.int .i64 r.fN, .slice a1 r.fRows.length c1]) (results_cell_row Tryz.results26 _ _ (w.heap.size + 1) 35 #[.int .i64 r.fN, .slice a1 r.fRows.length c1] (0, 0) _ rfl (by refine Eq.trans (blk_set (cs := #[.int .i64 r.fN, .slice none 0 0]) (t := 35) (fr := (0, 0)) ?_) rfl; refine Eq.trans (blk_set (cs := #[.int .i64 0, .slice none 0 0]) (t := 35) (fr := (0, 0)) ?_) rfl; repeat (first | (with_reducible exact HG3.out) | (refine blk_other (by dsimp only; omega) ?_))) Tryz.underlying35 rfl rfl) rfl ?_
      rw [fin.out]
      refine ⟨a1, c1, rfl, ?_, ?_⟩
      · refine Own.sub (F := fun y => w.heap.size + 2 ≤ y ∧ y < w1.heap.size) (HO3.out.kept ?_) (fun y hy => ⟨Nat.le_trans (by omega) hy.1, Nat.lt_of_lt_of_le hy.2 (by first | (simp; done) | (simp; omega))⟩)
        repeat (first | (with_reducible exact Kept.refl) | (refine Kept.put ?_ (by intro h; have h1 := h.1; dsimp only at h1; omega)))
      · repeat (first | (with_reducible exact HB3.out) | (with_reducible apply Below.drew) | (with_reducible refine below_drewN ?_ _) | (refine Below.setCell ?_ (by simp <;> omega) _) | (refine Below.alloc ?_ (by simp <;> omega) _))
    | true =>
      have HI := Lib.hid (fun w => spec_l1In_b i 0 (r.fN - 1) true hi1 w)
      cases hk1 : inR k 0 (r.fN - 1) with
      | false =>
        have fin := Lib.hid (addPair_no3 (i := i) hk1)
        have HK := Lib.hid (fun w => spec_l1In_b k 0 (r.fN - 1) false hk1 w)
        clear hi1 hk1
        go_enter Tryz.func26, Tryz.ntmps26
        go_wp2_with fail
        refine (spec_copy (c0 := c0_0) r HL.out _ (Nat.le_trans HH.out HB0.out.size) (HS.out.later (HB0.out) HH.out)).mono ?_
        rintro e w1 ⟨a1, c1, rfl, ho1, hb1⟩
        have hst1 : Below (w.heap.size + 2) ((w.alloc (.cells #[.int .i64 r.fN, .slice a0 r.fRows.length c0_0] 35)).alloc (.cells #[.int .i64 0, .slice none 0 0] 35)) w1 := hb1.mono (by simp)
        have sz1_r : w.heap.size < w1.heap.size := Nat.lt_of_lt_of_le (by show w.heap.size < w.heap.size + 2; omega) (Nat.le_trans (by simp) hst1.size)
        have bx1_r_0 : w1.cell? ⟨w.heap.size, 0, none⟩ = some (.int .i64 r.fN) := (hst1.cell (p := ⟨w.heap.size, 0, none⟩) (by show w.heap.size < w.heap.size + 2; omega)).trans (by go_simp)
        have bx1_r_1 : w1.cell? ⟨w.heap.size, 1, none⟩ = some (.slice a0 r.fRows.length c0_0) := (hst1.cell (p := ⟨w.heap.size, 1, none⟩) (by show w.heap.size < w.heap.size + 2; omega)).trans (by go_simp)
        have sz1_z : w.heap.size + 1 < w1.heap.size := Nat.lt_of_lt_of_le (by show w.heap.size + 1 < w.heap.size + 2; omega) (Nat.le_trans (by simp) hst1.size)
        have bx1_z_0 : w1.cell? ⟨w.heap.size + 1, 0, none⟩ = some (.int .i64 0) := (hst1.cell (p := ⟨w.heap.size + 1, 0, none⟩) (by show w.heap.size + 1 < w.heap.size + 2; omega)).trans (by go_simp)
        have fz1_z_0 : w1.frozen? ⟨w.heap.size + 1, 0, none⟩ = false := (hst1.frozen (p := ⟨w.heap.size + 1, 0, none⟩) (by show w.heap.size + 1 < w.heap.size + 2; omega)).trans (by go_simp)
        have bx1_z_1 : w1.cell? ⟨w.heap.size + 1, 1, none⟩ = some (.slice none 0 0) := (hst1.cell (p := ⟨w.heap.size + 1, 1, none⟩) (by show w.heap.size + 1 < w.heap.size + 2; omega)).trans (by go_simp)
        have fz1_z_1 : w1.frozen? ⟨w.heap.size + 1, 1, none⟩ = false := (hst1.frozen (p := ⟨w.heap.size + 1, 1, none⟩) (by show w.heap.size + 1 < w.heap.size + 2; omega)).trans (by go_simp)
        have HG1 := Lib.hid ((hst1.block (w.heap.size + 1) (by omega)).trans HG0.out)
        have HO1 := Lib.hid (ho1.sub (F' := fun y => w.heap.size + 2 ≤ y ∧ y < w1.heap.size) (fun y hy => ⟨Nat.le_trans (by simp) hy.1, hy.2⟩))
        clear ho1
        have HB1 := Lib.hid (HB0.out.trans (hb1.mono HB0.out.size))
        clear hb1 hst1
        go_wp2_with fail
        refine (spec_relValid (c0 := c0_0) r HL.out true HV.out _ (Nat.le_trans HH.out (Nat.le_trans HB1.out.size (Below.size (by repeat (first | (with_reducible exact Below.refl _ _) | (with_reducible apply Below.drew) | (with_reducible refine below_drewN ?_ _) | (refine Below.setCell ?_ (by simp <;> omega) _) | (refine Below.alloc ?_ (by simp <;> omega) _)) : Below w1.heap.size w1 _)))) (HS.out.later (HB1.out.trans ((by repeat (first | (with_reducible exact Below.refl _ _) | (with_reducible apply Below.drew) | (with_reducible refine below_drewN ?_ _) | (refine Below.setCell ?_ (by simp <;> omega) _) | (refine Below.alloc ?_ (by simp <;> omega) _)) : Below w1.heap.size w1 _).mono HB1.out.size)) HH.out)).mono ?_
        rintro e w2 ⟨rfl, hb2⟩
        have hst2 : Below w1.heap.size w1 w2 := Below.trans (by repeat (first | (with_reducible exact Below.refl _ _) | (with_reducible apply Below.drew) | (with_reducible refine below_drewN ?_ _) | (refine Below.setCell ?_ (by simp <;> omega) _) | (refine Below.alloc ?_ (by simp <;> omega) _)) : Below w1.heap.size w1 _) (hb2.mono (Below.size (by repeat (first | (with_reducible exact Below.refl _ _) | (with_reducible apply Below.drew) | (with_reducible refine below_drewN ?_ _) | (refine Below.setCell ?_ (by simp <;> omega) _) | (refine Below.alloc ?_ (by simp <;> omega) _)) : Below w1.heap.size w1 _)))
        have sz2_r : w.heap.size < w2.heap.size := Nat.lt_of_lt_of_le sz1_r hst2.size
        have bx2_r_0 : w2.cell? ⟨w.heap.size, 0, none⟩ = some (.int .i64 r.fN) := (hst2.cell (p := ⟨w.heap.size, 0, none⟩) sz1_r).trans bx1_r_0
        have bx2_r_1 : w2.cell? ⟨w.heap.size, 1, none⟩ = some (.slice a0 r.fRows.length c0_0) := (hst2.cell (p := ⟨w.heap.size, 1, none⟩) sz1_r).trans bx1_r_1
        have sz2_z : w.heap.size + 1 < w2.heap.size := Nat.lt_of_lt_of_le sz1_z hst2.size
        have bx2_z_0 : w2.cell? ⟨w.heap.size + 1, 0, none⟩ = some (.int .i64 0) := (hst2.cell (p := ⟨w.heap.size + 1, 0, none⟩) sz1_z).trans bx1_z_0
        have fz2_z_0 : w2.frozen? ⟨w.heap.size + 1, 0, none⟩ = false := (hst2.frozen (p := ⟨w.heap.size + 1, 0, none⟩) sz1_z).trans fz1_z_0
        have bx2_z_1 : w2.cell? ⟨w.heap.size + 1, 1, none⟩ = some (.slice none 0 0) := (hst2.cell (p := ⟨w.heap.size + 1, 1, none⟩) sz1_z).trans bx1_z_1
        have fz2_z_1 : w2.frozen? ⟨w.heap.size + 1, 1, none⟩ = false := (hst2.frozen (p := ⟨w.heap.size + 1, 1, none⟩) sz1_z).trans fz1_z_1
        have sz2_x : w1.heap.size < w2.heap.size := Nat.lt_of_lt_of_le (by first | omega | (simp; done) | (simp; omega) | (simp [World.setCell]; omega)) hb2.size
        have bx2_x_0 : w2.cell? ⟨w1.heap.size, 0, none⟩ = some (.int .i64 r.fN) := (hb2.cell (p := ⟨w1.heap.size, 0, none⟩) (by first | omega | (simp; done) | (simp; omega) | (simp [World.setCell]; omega))).trans (by go_simp)
        have bx2_x_1 : w2.cell? ⟨w1.heap.size, 1, none⟩ = some (.slice a1 r.fRows.length c1) := (hb2.cell (p := ⟨w1.heap.size, 1, none⟩) (by first | omega | (simp; done) | (simp; omega) | (simp [World.setCell]; omega))).trans (by go_simp)
        have HG2 := Lib.hid ((hst2.block (w.heap.size + 1) sz1_z).trans HG1.out)
        have HO2 := Lib.hid (HO1.out.kept (Kept.of_below_all hst2))
        have HB2 := Lib.hid (HB1.out.trans (hst2.mono HB1.out.size))
        have hr2 : w1.heap.size ≤ w2.heap.size := hst2.size
        clear hb2 hst2 bx1_r_0 bx1_r_1 sz1_r bx1_z_0 bx1_z_1 sz1_z fz1_z_0 fz1_z_1
        go_wp2_with fail
        refine (HI.out _).mono ?_
        rintro e w3 ⟨rfl, hb3⟩
        have hst3 : Below w2.heap.size w2 w3 := Below.trans (by repeat (first | (with_reducible exact Below.refl _ _) | (with_reducible apply Below.drew) | (with_reducible refine below_drewN ?_ _) | (refine Below.setCell ?_ (by simp <;> omega) _) | (refine Below.alloc ?_ (by simp <;> omega) _)) : Below w2.heap.size w2 _) (hb3.mono (Below.size (by repeat (first | (with_reducible exact Below.refl _ _) | (with_reducible apply Below.drew) | (with_reducible refine below_drewN ?_ _) | (refine Below.setCell ?_ (by simp <;> omega) _) | (refine Below.alloc ?_ (by simp <;> omega) _)) : Below w2.heap.size w2 _)))
        have sz3_r : w.heap.size < w3.heap.size := Nat.lt_of_lt_of_le sz2_r hst3.size
        have bx3_r_0 : w3.cell? ⟨w.heap.size, 0, none⟩ = some (.int .i64 r.fN) := (hst3.cell (p := ⟨w.heap.size, 0, none⟩) sz2_r).trans bx2_r_0
        have bx3_r_1 : w3.cell? ⟨w.heap.size, 1, none⟩ = some (.slice a0 r.fRows.length c0_0) := (hst3.cell (p := ⟨w.heap.size, 1, none⟩) sz2_r).trans bx2_r_1
        have sz3_z : w.heap.size + 1 < w3.heap.size := Nat.lt_of_lt_of_le sz2_z hst3.size
        have bx3_z_0 : w3.cell? ⟨w.heap.size + 1, 0, none⟩ = some (.int .i64 0) := (hst3.cell (p := ⟨w.heap.size + 1, 0, none⟩) sz2_z).trans bx2_z_0
        have fz3_z_0 : w3.frozen? ⟨w.heap.size + 1, 0, none⟩ = false := (hst3.frozen (p := ⟨w.heap.size + 1, 0, none⟩) sz2_z).trans fz2_z_0
        have bx3_z_1 : w3.cell? ⟨w.heap.size + 1, 1, none⟩ = some (.slice none 0 0) := (hst3.cell (p := ⟨w.heap.size + 1, 1, none⟩) sz2_z).trans bx2_z_1
        have fz3_z_1 : w3.frozen? ⟨w.heap.size + 1, 1, none⟩ = false := (hst3.frozen (p := ⟨w.heap.size + 1, 1, none⟩) sz2_z).trans fz2_z_1
        have sz3_x : w1.heap.size < w3.heap.size := Nat.lt_of_lt_of_le sz2_x hst3.size
        have bx3_x_0 : w3.cell? ⟨w1.heap.size, 0, none⟩ = some (.int .i64 r.fN) := (hst3.cell (p := ⟨w1.heap.size, 0, none⟩) sz2_x).trans bx2_x_0
        have bx3_x_1 : w3.cell? ⟨w1.heap.size, 1, none⟩ = some (.slice a1 r.fRows.length c1) := (hst3.cell (p := ⟨w1.heap.size, 1, none⟩) sz2_x).trans bx2_x_1
        have HG3 := Lib.hid ((hst3.block (w.heap.size + 1) sz2_z).trans HG2.out)
        have HO3 := Lib.hid (HO2.out.kept (Kept.of_below_all hst3))
        have HB3 := Lib.hid (HB2.out.trans (hst3.mono HB2.out.size))
        have hr3 : w2.heap.size ≤ w3.heap.size := hst3.size
        clear hb3 hst3 bx2_r_0 bx2_r_1 sz2_r bx2_z_0 bx2_z_1 sz2_z fz2_z_0 fz2_z_1 bx2_x_0 bx2_x_1 sz2_x
        go_wp2_with fail
        refine (HK.out _).mono ?_
        rintro e w4 ⟨rfl, hb4⟩
        have hst4 : Below w3.heap.size w3 w4 := Below.trans (by repeat (first | (with_reducible exact Below.refl _ _) | (with_reducible apply Below.drew) | (with_reducible refine below_drewN ?_ _) | (refine Below.setCell ?_ (by simp <;> omega) _) | (refine Below.alloc ?_ (by simp <;> omega) _)) : Below w3.heap.size w3 _) (hb4.mono (Below.size (by repeat (first | (with_reducible exact Below.refl _ _) | (with_reducible apply Below.drew) | (with_reducible refine below_drewN ?_ _) | (refine Below.setCell ?_ (by simp <;> omega) _) | (refine Below.alloc ?_ (by simp <;> omega) _)) : Below w3.heap.size w3 _)))
        have sz4_r : w.heap.size < w4.heap.size := Nat.lt_of_lt_of_le sz3_r hst4.size
        have bx4_r_0 : w4.cell? ⟨w.heap.size, 0, none⟩ = some (.int .i64 r.fN) := (hst4.cell (p := ⟨w.heap.size, 0, none⟩) sz3_r).trans bx3_r_0
        have bx4_r_1 : w4.cell? ⟨w.heap.size, 1, none⟩ = some (.slice a0 r.fRows.length c0_0) := (hst4.cell (p := ⟨w.heap.size, 1, none⟩) sz3_r).trans bx3_r_1
        have sz4_z : w.heap.size + 1 < w4.heap.size := Nat.lt_of_lt_of_le sz3_z hst4.size
        have bx4_z_0 : w4.cell? ⟨w.heap.size + 1, 0, none⟩ = some (.int .i64 0) := (hst4.cell (p := ⟨w.heap.size + 1, 0, none⟩) sz3_z).trans bx3_z_0
        have fz4_z_0 : w4.frozen? ⟨w.heap.size + 1, 0, none⟩ = false := (hst4.frozen (p := ⟨w.heap.size + 1, 0, none⟩) sz3_z).trans fz3_z_0
        have bx4_z_1 : w4.cell? ⟨w.heap.size + 1, 1, none⟩ = some (.slice none 0 0) := (hst4.cell (p := ⟨w.heap.size + 1, 1, none⟩) sz3_z).trans bx3_z_1
        have fz4_z_1 : w4.frozen? ⟨w.heap.size + 1, 1, none⟩ = false := (hst4.frozen (p := ⟨w.heap.size + 1, 1, none⟩) sz3_z).trans fz3_z_1
        have sz4_x : w1.heap.size < w4.heap.size := Nat.lt_of_lt_of_le sz3_x hst4.size
        have bx4_x_0 : w4.cell? ⟨w1.heap.size, 0, none⟩ = some (.int .i64 r.fN) := (hst4.cell (p := ⟨w1.heap.size, 0, none⟩) sz3_x).trans bx3_x_0
        have bx4_x_1 : w4.cell? ⟨w1.heap.size, 1, none⟩ = some (.slice a1 r.fRows.length c1) := (hst4.cell (p := ⟨w1.heap.size, 1, none⟩) sz3_x).trans bx3_x_1
        have HG4 := Lib.hid ((hst4.block (w.heap.size + 1) sz3_z).trans HG3.out)
        have HO4 := Lib.hid (HO3.out.kept (Kept.of_below_all hst4))
        have HB4 := Lib.hid (HB3.out.trans (hst4.mono HB3.out.size))
        have hr4 : w3.heap.size ≤ w4.heap.size := hst4.size
        clear hb4 hst4 bx3_r_0 bx3_r_1 sz3_r bx3_z_0 bx3_z_1 sz3_z fz3_z_0 fz3_z_1 bx3_x_0 bx3_x_1 sz3_x
        go_wp2
        refine bodyPost_ret (v := .agg #[.int .i64 r.fN, .slice a1 r.fRows.length c1]) (results_cell_row Tryz.results26 _ _ (w.heap.size + 1) 35 #[.int .i64 r.fN, .slice a1 r.fRows.length c1] (0, 0) _ rfl (by refine Eq.trans (blk_set (cs := #[.int .i64 r.fN, .slice none 0 0]) (t := 35) (fr := (0, 0)) ?_) rfl; refine Eq.trans (blk_set (cs := #[.int .i64 0, .slice none 0 0]) (t := 35) (fr := (0, 0)) ?_) rfl; repeat (first | (with_reducible exact HG4.out) | (refine blk_other (by dsimp only; omega) ?_))) Tryz.underlying35 rfl rfl) rfl ?_
        rw [fin.out]
        refine ⟨a1, c1, rfl, ?_, ?_⟩
        · refine Own.sub (F := fun y => w.heap.size + 2 ≤ y ∧ y < w1.heap.size) (HO4.out.kept ?_) (fun y hy => ⟨Nat.le_trans (by omega) hy.1, Nat.lt_of_lt_of_le hy.2 (by first | (simp; done) | (simp; omega))⟩)
          repeat (first | (with_reducible exact Kept.refl) | (refine Kept.put ?_ (by intro h; have h1 := h.1; dsimp only at h1; omega)))
        · repeat (first | (with_reducible exact HB4.out) | (with_reducible apply Below.drew) | (with_reducible refine below_drewN ?_ _) | (refine Below.setCell ?_ (by simp <;> omega) _) | (refine Below.alloc ?_ (by simp <;> omega) _))
      | true =>
        have HK := Lib.hid (fun w => spec_l1In_b k 0 (r.fN - 1) true hk1 w)
        obtain ⟨i, rfl, hi2⟩ := inR_nat hi1
        obtain ⟨k, rfl, hk2⟩ := inR_nat hk1
        have fin := Lib.hid (addPair_yes HV.out hi1 hk1)
        clear hi1 hk1
        have hil : i < r.fRows.length := by
          obtain ⟨n, h1, h2, h3, _⟩ := HP.out
          omega
        have hk16 : k ≤ 16 := by omega
        obtain ⟨q, hq⟩ : ∃ q : Int, (2 : Int) ^ k = q := ⟨_, rfl⟩
        have hq1 := pow_in hk16
        rw [hq] at hq1
        have hlow : 1 ≤ q := hq1.1
        have hhigh : q ≤ 65536 := hq1.2
        have hw1 : wrap64 q = q := IntWalk.wrap64_in _ ⟨by omega, by omega⟩
        have HQ := Lib.hid hq
        clear hq1
        go_enter Tryz.func26, Tryz.ntmps26
        go_wp2_with fail
        refine (spec_copy (c0 := c0_0) r HL.out _ (Nat.le_trans HH.out HB0.out.size) (HS.out.later (HB0.out) HH.out)).mono ?_
        rintro e w1 ⟨a1, c1, rfl, ho1, hb1⟩
        have hst1 : Below (w.heap.size + 2) ((w.alloc (.cells #[.int .i64 r.fN, .slice a0 r.fRows.length c0_0] 35)).alloc (.cells #[.int .i64 0, .slice none 0 0] 35)) w1 := hb1.mono (by simp)
        have sz1_r : w.heap.size < w1.heap.size := Nat.lt_of_lt_of_le (by show w.heap.size < w.heap.size + 2; omega) (Nat.le_trans (by simp) hst1.size)
        have bx1_r_0 : w1.cell? ⟨w.heap.size, 0, none⟩ = some (.int .i64 r.fN) := (hst1.cell (p := ⟨w.heap.size, 0, none⟩) (by show w.heap.size < w.heap.size + 2; omega)).trans (by go_simp)
        have bx1_r_1 : w1.cell? ⟨w.heap.size, 1, none⟩ = some (.slice a0 r.fRows.length c0_0) := (hst1.cell (p := ⟨w.heap.size, 1, none⟩) (by show w.heap.size < w.heap.size + 2; omega)).trans (by go_simp)
        have sz1_z : w.heap.size + 1 < w1.heap.size := Nat.lt_of_lt_of_le (by show w.heap.size + 1 < w.heap.size + 2; omega) (Nat.le_trans (by simp) hst1.size)
        have bx1_z_0 : w1.cell? ⟨w.heap.size + 1, 0, none⟩ = some (.int .i64 0) := (hst1.cell (p := ⟨w.heap.size + 1, 0, none⟩) (by show w.heap.size + 1 < w.heap.size + 2; omega)).trans (by go_simp)
        have fz1_z_0 : w1.frozen? ⟨w.heap.size + 1, 0, none⟩ = false := (hst1.frozen (p := ⟨w.heap.size + 1, 0, none⟩) (by show w.heap.size + 1 < w.heap.size + 2; omega)).trans (by go_simp)
        have bx1_z_1 : w1.cell? ⟨w.heap.size + 1, 1, none⟩ = some (.slice none 0 0) := (hst1.cell (p := ⟨w.heap.size + 1, 1, none⟩) (by show w.heap.size + 1 < w.heap.size + 2; omega)).trans (by go_simp)
        have fz1_z_1 : w1.frozen? ⟨w.heap.size + 1, 1, none⟩ = false := (hst1.frozen (p := ⟨w.heap.size + 1, 1, none⟩) (by show w.heap.size + 1 < w.heap.size + 2; omega)).trans (by go_simp)
        have HG1 := Lib.hid ((hst1.block (w.heap.size + 1) (by omega)).trans HG0.out)
        have HO1 := Lib.hid (ho1.sub (F' := fun y => w.heap.size + 2 ≤ y ∧ y < w1.heap.size) (fun y hy => ⟨Nat.le_trans (by simp) hy.1, hy.2⟩))
        clear ho1
        have HB1 := Lib.hid (HB0.out.trans (hb1.mono HB0.out.size))
        clear hb1 hst1
        go_wp2_with fail
        refine (spec_relValid (c0 := c0_0) r HL.out true HV.out _ (Nat.le_trans HH.out (Nat.le_trans HB1.out.size (Below.size (by repeat (first | (with_reducible exact Below.refl _ _) | (with_reducible apply Below.drew) | (with_reducible refine below_drewN ?_ _) | (refine Below.setCell ?_ (by simp <;> omega) _) | (refine Below.alloc ?_ (by simp <;> omega) _)) : Below w1.heap.size w1 _)))) (HS.out.later (HB1.out.trans ((by repeat (first | (with_reducible exact Below.refl _ _) | (with_reducible apply Below.drew) | (with_reducible refine below_drewN ?_ _) | (refine Below.setCell ?_ (by simp <;> omega) _) | (refine Below.alloc ?_ (by simp <;> omega) _)) : Below w1.heap.size w1 _).mono HB1.out.size)) HH.out)).mono ?_
        rintro e w2 ⟨rfl, hb2⟩
        have hst2 : Below w1.heap.size w1 w2 := Below.trans (by repeat (first | (with_reducible exact Below.refl _ _) | (with_reducible apply Below.drew) | (with_reducible refine below_drewN ?_ _) | (refine Below.setCell ?_ (by simp <;> omega) _) | (refine Below.alloc ?_ (by simp <;> omega) _)) : Below w1.heap.size w1 _) (hb2.mono (Below.size (by repeat (first | (with_reducible exact Below.refl _ _) | (with_reducible apply Below.drew) | (with_reducible refine below_drewN ?_ _) | (refine Below.setCell ?_ (by simp <;> omega) _) | (refine Below.alloc ?_ (by simp <;> omega) _)) : Below w1.heap.size w1 _)))
        have sz2_r : w.heap.size < w2.heap.size := Nat.lt_of_lt_of_le sz1_r hst2.size
        have bx2_r_0 : w2.cell? ⟨w.heap.size, 0, none⟩ = some (.int .i64 r.fN) := (hst2.cell (p := ⟨w.heap.size, 0, none⟩) sz1_r).trans bx1_r_0
        have bx2_r_1 : w2.cell? ⟨w.heap.size, 1, none⟩ = some (.slice a0 r.fRows.length c0_0) := (hst2.cell (p := ⟨w.heap.size, 1, none⟩) sz1_r).trans bx1_r_1
        have sz2_z : w.heap.size + 1 < w2.heap.size := Nat.lt_of_lt_of_le sz1_z hst2.size
        have bx2_z_0 : w2.cell? ⟨w.heap.size + 1, 0, none⟩ = some (.int .i64 0) := (hst2.cell (p := ⟨w.heap.size + 1, 0, none⟩) sz1_z).trans bx1_z_0
        have fz2_z_0 : w2.frozen? ⟨w.heap.size + 1, 0, none⟩ = false := (hst2.frozen (p := ⟨w.heap.size + 1, 0, none⟩) sz1_z).trans fz1_z_0
        have bx2_z_1 : w2.cell? ⟨w.heap.size + 1, 1, none⟩ = some (.slice none 0 0) := (hst2.cell (p := ⟨w.heap.size + 1, 1, none⟩) sz1_z).trans bx1_z_1
        have fz2_z_1 : w2.frozen? ⟨w.heap.size + 1, 1, none⟩ = false := (hst2.frozen (p := ⟨w.heap.size + 1, 1, none⟩) sz1_z).trans fz1_z_1
        have sz2_x : w1.heap.size < w2.heap.size := Nat.lt_of_lt_of_le (by first | omega | (simp; done) | (simp; omega) | (simp [World.setCell]; omega)) hb2.size
        have bx2_x_0 : w2.cell? ⟨w1.heap.size, 0, none⟩ = some (.int .i64 r.fN) := (hb2.cell (p := ⟨w1.heap.size, 0, none⟩) (by first | omega | (simp; done) | (simp; omega) | (simp [World.setCell]; omega))).trans (by go_simp)
        have bx2_x_1 : w2.cell? ⟨w1.heap.size, 1, none⟩ = some (.slice a1 r.fRows.length c1) := (hb2.cell (p := ⟨w1.heap.size, 1, none⟩) (by first | omega | (simp; done) | (simp; omega) | (simp [World.setCell]; omega))).trans (by go_simp)
        have HG2 := Lib.hid ((hst2.block (w.heap.size + 1) sz1_z).trans HG1.out)
        have HO2 := Lib.hid (HO1.out.kept (Kept.of_below_all hst2))
        have HB2 := Lib.hid (HB1.out.trans (hst2.mono HB1.out.size))
        have hr2 : w1.heap.size ≤ w2.heap.size := hst2.size
        clear hb2 hst2 bx1_r_0 bx1_r_1 sz1_r bx1_z_0 bx1_z_1 sz1_z fz1_z_0 fz1_z_1
        go_wp2_with fail
        refine (HI.out _).mono ?_
        rintro e w3 ⟨rfl, hb3⟩
        have hst3 : Below w2.heap.size w2 w3 := Below.trans (by repeat (first | (with_reducible exact Below.refl _ _) | (with_reducible apply Below.drew) | (with_reducible refine below_drewN ?_ _) | (refine Below.setCell ?_ (by simp <;> omega) _) | (refine Below.alloc ?_ (by simp <;> omega) _)) : Below w2.heap.size w2 _) (hb3.mono (Below.size (by repeat (first | (with_reducible exact Below.refl _ _) | (with_reducible apply Below.drew) | (with_reducible refine below_drewN ?_ _) | (refine Below.setCell ?_ (by simp <;> omega) _) | (refine Below.alloc ?_ (by simp <;> omega) _)) : Below w2.heap.size w2 _)))
        have sz3_r : w.heap.size < w3.heap.size := Nat.lt_of_lt_of_le sz2_r hst3.size
        have bx3_r_0 : w3.cell? ⟨w.heap.size, 0, none⟩ = some (.int .i64 r.fN) := (hst3.cell (p := ⟨w.heap.size, 0, none⟩) sz2_r).trans bx2_r_0
        have bx3_r_1 : w3.cell? ⟨w.heap.size, 1, none⟩ = some (.slice a0 r.fRows.length c0_0) := (hst3.cell (p := ⟨w.heap.size, 1, none⟩) sz2_r).trans bx2_r_1
        have sz3_z : w.heap.size + 1 < w3.heap.size := Nat.lt_of_lt_of_le sz2_z hst3.size
        have bx3_z_0 : w3.cell? ⟨w.heap.size + 1, 0, none⟩ = some (.int .i64 0) := (hst3.cell (p := ⟨w.heap.size + 1, 0, none⟩) sz2_z).trans bx2_z_0
        have fz3_z_0 : w3.frozen? ⟨w.heap.size + 1, 0, none⟩ = false := (hst3.frozen (p := ⟨w.heap.size + 1, 0, none⟩) sz2_z).trans fz2_z_0
        have bx3_z_1 : w3.cell? ⟨w.heap.size + 1, 1, none⟩ = some (.slice none 0 0) := (hst3.cell (p := ⟨w.heap.size + 1, 1, none⟩) sz2_z).trans bx2_z_1
        have fz3_z_1 : w3.frozen? ⟨w.heap.size + 1, 1, none⟩ = false := (hst3.frozen (p := ⟨w.heap.size + 1, 1, none⟩) sz2_z).trans fz2_z_1
        have sz3_x : w1.heap.size < w3.heap.size := Nat.lt_of_lt_of_le sz2_x hst3.size
        have bx3_x_0 : w3.cell? ⟨w1.heap.size, 0, none⟩ = some (.int .i64 r.fN) := (hst3.cell (p := ⟨w1.heap.size, 0, none⟩) sz2_x).trans bx2_x_0
        have bx3_x_1 : w3.cell? ⟨w1.heap.size, 1, none⟩ = some (.slice a1 r.fRows.length c1) := (hst3.cell (p := ⟨w1.heap.size, 1, none⟩) sz2_x).trans bx2_x_1
        have HG3 := Lib.hid ((hst3.block (w.heap.size + 1) sz2_z).trans HG2.out)
        have HO3 := Lib.hid (HO2.out.kept (Kept.of_below_all hst3))
        have HB3 := Lib.hid (HB2.out.trans (hst3.mono HB2.out.size))
        have hr3 : w2.heap.size ≤ w3.heap.size := hst3.size
        clear hb3 hst3 bx2_r_0 bx2_r_1 sz2_r bx2_z_0 bx2_z_1 sz2_z fz2_z_0 fz2_z_1 bx2_x_0 bx2_x_1 sz2_x
        go_wp2_with fail
        refine (HK.out _).mono ?_
        rintro e w4 ⟨rfl, hb4⟩
        have hst4 : Below w3.heap.size w3 w4 := Below.trans (by repeat (first | (with_reducible exact Below.refl _ _) | (with_reducible apply Below.drew) | (with_reducible refine below_drewN ?_ _) | (refine Below.setCell ?_ (by simp <;> omega) _) | (refine Below.alloc ?_ (by simp <;> omega) _)) : Below w3.heap.size w3 _) (hb4.mono (Below.size (by repeat (first | (with_reducible exact Below.refl _ _) | (with_reducible apply Below.drew) | (with_reducible refine below_drewN ?_ _) | (refine Below.setCell ?_ (by simp <;> omega) _) | (refine Below.alloc ?_ (by simp <;> omega) _)) : Below w3.heap.size w3 _)))
        have sz4_r : w.heap.size < w4.heap.size := Nat.lt_of_lt_of_le sz3_r hst4.size
        have bx4_r_0 : w4.cell? ⟨w.heap.size, 0, none⟩ = some (.int .i64 r.fN) := (hst4.cell (p := ⟨w.heap.size, 0, none⟩) sz3_r).trans bx3_r_0
        have bx4_r_1 : w4.cell? ⟨w.heap.size, 1, none⟩ = some (.slice a0 r.fRows.length c0_0) := (hst4.cell (p := ⟨w.heap.size, 1, none⟩) sz3_r).trans bx3_r_1
        have sz4_z : w.heap.size + 1 < w4.heap.size := Nat.lt_of_lt_of_le sz3_z hst4.size
        have bx4_z_0 : w4.cell? ⟨w.heap.size + 1, 0, none⟩ = some (.int .i64 0) := (hst4.cell (p := ⟨w.heap.size + 1, 0, none⟩) sz3_z).trans bx3_z_0
        have fz4_z_0 : w4.frozen? ⟨w.heap.size + 1, 0, none⟩ = false := (hst4.frozen (p := ⟨w.heap.size + 1, 0, none⟩) sz3_z).trans fz3_z_0
        have bx4_z_1 : w4.cell? ⟨w.heap.size + 1, 1, none⟩ = some (.slice none 0 0) := (hst4.cell (p := ⟨w.heap.size + 1, 1, none⟩) sz3_z).trans bx3_z_1
        have fz4_z_1 : w4.frozen? ⟨w.heap.size + 1, 1, none⟩ = false := (hst4.frozen (p := ⟨w.heap.size + 1, 1, none⟩) sz3_z).trans fz3_z_1
        have sz4_x : w1.heap.size < w4.heap.size := Nat.lt_of_lt_of_le sz3_x hst4.size
        have bx4_x_0 : w4.cell? ⟨w1.heap.size, 0, none⟩ = some (.int .i64 r.fN) := (hst4.cell (p := ⟨w1.heap.size, 0, none⟩) sz3_x).trans bx3_x_0
        have bx4_x_1 : w4.cell? ⟨w1.heap.size, 1, none⟩ = some (.slice a1 r.fRows.length c1) := (hst4.cell (p := ⟨w1.heap.size, 1, none⟩) sz3_x).trans bx3_x_1
        have HG4 := Lib.hid ((hst4.block (w.heap.size + 1) sz3_z).trans HG3.out)
        have HO4 := Lib.hid (HO3.out.kept (Kept.of_below_all hst4))
        have HB4 := Lib.hid (HB3.out.trans (hst4.mono HB3.out.size))
        have hr4 : w3.heap.size ≤ w4.heap.size := hst4.size
        clear hb4 hst4 bx3_r_0 bx3_r_1 sz3_r bx3_z_0 bx3_z_1 sz3_z fz3_z_0 fz3_z_1 bx3_x_0 bx3_x_1 sz3_x
        obtain ⟨b, off, rfl, hFb, hbl, hcs, hzs⟩ := own_at HO4.out i hil
        have HOB := HO4
        have hFb1 : w.heap.size + 2 ≤ b := hFb.1
        have hFb2 : b < w1.heap.size := hFb.2
        have hrow := hcs i hil
        have hrz := hzs (off + i)
        clear hFb hcs hzs
        generalize hrw : r.fRows.getD i default = row at hrow fin
        have HRW := Lib.hid hrw
        have HFIN := Lib.hid (show addPair r i k = ⟨r.fN, r.fRows.set i (bits BinOp.or IntKind.i64 row q)⟩ from fin.out.trans (by unfold orB; rw [HQ.out]))
        clear hrw
        go_wp2_with fail
        go_region
        all_goals
          go_wp2
          refine bodyPost_ret (v := .agg #[.int .i64 r.fN, .slice (some ⟨b, off, none⟩) r.fRows.length c1]) (results_cell_row Tryz.results26 _ _ (w.heap.size + 1) 35 #[.int .i64 r.fN, .slice (some ⟨b, off, none⟩) r.fRows.length c1] (0, 0) _ rfl (by refine Eq.trans (blk_set (cs := #[.int .i64 r.fN, .slice none 0 0]) (t := 35) (fr := (0, 0)) ?_) rfl; refine Eq.trans (blk_set (cs := #[.int .i64 0, .slice none 0 0]) (t := 35) (fr := (0, 0)) ?_) rfl; repeat (first | (with_reducible exact HG4.out) | (refine blk_other (by dsimp only; omega) ?_))) Tryz.underlying35 rfl rfl) rfl ?_
          rw [HFIN.out]
          refine ⟨some ⟨b, off, none⟩, c1, by simp, ?_, ?_⟩
          · refine Own.sub (F := fun y => w.heap.size + 2 ≤ y ∧ y < w1.heap.size) (Own.kept (own_set HOB.out i hil (bits BinOp.or IntKind.i64 row q)) ?_) (fun y hy => ⟨Nat.le_trans (by omega) hy.1, Nat.lt_of_lt_of_le hy.2 (by first | (simp; done) | (simp; omega))⟩)
            repeat (first | (with_reducible exact Kept.refl) | (with_reducible apply Kept.drew) | (with_reducible apply Kept.drewN) | (refine Kept.put ?_ (by intro h; have h1 := h.1; dsimp only at h1; omega)))
          · repeat (first | (with_reducible exact HB4.out) | (with_reducible apply Below.drew) | (with_reducible refine below_drewN ?_ _) | (refine Below.setCell ?_ (by simp <;> omega) _) | (refine Below.alloc ?_ (by simp <;> omega) _))

set_option maxHeartbeats 1600000 in
set_option maxRecDepth 100000 in
theorem impl_AddPair {lo hi c0_0 : Nat} {a0 : Option Addr} (r : DRelation) (hsz : r.sz ≤ 1048576) (i : Int) (k : Int) (w : World) (hhi : hi ≤ w.heap.size) (hs : Sl lo hi w 1 r.fRows.length (rowsI r.fRows) a0) :
    Calls Tryz.prog 37 #[.agg #[.int .i64 r.fN, .slice a0 r.fRows.length c0_0], .int .i64 i, .int .i64 k] w (RelOut (addPair r i k) w) := by
  have HL := Lib.hid (rel_len hsz)
  have HB0 := Lib.hid (((Below.refl w.heap.size w).alloc (Nat.le_refl _) (.cells #[.int .i64 r.fN, .slice a0 r.fRows.length c0_0] 35)).alloc (by simp) (.cells #[.int .i64 0, .slice none 0 0] 35))
  have HS := Lib.hid hs
  have HH := Lib.hid hhi
  have HG0 := Lib.hid (show ((w.alloc (.cells #[.int .i64 r.fN, .slice a0 r.fRows.length c0_0] 35)).alloc (.cells #[.int .i64 0, .slice none 0 0] 35)).heap[w.heap.size + 1]? = some (.cells #[.int .i64 0, .slice none 0 0] 35) from blk_new (by simp))
  clear hs hhi hsz
  cases hv : relB r with
  | false =>
    have HV := Lib.hid hv
    have fin := Lib.hid (addPair_no1 (i := i) (k := k) hv)
    clear hv
    go_enter Tryz.func37, Tryz.ntmps37
    go_wp2_with fail
    refine (impl_copyRelation (c0 := c0_0) r HL.out _ (Nat.le_trans HH.out HB0.out.size) (HS.out.later (HB0.out) HH.out)).mono ?_
    rintro e w1 ⟨a1, c1, rfl, ho1, hb1⟩
    have hst1 : Below (w.heap.size + 2) ((w.alloc (.cells #[.int .i64 r.fN, .slice a0 r.fRows.length c0_0] 35)).alloc (.cells #[.int .i64 0, .slice none 0 0] 35)) w1 := hb1.mono (by simp)
    have sz1_r : w.heap.size < w1.heap.size := Nat.lt_of_lt_of_le (by show w.heap.size < w.heap.size + 2; omega) (Nat.le_trans (by simp) hst1.size)
    have bx1_r_0 : w1.cell? ⟨w.heap.size, 0, none⟩ = some (.int .i64 r.fN) := (hst1.cell (p := ⟨w.heap.size, 0, none⟩) (by show w.heap.size < w.heap.size + 2; omega)).trans (by go_simp)
    have bx1_r_1 : w1.cell? ⟨w.heap.size, 1, none⟩ = some (.slice a0 r.fRows.length c0_0) := (hst1.cell (p := ⟨w.heap.size, 1, none⟩) (by show w.heap.size < w.heap.size + 2; omega)).trans (by go_simp)
    have sz1_z : w.heap.size + 1 < w1.heap.size := Nat.lt_of_lt_of_le (by show w.heap.size + 1 < w.heap.size + 2; omega) (Nat.le_trans (by simp) hst1.size)
    have bx1_z_0 : w1.cell? ⟨w.heap.size + 1, 0, none⟩ = some (.int .i64 0) := (hst1.cell (p := ⟨w.heap.size + 1, 0, none⟩) (by show w.heap.size + 1 < w.heap.size + 2; omega)).trans (by go_simp)
    have fz1_z_0 : w1.frozen? ⟨w.heap.size + 1, 0, none⟩ = false := (hst1.frozen (p := ⟨w.heap.size + 1, 0, none⟩) (by show w.heap.size + 1 < w.heap.size + 2; omega)).trans (by go_simp)
    have bx1_z_1 : w1.cell? ⟨w.heap.size + 1, 1, none⟩ = some (.slice none 0 0) := (hst1.cell (p := ⟨w.heap.size + 1, 1, none⟩) (by show w.heap.size + 1 < w.heap.size + 2; omega)).trans (by go_simp)
    have fz1_z_1 : w1.frozen? ⟨w.heap.size + 1, 1, none⟩ = false := (hst1.frozen (p := ⟨w.heap.size + 1, 1, none⟩) (by show w.heap.size + 1 < w.heap.size + 2; omega)).trans (by go_simp)
    have HG1 := Lib.hid ((hst1.block (w.heap.size + 1) (by omega)).trans HG0.out)
    have HO1 := Lib.hid (ho1.sub (F' := fun y => w.heap.size + 2 ≤ y ∧ y < w1.heap.size) (fun y hy => ⟨Nat.le_trans (by simp) hy.1, hy.2⟩))
    clear ho1
    have HB1 := Lib.hid (HB0.out.trans (hb1.mono HB0.out.size))
    clear hb1 hst1
    go_wp2_with fail
    refine (impl_relValid (c0 := c0_0) r HL.out false HV.out _ (Nat.le_trans HH.out (Nat.le_trans HB1.out.size (Below.size (by repeat (first | (with_reducible exact Below.refl _ _) | (with_reducible apply Below.drew) | (with_reducible refine below_drewN ?_ _) | (refine Below.setCell ?_ (by simp <;> omega) _) | (refine Below.alloc ?_ (by simp <;> omega) _)) : Below w1.heap.size w1 _)))) (HS.out.later (HB1.out.trans ((by repeat (first | (with_reducible exact Below.refl _ _) | (with_reducible apply Below.drew) | (with_reducible refine below_drewN ?_ _) | (refine Below.setCell ?_ (by simp <;> omega) _) | (refine Below.alloc ?_ (by simp <;> omega) _)) : Below w1.heap.size w1 _).mono HB1.out.size)) HH.out)).mono ?_
    rintro e w2 ⟨rfl, hb2⟩
    have hst2 : Below w1.heap.size w1 w2 := Below.trans (by repeat (first | (with_reducible exact Below.refl _ _) | (with_reducible apply Below.drew) | (with_reducible refine below_drewN ?_ _) | (refine Below.setCell ?_ (by simp <;> omega) _) | (refine Below.alloc ?_ (by simp <;> omega) _)) : Below w1.heap.size w1 _) (hb2.mono (Below.size (by repeat (first | (with_reducible exact Below.refl _ _) | (with_reducible apply Below.drew) | (with_reducible refine below_drewN ?_ _) | (refine Below.setCell ?_ (by simp <;> omega) _) | (refine Below.alloc ?_ (by simp <;> omega) _)) : Below w1.heap.size w1 _)))
    have sz2_r : w.heap.size < w2.heap.size := Nat.lt_of_lt_of_le sz1_r hst2.size
    have bx2_r_0 : w2.cell? ⟨w.heap.size, 0, none⟩ = some (.int .i64 r.fN) := (hst2.cell (p := ⟨w.heap.size, 0, none⟩) sz1_r).trans bx1_r_0
    have bx2_r_1 : w2.cell? ⟨w.heap.size, 1, none⟩ = some (.slice a0 r.fRows.length c0_0) := (hst2.cell (p := ⟨w.heap.size, 1, none⟩) sz1_r).trans bx1_r_1
    have sz2_z : w.heap.size + 1 < w2.heap.size := Nat.lt_of_lt_of_le sz1_z hst2.size
    have bx2_z_0 : w2.cell? ⟨w.heap.size + 1, 0, none⟩ = some (.int .i64 0) := (hst2.cell (p := ⟨w.heap.size + 1, 0, none⟩) sz1_z).trans bx1_z_0
    have fz2_z_0 : w2.frozen? ⟨w.heap.size + 1, 0, none⟩ = false := (hst2.frozen (p := ⟨w.heap.size + 1, 0, none⟩) sz1_z).trans fz1_z_0
    have bx2_z_1 : w2.cell? ⟨w.heap.size + 1, 1, none⟩ = some (.slice none 0 0) := (hst2.cell (p := ⟨w.heap.size + 1, 1, none⟩) sz1_z).trans bx1_z_1
    have fz2_z_1 : w2.frozen? ⟨w.heap.size + 1, 1, none⟩ = false := (hst2.frozen (p := ⟨w.heap.size + 1, 1, none⟩) sz1_z).trans fz1_z_1
    have sz2_x : w1.heap.size < w2.heap.size := Nat.lt_of_lt_of_le (by first | omega | (simp; done) | (simp; omega) | (simp [World.setCell]; omega)) hb2.size
    have bx2_x_0 : w2.cell? ⟨w1.heap.size, 0, none⟩ = some (.int .i64 r.fN) := (hb2.cell (p := ⟨w1.heap.size, 0, none⟩) (by first | omega | (simp; done) | (simp; omega) | (simp [World.setCell]; omega))).trans (by go_simp)
    have bx2_x_1 : w2.cell? ⟨w1.heap.size, 1, none⟩ = some (.slice a1 r.fRows.length c1) := (hb2.cell (p := ⟨w1.heap.size, 1, none⟩) (by first | omega | (simp; done) | (simp; omega) | (simp [World.setCell]; omega))).trans (by go_simp)
    have HG2 := Lib.hid ((hst2.block (w.heap.size + 1) sz1_z).trans HG1.out)
    have HO2 := Lib.hid (HO1.out.kept (Kept.of_below_all hst2))
    have HB2 := Lib.hid (HB1.out.trans (hst2.mono HB1.out.size))
    have hr2 : w1.heap.size ≤ w2.heap.size := hst2.size
    clear hb2 hst2 bx1_r_0 bx1_r_1 sz1_r bx1_z_0 bx1_z_1 sz1_z fz1_z_0 fz1_z_1
    go_wp2
    refine bodyPost_ret (v := .agg #[.int .i64 r.fN, .slice a1 r.fRows.length c1]) (results_cell_row Tryz.results37 _ _ (w.heap.size + 1) 35 #[.int .i64 r.fN, .slice a1 r.fRows.length c1] (0, 0) _ rfl (by refine Eq.trans (blk_set (cs := #[.int .i64 r.fN, .slice none 0 0]) (t := 35) (fr := (0, 0)) ?_) rfl; refine Eq.trans (blk_set (cs := #[.int .i64 0, .slice none 0 0]) (t := 35) (fr := (0, 0)) ?_) rfl; repeat (first | (with_reducible exact HG2.out) | (refine blk_other (by dsimp only; omega) ?_))) Tryz.underlying35 rfl rfl) rfl ?_
    rw [fin.out]
    refine ⟨a1, c1, rfl, ?_, ?_⟩
    · refine Own.sub (F := fun y => w.heap.size + 2 ≤ y ∧ y < w1.heap.size) (HO2.out.kept ?_) (fun y hy => ⟨Nat.le_trans (by omega) hy.1, Nat.lt_of_lt_of_le hy.2 (by first | (simp; done) | (simp; omega))⟩)
      repeat (first | (with_reducible exact Kept.refl) | (refine Kept.put ?_ (by intro h; have h1 := h.1; dsimp only at h1; omega)))
    · repeat (first | (with_reducible exact HB2.out) | (with_reducible apply Below.drew) | (with_reducible refine below_drewN ?_ _) | (refine Below.setCell ?_ (by simp <;> omega) _) | (refine Below.alloc ?_ (by simp <;> omega) _))
  | true =>
    have HV := Lib.hid hv
    have HP := Lib.hid (relB_parts hv)
    clear hv
    have hN1 : 0 ≤ r.fN ∧ r.fN ≤ 16 := by
      obtain ⟨n, h1, h2, _⟩ := HP.out
      rw [h2]; omega
    cases hi1 : inR i 0 (r.fN - 1) with
    | false =>
      have fin := Lib.hid (addPair_no2 (k := k) hi1)
      have HI := Lib.hid (fun w => impl_isNumber (a0 := a0) (c0_0 := c0_0) r i false hi1 w)
      clear hi1
      go_enter Tryz.func37, Tryz.ntmps37
      go_wp2_with fail
      refine (impl_copyRelation (c0 := c0_0) r HL.out _ (Nat.le_trans HH.out HB0.out.size) (HS.out.later (HB0.out) HH.out)).mono ?_
      rintro e w1 ⟨a1, c1, rfl, ho1, hb1⟩
      have hst1 : Below (w.heap.size + 2) ((w.alloc (.cells #[.int .i64 r.fN, .slice a0 r.fRows.length c0_0] 35)).alloc (.cells #[.int .i64 0, .slice none 0 0] 35)) w1 := hb1.mono (by simp)
      have sz1_r : w.heap.size < w1.heap.size := Nat.lt_of_lt_of_le (by show w.heap.size < w.heap.size + 2; omega) (Nat.le_trans (by simp) hst1.size)
      have bx1_r_0 : w1.cell? ⟨w.heap.size, 0, none⟩ = some (.int .i64 r.fN) := (hst1.cell (p := ⟨w.heap.size, 0, none⟩) (by show w.heap.size < w.heap.size + 2; omega)).trans (by go_simp)
      have bx1_r_1 : w1.cell? ⟨w.heap.size, 1, none⟩ = some (.slice a0 r.fRows.length c0_0) := (hst1.cell (p := ⟨w.heap.size, 1, none⟩) (by show w.heap.size < w.heap.size + 2; omega)).trans (by go_simp)
      have sz1_z : w.heap.size + 1 < w1.heap.size := Nat.lt_of_lt_of_le (by show w.heap.size + 1 < w.heap.size + 2; omega) (Nat.le_trans (by simp) hst1.size)
      have bx1_z_0 : w1.cell? ⟨w.heap.size + 1, 0, none⟩ = some (.int .i64 0) := (hst1.cell (p := ⟨w.heap.size + 1, 0, none⟩) (by show w.heap.size + 1 < w.heap.size + 2; omega)).trans (by go_simp)
      have fz1_z_0 : w1.frozen? ⟨w.heap.size + 1, 0, none⟩ = false := (hst1.frozen (p := ⟨w.heap.size + 1, 0, none⟩) (by show w.heap.size + 1 < w.heap.size + 2; omega)).trans (by go_simp)
      have bx1_z_1 : w1.cell? ⟨w.heap.size + 1, 1, none⟩ = some (.slice none 0 0) := (hst1.cell (p := ⟨w.heap.size + 1, 1, none⟩) (by show w.heap.size + 1 < w.heap.size + 2; omega)).trans (by go_simp)
      have fz1_z_1 : w1.frozen? ⟨w.heap.size + 1, 1, none⟩ = false := (hst1.frozen (p := ⟨w.heap.size + 1, 1, none⟩) (by show w.heap.size + 1 < w.heap.size + 2; omega)).trans (by go_simp)
      have HG1 := Lib.hid ((hst1.block (w.heap.size + 1) (by omega)).trans HG0.out)
      have HO1 := Lib.hid (ho1.sub (F' := fun y => w.heap.size + 2 ≤ y ∧ y < w1.heap.size) (fun y hy => ⟨Nat.le_trans (by simp) hy.1, hy.2⟩))
      clear ho1
      have HB1 := Lib.hid (HB0.out.trans (hb1.mono HB0.out.size))
      clear hb1 hst1
      go_wp2_with fail
      refine (impl_relValid (c0 := c0_0) r HL.out true HV.out _ (Nat.le_trans HH.out (Nat.le_trans HB1.out.size (Below.size (by repeat (first | (with_reducible exact Below.refl _ _) | (with_reducible apply Below.drew) | (with_reducible refine below_drewN ?_ _) | (refine Below.setCell ?_ (by simp <;> omega) _) | (refine Below.alloc ?_ (by simp <;> omega) _)) : Below w1.heap.size w1 _)))) (HS.out.later (HB1.out.trans ((by repeat (first | (with_reducible exact Below.refl _ _) | (with_reducible apply Below.drew) | (with_reducible refine below_drewN ?_ _) | (refine Below.setCell ?_ (by simp <;> omega) _) | (refine Below.alloc ?_ (by simp <;> omega) _)) : Below w1.heap.size w1 _).mono HB1.out.size)) HH.out)).mono ?_
      rintro e w2 ⟨rfl, hb2⟩
      have hst2 : Below w1.heap.size w1 w2 := Below.trans (by repeat (first | (with_reducible exact Below.refl _ _) | (with_reducible apply Below.drew) | (with_reducible refine below_drewN ?_ _) | (refine Below.setCell ?_ (by simp <;> omega) _) | (refine Below.alloc ?_ (by simp <;> omega) _)) : Below w1.heap.size w1 _) (hb2.mono (Below.size (by repeat (first | (with_reducible exact Below.refl _ _) | (with_reducible apply Below.drew) | (with_reducible refine below_drewN ?_ _) | (refine Below.setCell ?_ (by simp <;> omega) _) | (refine Below.alloc ?_ (by simp <;> omega) _)) : Below w1.heap.size w1 _)))
      have sz2_r : w.heap.size < w2.heap.size := Nat.lt_of_lt_of_le sz1_r hst2.size
      have bx2_r_0 : w2.cell? ⟨w.heap.size, 0, none⟩ = some (.int .i64 r.fN) := (hst2.cell (p := ⟨w.heap.size, 0, none⟩) sz1_r).trans bx1_r_0
      have bx2_r_1 : w2.cell? ⟨w.heap.size, 1, none⟩ = some (.slice a0 r.fRows.length c0_0) := (hst2.cell (p := ⟨w.heap.size, 1, none⟩) sz1_r).trans bx1_r_1
      have sz2_z : w.heap.size + 1 < w2.heap.size := Nat.lt_of_lt_of_le sz1_z hst2.size
      have bx2_z_0 : w2.cell? ⟨w.heap.size + 1, 0, none⟩ = some (.int .i64 0) := (hst2.cell (p := ⟨w.heap.size + 1, 0, none⟩) sz1_z).trans bx1_z_0
      have fz2_z_0 : w2.frozen? ⟨w.heap.size + 1, 0, none⟩ = false := (hst2.frozen (p := ⟨w.heap.size + 1, 0, none⟩) sz1_z).trans fz1_z_0
      have bx2_z_1 : w2.cell? ⟨w.heap.size + 1, 1, none⟩ = some (.slice none 0 0) := (hst2.cell (p := ⟨w.heap.size + 1, 1, none⟩) sz1_z).trans bx1_z_1
      have fz2_z_1 : w2.frozen? ⟨w.heap.size + 1, 1, none⟩ = false := (hst2.frozen (p := ⟨w.heap.size + 1, 1, none⟩) sz1_z).trans fz1_z_1
      have sz2_x : w1.heap.size < w2.heap.size := Nat.lt_of_lt_of_le (by first | omega | (simp; done) | (simp; omega) | (simp [World.setCell]; omega)) hb2.size
      have bx2_x_0 : w2.cell? ⟨w1.heap.size, 0, none⟩ = some (.int .i64 r.fN) := (hb2.cell (p := ⟨w1.heap.size, 0, none⟩) (by first | omega | (simp; done) | (simp; omega) | (simp [World.setCell]; omega))).trans (by go_simp)
      have bx2_x_1 : w2.cell? ⟨w1.heap.size, 1, none⟩ = some (.slice a1 r.fRows.length c1) := (hb2.cell (p := ⟨w1.heap.size, 1, none⟩) (by first | omega | (simp; done) | (simp; omega) | (simp [World.setCell]; omega))).trans (by go_simp)
      have HG2 := Lib.hid ((hst2.block (w.heap.size + 1) sz1_z).trans HG1.out)
      have HO2 := Lib.hid (HO1.out.kept (Kept.of_below_all hst2))
      have HB2 := Lib.hid (HB1.out.trans (hst2.mono HB1.out.size))
      have hr2 : w1.heap.size ≤ w2.heap.size := hst2.size
      clear hb2 hst2 bx1_r_0 bx1_r_1 sz1_r bx1_z_0 bx1_z_1 sz1_z fz1_z_0 fz1_z_1
      go_wp2_with fail
      refine (HI.out _).mono ?_
      rintro e w3 ⟨rfl, hb3⟩
      have hst3 : Below w2.heap.size w2 w3 := Below.trans (by repeat (first | (with_reducible exact Below.refl _ _) | (with_reducible apply Below.drew) | (with_reducible refine below_drewN ?_ _) | (refine Below.setCell ?_ (by simp <;> omega) _) | (refine Below.alloc ?_ (by simp <;> omega) _)) : Below w2.heap.size w2 _) (hb3.mono (Below.size (by repeat (first | (with_reducible exact Below.refl _ _) | (with_reducible apply Below.drew) | (with_reducible refine below_drewN ?_ _) | (refine Below.setCell ?_ (by simp <;> omega) _) | (refine Below.alloc ?_ (by simp <;> omega) _)) : Below w2.heap.size w2 _)))
      have sz3_r : w.heap.size < w3.heap.size := Nat.lt_of_lt_of_le sz2_r hst3.size
      have bx3_r_0 : w3.cell? ⟨w.heap.size, 0, none⟩ = some (.int .i64 r.fN) := (hst3.cell (p := ⟨w.heap.size, 0, none⟩) sz2_r).trans bx2_r_0
      have bx3_r_1 : w3.cell? ⟨w.heap.size, 1, none⟩ = some (.slice a0 r.fRows.length c0_0) := (hst3.cell (p := ⟨w.heap.size, 1, none⟩) sz2_r).trans bx2_r_1
      have sz3_z : w.heap.size + 1 < w3.heap.size := Nat.lt_of_lt_of_le sz2_z hst3.size
      have bx3_z_0 : w3.cell? ⟨w.heap.size + 1, 0, none⟩ = some (.int .i64 0) := (hst3.cell (p := ⟨w.heap.size + 1, 0, none⟩) sz2_z).trans bx2_z_0
      have fz3_z_0 : w3.frozen? ⟨w.heap.size + 1, 0, none⟩ = false := (hst3.frozen (p := ⟨w.heap.size + 1, 0, none⟩) sz2_z).trans fz2_z_0
      have bx3_z_1 : w3.cell? ⟨w.heap.size + 1, 1, none⟩ = some (.slice none 0 0) := (hst3.cell (p := ⟨w.heap.size + 1, 1, none⟩) sz2_z).trans bx2_z_1
      have fz3_z_1 : w3.frozen? ⟨w.heap.size + 1, 1, none⟩ = false := (hst3.frozen (p := ⟨w.heap.size + 1, 1, none⟩) sz2_z).trans fz2_z_1
      have sz3_x : w1.heap.size < w3.heap.size := Nat.lt_of_lt_of_le sz2_x hst3.size
      have bx3_x_0 : w3.cell? ⟨w1.heap.size, 0, none⟩ = some (.int .i64 r.fN) := (hst3.cell (p := ⟨w1.heap.size, 0, none⟩) sz2_x).trans bx2_x_0
      have bx3_x_1 : w3.cell? ⟨w1.heap.size, 1, none⟩ = some (.slice a1 r.fRows.length c1) := (hst3.cell (p := ⟨w1.heap.size, 1, none⟩) sz2_x).trans bx2_x_1
      have HG3 := Lib.hid ((hst3.block (w.heap.size + 1) sz2_z).trans HG2.out)
      have HO3 := Lib.hid (HO2.out.kept (Kept.of_below_all hst3))
      have HB3 := Lib.hid (HB2.out.trans (hst3.mono HB2.out.size))
      have hr3 : w2.heap.size ≤ w3.heap.size := hst3.size
      clear hb3 hst3 bx2_r_0 bx2_r_1 sz2_r bx2_z_0 bx2_z_1 sz2_z fz2_z_0 fz2_z_1 bx2_x_0 bx2_x_1 sz2_x
      go_wp2
      refine bodyPost_ret (v := .agg #[.int .i64 r.fN, .slice a1 r.fRows.length c1]) (results_cell_row Tryz.results37 _ _ (w.heap.size + 1) 35 #[.int .i64 r.fN, .slice a1 r.fRows.length c1] (0, 0) _ rfl (by refine Eq.trans (blk_set (cs := #[.int .i64 r.fN, .slice none 0 0]) (t := 35) (fr := (0, 0)) ?_) rfl; refine Eq.trans (blk_set (cs := #[.int .i64 0, .slice none 0 0]) (t := 35) (fr := (0, 0)) ?_) rfl; repeat (first | (with_reducible exact HG3.out) | (refine blk_other (by dsimp only; omega) ?_))) Tryz.underlying35 rfl rfl) rfl ?_
      rw [fin.out]
      refine ⟨a1, c1, rfl, ?_, ?_⟩
      · refine Own.sub (F := fun y => w.heap.size + 2 ≤ y ∧ y < w1.heap.size) (HO3.out.kept ?_) (fun y hy => ⟨Nat.le_trans (by omega) hy.1, Nat.lt_of_lt_of_le hy.2 (by first | (simp; done) | (simp; omega))⟩)
        repeat (first | (with_reducible exact Kept.refl) | (refine Kept.put ?_ (by intro h; have h1 := h.1; dsimp only at h1; omega)))
      · repeat (first | (with_reducible exact HB3.out) | (with_reducible apply Below.drew) | (with_reducible refine below_drewN ?_ _) | (refine Below.setCell ?_ (by simp <;> omega) _) | (refine Below.alloc ?_ (by simp <;> omega) _))
    | true =>
      have HI := Lib.hid (fun w => impl_isNumber (a0 := a0) (c0_0 := c0_0) r i true hi1 w)
      cases hk1 : inR k 0 (r.fN - 1) with
      | false =>
        have fin := Lib.hid (addPair_no3 (i := i) hk1)
        have HK := Lib.hid (fun w => impl_isNumber (a0 := a0) (c0_0 := c0_0) r k false hk1 w)
        clear hi1 hk1
        go_enter Tryz.func37, Tryz.ntmps37
        go_wp2_with fail
        refine (impl_copyRelation (c0 := c0_0) r HL.out _ (Nat.le_trans HH.out HB0.out.size) (HS.out.later (HB0.out) HH.out)).mono ?_
        rintro e w1 ⟨a1, c1, rfl, ho1, hb1⟩
        have hst1 : Below (w.heap.size + 2) ((w.alloc (.cells #[.int .i64 r.fN, .slice a0 r.fRows.length c0_0] 35)).alloc (.cells #[.int .i64 0, .slice none 0 0] 35)) w1 := hb1.mono (by simp)
        have sz1_r : w.heap.size < w1.heap.size := Nat.lt_of_lt_of_le (by show w.heap.size < w.heap.size + 2; omega) (Nat.le_trans (by simp) hst1.size)
        have bx1_r_0 : w1.cell? ⟨w.heap.size, 0, none⟩ = some (.int .i64 r.fN) := (hst1.cell (p := ⟨w.heap.size, 0, none⟩) (by show w.heap.size < w.heap.size + 2; omega)).trans (by go_simp)
        have bx1_r_1 : w1.cell? ⟨w.heap.size, 1, none⟩ = some (.slice a0 r.fRows.length c0_0) := (hst1.cell (p := ⟨w.heap.size, 1, none⟩) (by show w.heap.size < w.heap.size + 2; omega)).trans (by go_simp)
        have sz1_z : w.heap.size + 1 < w1.heap.size := Nat.lt_of_lt_of_le (by show w.heap.size + 1 < w.heap.size + 2; omega) (Nat.le_trans (by simp) hst1.size)
        have bx1_z_0 : w1.cell? ⟨w.heap.size + 1, 0, none⟩ = some (.int .i64 0) := (hst1.cell (p := ⟨w.heap.size + 1, 0, none⟩) (by show w.heap.size + 1 < w.heap.size + 2; omega)).trans (by go_simp)
        have fz1_z_0 : w1.frozen? ⟨w.heap.size + 1, 0, none⟩ = false := (hst1.frozen (p := ⟨w.heap.size + 1, 0, none⟩) (by show w.heap.size + 1 < w.heap.size + 2; omega)).trans (by go_simp)
        have bx1_z_1 : w1.cell? ⟨w.heap.size + 1, 1, none⟩ = some (.slice none 0 0) := (hst1.cell (p := ⟨w.heap.size + 1, 1, none⟩) (by show w.heap.size + 1 < w.heap.size + 2; omega)).trans (by go_simp)
        have fz1_z_1 : w1.frozen? ⟨w.heap.size + 1, 1, none⟩ = false := (hst1.frozen (p := ⟨w.heap.size + 1, 1, none⟩) (by show w.heap.size + 1 < w.heap.size + 2; omega)).trans (by go_simp)
        have HG1 := Lib.hid ((hst1.block (w.heap.size + 1) (by omega)).trans HG0.out)
        have HO1 := Lib.hid (ho1.sub (F' := fun y => w.heap.size + 2 ≤ y ∧ y < w1.heap.size) (fun y hy => ⟨Nat.le_trans (by simp) hy.1, hy.2⟩))
        clear ho1
        have HB1 := Lib.hid (HB0.out.trans (hb1.mono HB0.out.size))
        clear hb1 hst1
        go_wp2_with fail
        refine (impl_relValid (c0 := c0_0) r HL.out true HV.out _ (Nat.le_trans HH.out (Nat.le_trans HB1.out.size (Below.size (by repeat (first | (with_reducible exact Below.refl _ _) | (with_reducible apply Below.drew) | (with_reducible refine below_drewN ?_ _) | (refine Below.setCell ?_ (by simp <;> omega) _) | (refine Below.alloc ?_ (by simp <;> omega) _)) : Below w1.heap.size w1 _)))) (HS.out.later (HB1.out.trans ((by repeat (first | (with_reducible exact Below.refl _ _) | (with_reducible apply Below.drew) | (with_reducible refine below_drewN ?_ _) | (refine Below.setCell ?_ (by simp <;> omega) _) | (refine Below.alloc ?_ (by simp <;> omega) _)) : Below w1.heap.size w1 _).mono HB1.out.size)) HH.out)).mono ?_
        rintro e w2 ⟨rfl, hb2⟩
        have hst2 : Below w1.heap.size w1 w2 := Below.trans (by repeat (first | (with_reducible exact Below.refl _ _) | (with_reducible apply Below.drew) | (with_reducible refine below_drewN ?_ _) | (refine Below.setCell ?_ (by simp <;> omega) _) | (refine Below.alloc ?_ (by simp <;> omega) _)) : Below w1.heap.size w1 _) (hb2.mono (Below.size (by repeat (first | (with_reducible exact Below.refl _ _) | (with_reducible apply Below.drew) | (with_reducible refine below_drewN ?_ _) | (refine Below.setCell ?_ (by simp <;> omega) _) | (refine Below.alloc ?_ (by simp <;> omega) _)) : Below w1.heap.size w1 _)))
        have sz2_r : w.heap.size < w2.heap.size := Nat.lt_of_lt_of_le sz1_r hst2.size
        have bx2_r_0 : w2.cell? ⟨w.heap.size, 0, none⟩ = some (.int .i64 r.fN) := (hst2.cell (p := ⟨w.heap.size, 0, none⟩) sz1_r).trans bx1_r_0
        have bx2_r_1 : w2.cell? ⟨w.heap.size, 1, none⟩ = some (.slice a0 r.fRows.length c0_0) := (hst2.cell (p := ⟨w.heap.size, 1, none⟩) sz1_r).trans bx1_r_1
        have sz2_z : w.heap.size + 1 < w2.heap.size := Nat.lt_of_lt_of_le sz1_z hst2.size
        have bx2_z_0 : w2.cell? ⟨w.heap.size + 1, 0, none⟩ = some (.int .i64 0) := (hst2.cell (p := ⟨w.heap.size + 1, 0, none⟩) sz1_z).trans bx1_z_0
        have fz2_z_0 : w2.frozen? ⟨w.heap.size + 1, 0, none⟩ = false := (hst2.frozen (p := ⟨w.heap.size + 1, 0, none⟩) sz1_z).trans fz1_z_0
        have bx2_z_1 : w2.cell? ⟨w.heap.size + 1, 1, none⟩ = some (.slice none 0 0) := (hst2.cell (p := ⟨w.heap.size + 1, 1, none⟩) sz1_z).trans bx1_z_1
        have fz2_z_1 : w2.frozen? ⟨w.heap.size + 1, 1, none⟩ = false := (hst2.frozen (p := ⟨w.heap.size + 1, 1, none⟩) sz1_z).trans fz1_z_1
        have sz2_x : w1.heap.size < w2.heap.size := Nat.lt_of_lt_of_le (by first | omega | (simp; done) | (simp; omega) | (simp [World.setCell]; omega)) hb2.size
        have bx2_x_0 : w2.cell? ⟨w1.heap.size, 0, none⟩ = some (.int .i64 r.fN) := (hb2.cell (p := ⟨w1.heap.size, 0, none⟩) (by first | omega | (simp; done) | (simp; omega) | (simp [World.setCell]; omega))).trans (by go_simp)
        have bx2_x_1 : w2.cell? ⟨w1.heap.size, 1, none⟩ = some (.slice a1 r.fRows.length c1) := (hb2.cell (p := ⟨w1.heap.size, 1, none⟩) (by first | omega | (simp; done) | (simp; omega) | (simp [World.setCell]; omega))).trans (by go_simp)
        have HG2 := Lib.hid ((hst2.block (w.heap.size + 1) sz1_z).trans HG1.out)
        have HO2 := Lib.hid (HO1.out.kept (Kept.of_below_all hst2))
        have HB2 := Lib.hid (HB1.out.trans (hst2.mono HB1.out.size))
        have hr2 : w1.heap.size ≤ w2.heap.size := hst2.size
        clear hb2 hst2 bx1_r_0 bx1_r_1 sz1_r bx1_z_0 bx1_z_1 sz1_z fz1_z_0 fz1_z_1
        go_wp2_with fail
        refine (HI.out _).mono ?_
        rintro e w3 ⟨rfl, hb3⟩
        have hst3 : Below w2.heap.size w2 w3 := Below.trans (by repeat (first | (with_reducible exact Below.refl _ _) | (with_reducible apply Below.drew) | (with_reducible refine below_drewN ?_ _) | (refine Below.setCell ?_ (by simp <;> omega) _) | (refine Below.alloc ?_ (by simp <;> omega) _)) : Below w2.heap.size w2 _) (hb3.mono (Below.size (by repeat (first | (with_reducible exact Below.refl _ _) | (with_reducible apply Below.drew) | (with_reducible refine below_drewN ?_ _) | (refine Below.setCell ?_ (by simp <;> omega) _) | (refine Below.alloc ?_ (by simp <;> omega) _)) : Below w2.heap.size w2 _)))
        have sz3_r : w.heap.size < w3.heap.size := Nat.lt_of_lt_of_le sz2_r hst3.size
        have bx3_r_0 : w3.cell? ⟨w.heap.size, 0, none⟩ = some (.int .i64 r.fN) := (hst3.cell (p := ⟨w.heap.size, 0, none⟩) sz2_r).trans bx2_r_0
        have bx3_r_1 : w3.cell? ⟨w.heap.size, 1, none⟩ = some (.slice a0 r.fRows.length c0_0) := (hst3.cell (p := ⟨w.heap.size, 1, none⟩) sz2_r).trans bx2_r_1
        have sz3_z : w.heap.size + 1 < w3.heap.size := Nat.lt_of_lt_of_le sz2_z hst3.size
        have bx3_z_0 : w3.cell? ⟨w.heap.size + 1, 0, none⟩ = some (.int .i64 0) := (hst3.cell (p := ⟨w.heap.size + 1, 0, none⟩) sz2_z).trans bx2_z_0
        have fz3_z_0 : w3.frozen? ⟨w.heap.size + 1, 0, none⟩ = false := (hst3.frozen (p := ⟨w.heap.size + 1, 0, none⟩) sz2_z).trans fz2_z_0
        have bx3_z_1 : w3.cell? ⟨w.heap.size + 1, 1, none⟩ = some (.slice none 0 0) := (hst3.cell (p := ⟨w.heap.size + 1, 1, none⟩) sz2_z).trans bx2_z_1
        have fz3_z_1 : w3.frozen? ⟨w.heap.size + 1, 1, none⟩ = false := (hst3.frozen (p := ⟨w.heap.size + 1, 1, none⟩) sz2_z).trans fz2_z_1
        have sz3_x : w1.heap.size < w3.heap.size := Nat.lt_of_lt_of_le sz2_x hst3.size
        have bx3_x_0 : w3.cell? ⟨w1.heap.size, 0, none⟩ = some (.int .i64 r.fN) := (hst3.cell (p := ⟨w1.heap.size, 0, none⟩) sz2_x).trans bx2_x_0
        have bx3_x_1 : w3.cell? ⟨w1.heap.size, 1, none⟩ = some (.slice a1 r.fRows.length c1) := (hst3.cell (p := ⟨w1.heap.size, 1, none⟩) sz2_x).trans bx2_x_1
        have HG3 := Lib.hid ((hst3.block (w.heap.size + 1) sz2_z).trans HG2.out)
        have HO3 := Lib.hid (HO2.out.kept (Kept.of_below_all hst3))
        have HB3 := Lib.hid (HB2.out.trans (hst3.mono HB2.out.size))
        have hr3 : w2.heap.size ≤ w3.heap.size := hst3.size
        clear hb3 hst3 bx2_r_0 bx2_r_1 sz2_r bx2_z_0 bx2_z_1 sz2_z fz2_z_0 fz2_z_1 bx2_x_0 bx2_x_1 sz2_x
        go_wp2_with fail
        refine (HK.out _).mono ?_
        rintro e w4 ⟨rfl, hb4⟩
        have hst4 : Below w3.heap.size w3 w4 := Below.trans (by repeat (first | (with_reducible exact Below.refl _ _) | (with_reducible apply Below.drew) | (with_reducible refine below_drewN ?_ _) | (refine Below.setCell ?_ (by simp <;> omega) _) | (refine Below.alloc ?_ (by simp <;> omega) _)) : Below w3.heap.size w3 _) (hb4.mono (Below.size (by repeat (first | (with_reducible exact Below.refl _ _) | (with_reducible apply Below.drew) | (with_reducible refine below_drewN ?_ _) | (refine Below.setCell ?_ (by simp <;> omega) _) | (refine Below.alloc ?_ (by simp <;> omega) _)) : Below w3.heap.size w3 _)))
        have sz4_r : w.heap.size < w4.heap.size := Nat.lt_of_lt_of_le sz3_r hst4.size
        have bx4_r_0 : w4.cell? ⟨w.heap.size, 0, none⟩ = some (.int .i64 r.fN) := (hst4.cell (p := ⟨w.heap.size, 0, none⟩) sz3_r).trans bx3_r_0
        have bx4_r_1 : w4.cell? ⟨w.heap.size, 1, none⟩ = some (.slice a0 r.fRows.length c0_0) := (hst4.cell (p := ⟨w.heap.size, 1, none⟩) sz3_r).trans bx3_r_1
        have sz4_z : w.heap.size + 1 < w4.heap.size := Nat.lt_of_lt_of_le sz3_z hst4.size
        have bx4_z_0 : w4.cell? ⟨w.heap.size + 1, 0, none⟩ = some (.int .i64 0) := (hst4.cell (p := ⟨w.heap.size + 1, 0, none⟩) sz3_z).trans bx3_z_0
        have fz4_z_0 : w4.frozen? ⟨w.heap.size + 1, 0, none⟩ = false := (hst4.frozen (p := ⟨w.heap.size + 1, 0, none⟩) sz3_z).trans fz3_z_0
        have bx4_z_1 : w4.cell? ⟨w.heap.size + 1, 1, none⟩ = some (.slice none 0 0) := (hst4.cell (p := ⟨w.heap.size + 1, 1, none⟩) sz3_z).trans bx3_z_1
        have fz4_z_1 : w4.frozen? ⟨w.heap.size + 1, 1, none⟩ = false := (hst4.frozen (p := ⟨w.heap.size + 1, 1, none⟩) sz3_z).trans fz3_z_1
        have sz4_x : w1.heap.size < w4.heap.size := Nat.lt_of_lt_of_le sz3_x hst4.size
        have bx4_x_0 : w4.cell? ⟨w1.heap.size, 0, none⟩ = some (.int .i64 r.fN) := (hst4.cell (p := ⟨w1.heap.size, 0, none⟩) sz3_x).trans bx3_x_0
        have bx4_x_1 : w4.cell? ⟨w1.heap.size, 1, none⟩ = some (.slice a1 r.fRows.length c1) := (hst4.cell (p := ⟨w1.heap.size, 1, none⟩) sz3_x).trans bx3_x_1
        have HG4 := Lib.hid ((hst4.block (w.heap.size + 1) sz3_z).trans HG3.out)
        have HO4 := Lib.hid (HO3.out.kept (Kept.of_below_all hst4))
        have HB4 := Lib.hid (HB3.out.trans (hst4.mono HB3.out.size))
        have hr4 : w3.heap.size ≤ w4.heap.size := hst4.size
        clear hb4 hst4 bx3_r_0 bx3_r_1 sz3_r bx3_z_0 bx3_z_1 sz3_z fz3_z_0 fz3_z_1 bx3_x_0 bx3_x_1 sz3_x
        go_wp2
        refine bodyPost_ret (v := .agg #[.int .i64 r.fN, .slice a1 r.fRows.length c1]) (results_cell_row Tryz.results37 _ _ (w.heap.size + 1) 35 #[.int .i64 r.fN, .slice a1 r.fRows.length c1] (0, 0) _ rfl (by refine Eq.trans (blk_set (cs := #[.int .i64 r.fN, .slice none 0 0]) (t := 35) (fr := (0, 0)) ?_) rfl; refine Eq.trans (blk_set (cs := #[.int .i64 0, .slice none 0 0]) (t := 35) (fr := (0, 0)) ?_) rfl; repeat (first | (with_reducible exact HG4.out) | (refine blk_other (by dsimp only; omega) ?_))) Tryz.underlying35 rfl rfl) rfl ?_
        rw [fin.out]
        refine ⟨a1, c1, rfl, ?_, ?_⟩
        · refine Own.sub (F := fun y => w.heap.size + 2 ≤ y ∧ y < w1.heap.size) (HO4.out.kept ?_) (fun y hy => ⟨Nat.le_trans (by omega) hy.1, Nat.lt_of_lt_of_le hy.2 (by first | (simp; done) | (simp; omega))⟩)
          repeat (first | (with_reducible exact Kept.refl) | (refine Kept.put ?_ (by intro h; have h1 := h.1; dsimp only at h1; omega)))
        · repeat (first | (with_reducible exact HB4.out) | (with_reducible apply Below.drew) | (with_reducible refine below_drewN ?_ _) | (refine Below.setCell ?_ (by simp <;> omega) _) | (refine Below.alloc ?_ (by simp <;> omega) _))
      | true =>
        have HK := Lib.hid (fun w => impl_isNumber (a0 := a0) (c0_0 := c0_0) r k true hk1 w)
        obtain ⟨i, rfl, hi2⟩ := inR_nat hi1
        obtain ⟨k, rfl, hk2⟩ := inR_nat hk1
        have fin := Lib.hid (addPair_yes HV.out hi1 hk1)
        clear hi1 hk1
        have hil : i < r.fRows.length := by
          obtain ⟨n, h1, h2, h3, _⟩ := HP.out
          omega
        have hk16 : k ≤ 16 := by omega
        obtain ⟨q, hq⟩ : ∃ q : Int, (2 : Int) ^ k = q := ⟨_, rfl⟩
        have hq1 := pow_in hk16
        rw [hq] at hq1
        have hlow : 1 ≤ q := hq1.1
        have hhigh : q ≤ 65536 := hq1.2
        have hw1 : wrap64 q = q := IntWalk.wrap64_in _ ⟨by omega, by omega⟩
        have HQ := Lib.hid hq
        clear hq1
        go_enter Tryz.func37, Tryz.ntmps37
        go_wp2_with fail
        refine (impl_copyRelation (c0 := c0_0) r HL.out _ (Nat.le_trans HH.out HB0.out.size) (HS.out.later (HB0.out) HH.out)).mono ?_
        rintro e w1 ⟨a1, c1, rfl, ho1, hb1⟩
        have hst1 : Below (w.heap.size + 2) ((w.alloc (.cells #[.int .i64 r.fN, .slice a0 r.fRows.length c0_0] 35)).alloc (.cells #[.int .i64 0, .slice none 0 0] 35)) w1 := hb1.mono (by simp)
        have sz1_r : w.heap.size < w1.heap.size := Nat.lt_of_lt_of_le (by show w.heap.size < w.heap.size + 2; omega) (Nat.le_trans (by simp) hst1.size)
        have bx1_r_0 : w1.cell? ⟨w.heap.size, 0, none⟩ = some (.int .i64 r.fN) := (hst1.cell (p := ⟨w.heap.size, 0, none⟩) (by show w.heap.size < w.heap.size + 2; omega)).trans (by go_simp)
        have bx1_r_1 : w1.cell? ⟨w.heap.size, 1, none⟩ = some (.slice a0 r.fRows.length c0_0) := (hst1.cell (p := ⟨w.heap.size, 1, none⟩) (by show w.heap.size < w.heap.size + 2; omega)).trans (by go_simp)
        have sz1_z : w.heap.size + 1 < w1.heap.size := Nat.lt_of_lt_of_le (by show w.heap.size + 1 < w.heap.size + 2; omega) (Nat.le_trans (by simp) hst1.size)
        have bx1_z_0 : w1.cell? ⟨w.heap.size + 1, 0, none⟩ = some (.int .i64 0) := (hst1.cell (p := ⟨w.heap.size + 1, 0, none⟩) (by show w.heap.size + 1 < w.heap.size + 2; omega)).trans (by go_simp)
        have fz1_z_0 : w1.frozen? ⟨w.heap.size + 1, 0, none⟩ = false := (hst1.frozen (p := ⟨w.heap.size + 1, 0, none⟩) (by show w.heap.size + 1 < w.heap.size + 2; omega)).trans (by go_simp)
        have bx1_z_1 : w1.cell? ⟨w.heap.size + 1, 1, none⟩ = some (.slice none 0 0) := (hst1.cell (p := ⟨w.heap.size + 1, 1, none⟩) (by show w.heap.size + 1 < w.heap.size + 2; omega)).trans (by go_simp)
        have fz1_z_1 : w1.frozen? ⟨w.heap.size + 1, 1, none⟩ = false := (hst1.frozen (p := ⟨w.heap.size + 1, 1, none⟩) (by show w.heap.size + 1 < w.heap.size + 2; omega)).trans (by go_simp)
        have HG1 := Lib.hid ((hst1.block (w.heap.size + 1) (by omega)).trans HG0.out)
        have HO1 := Lib.hid (ho1.sub (F' := fun y => w.heap.size + 2 ≤ y ∧ y < w1.heap.size) (fun y hy => ⟨Nat.le_trans (by simp) hy.1, hy.2⟩))
        clear ho1
        have HB1 := Lib.hid (HB0.out.trans (hb1.mono HB0.out.size))
        clear hb1 hst1
        go_wp2_with fail
        refine (impl_relValid (c0 := c0_0) r HL.out true HV.out _ (Nat.le_trans HH.out (Nat.le_trans HB1.out.size (Below.size (by repeat (first | (with_reducible exact Below.refl _ _) | (with_reducible apply Below.drew) | (with_reducible refine below_drewN ?_ _) | (refine Below.setCell ?_ (by simp <;> omega) _) | (refine Below.alloc ?_ (by simp <;> omega) _)) : Below w1.heap.size w1 _)))) (HS.out.later (HB1.out.trans ((by repeat (first | (with_reducible exact Below.refl _ _) | (with_reducible apply Below.drew) | (with_reducible refine below_drewN ?_ _) | (refine Below.setCell ?_ (by simp <;> omega) _) | (refine Below.alloc ?_ (by simp <;> omega) _)) : Below w1.heap.size w1 _).mono HB1.out.size)) HH.out)).mono ?_
        rintro e w2 ⟨rfl, hb2⟩
        have hst2 : Below w1.heap.size w1 w2 := Below.trans (by repeat (first | (with_reducible exact Below.refl _ _) | (with_reducible apply Below.drew) | (with_reducible refine below_drewN ?_ _) | (refine Below.setCell ?_ (by simp <;> omega) _) | (refine Below.alloc ?_ (by simp <;> omega) _)) : Below w1.heap.size w1 _) (hb2.mono (Below.size (by repeat (first | (with_reducible exact Below.refl _ _) | (with_reducible apply Below.drew) | (with_reducible refine below_drewN ?_ _) | (refine Below.setCell ?_ (by simp <;> omega) _) | (refine Below.alloc ?_ (by simp <;> omega) _)) : Below w1.heap.size w1 _)))
        have sz2_r : w.heap.size < w2.heap.size := Nat.lt_of_lt_of_le sz1_r hst2.size
        have bx2_r_0 : w2.cell? ⟨w.heap.size, 0, none⟩ = some (.int .i64 r.fN) := (hst2.cell (p := ⟨w.heap.size, 0, none⟩) sz1_r).trans bx1_r_0
        have bx2_r_1 : w2.cell? ⟨w.heap.size, 1, none⟩ = some (.slice a0 r.fRows.length c0_0) := (hst2.cell (p := ⟨w.heap.size, 1, none⟩) sz1_r).trans bx1_r_1
        have sz2_z : w.heap.size + 1 < w2.heap.size := Nat.lt_of_lt_of_le sz1_z hst2.size
        have bx2_z_0 : w2.cell? ⟨w.heap.size + 1, 0, none⟩ = some (.int .i64 0) := (hst2.cell (p := ⟨w.heap.size + 1, 0, none⟩) sz1_z).trans bx1_z_0
        have fz2_z_0 : w2.frozen? ⟨w.heap.size + 1, 0, none⟩ = false := (hst2.frozen (p := ⟨w.heap.size + 1, 0, none⟩) sz1_z).trans fz1_z_0
        have bx2_z_1 : w2.cell? ⟨w.heap.size + 1, 1, none⟩ = some (.slice none 0 0) := (hst2.cell (p := ⟨w.heap.size + 1, 1, none⟩) sz1_z).trans bx1_z_1
        have fz2_z_1 : w2.frozen? ⟨w.heap.size + 1, 1, none⟩ = false := (hst2.frozen (p := ⟨w.heap.size + 1, 1, none⟩) sz1_z).trans fz1_z_1
        have sz2_x : w1.heap.size < w2.heap.size := Nat.lt_of_lt_of_le (by first | omega | (simp; done) | (simp; omega) | (simp [World.setCell]; omega)) hb2.size
        have bx2_x_0 : w2.cell? ⟨w1.heap.size, 0, none⟩ = some (.int .i64 r.fN) := (hb2.cell (p := ⟨w1.heap.size, 0, none⟩) (by first | omega | (simp; done) | (simp; omega) | (simp [World.setCell]; omega))).trans (by go_simp)
        have bx2_x_1 : w2.cell? ⟨w1.heap.size, 1, none⟩ = some (.slice a1 r.fRows.length c1) := (hb2.cell (p := ⟨w1.heap.size, 1, none⟩) (by first | omega | (simp; done) | (simp; omega) | (simp [World.setCell]; omega))).trans (by go_simp)
        have HG2 := Lib.hid ((hst2.block (w.heap.size + 1) sz1_z).trans HG1.out)
        have HO2 := Lib.hid (HO1.out.kept (Kept.of_below_all hst2))
        have HB2 := Lib.hid (HB1.out.trans (hst2.mono HB1.out.size))
        have hr2 : w1.heap.size ≤ w2.heap.size := hst2.size
        clear hb2 hst2 bx1_r_0 bx1_r_1 sz1_r bx1_z_0 bx1_z_1 sz1_z fz1_z_0 fz1_z_1
        go_wp2_with fail
        refine (HI.out _).mono ?_
        rintro e w3 ⟨rfl, hb3⟩
        have hst3 : Below w2.heap.size w2 w3 := Below.trans (by repeat (first | (with_reducible exact Below.refl _ _) | (with_reducible apply Below.drew) | (with_reducible refine below_drewN ?_ _) | (refine Below.setCell ?_ (by simp <;> omega) _) | (refine Below.alloc ?_ (by simp <;> omega) _)) : Below w2.heap.size w2 _) (hb3.mono (Below.size (by repeat (first | (with_reducible exact Below.refl _ _) | (with_reducible apply Below.drew) | (with_reducible refine below_drewN ?_ _) | (refine Below.setCell ?_ (by simp <;> omega) _) | (refine Below.alloc ?_ (by simp <;> omega) _)) : Below w2.heap.size w2 _)))
        have sz3_r : w.heap.size < w3.heap.size := Nat.lt_of_lt_of_le sz2_r hst3.size
        have bx3_r_0 : w3.cell? ⟨w.heap.size, 0, none⟩ = some (.int .i64 r.fN) := (hst3.cell (p := ⟨w.heap.size, 0, none⟩) sz2_r).trans bx2_r_0
        have bx3_r_1 : w3.cell? ⟨w.heap.size, 1, none⟩ = some (.slice a0 r.fRows.length c0_0) := (hst3.cell (p := ⟨w.heap.size, 1, none⟩) sz2_r).trans bx2_r_1
        have sz3_z : w.heap.size + 1 < w3.heap.size := Nat.lt_of_lt_of_le sz2_z hst3.size
        have bx3_z_0 : w3.cell? ⟨w.heap.size + 1, 0, none⟩ = some (.int .i64 0) := (hst3.cell (p := ⟨w.heap.size + 1, 0, none⟩) sz2_z).trans bx2_z_0
        have fz3_z_0 : w3.frozen? ⟨w.heap.size + 1, 0, none⟩ = false := (hst3.frozen (p := ⟨w.heap.size + 1, 0, none⟩) sz2_z).trans fz2_z_0
        have bx3_z_1 : w3.cell? ⟨w.heap.size + 1, 1, none⟩ = some (.slice none 0 0) := (hst3.cell (p := ⟨w.heap.size + 1, 1, none⟩) sz2_z).trans bx2_z_1
        have fz3_z_1 : w3.frozen? ⟨w.heap.size + 1, 1, none⟩ = false := (hst3.frozen (p := ⟨w.heap.size + 1, 1, none⟩) sz2_z).trans fz2_z_1
        have sz3_x : w1.heap.size < w3.heap.size := Nat.lt_of_lt_of_le sz2_x hst3.size
        have bx3_x_0 : w3.cell? ⟨w1.heap.size, 0, none⟩ = some (.int .i64 r.fN) := (hst3.cell (p := ⟨w1.heap.size, 0, none⟩) sz2_x).trans bx2_x_0
        have bx3_x_1 : w3.cell? ⟨w1.heap.size, 1, none⟩ = some (.slice a1 r.fRows.length c1) := (hst3.cell (p := ⟨w1.heap.size, 1, none⟩) sz2_x).trans bx2_x_1
        have HG3 := Lib.hid ((hst3.block (w.heap.size + 1) sz2_z).trans HG2.out)
        have HO3 := Lib.hid (HO2.out.kept (Kept.of_below_all hst3))
        have HB3 := Lib.hid (HB2.out.trans (hst3.mono HB2.out.size))
        have hr3 : w2.heap.size ≤ w3.heap.size := hst3.size
        clear hb3 hst3 bx2_r_0 bx2_r_1 sz2_r bx2_z_0 bx2_z_1 sz2_z fz2_z_0 fz2_z_1 bx2_x_0 bx2_x_1 sz2_x
        go_wp2_with fail
        refine (HK.out _).mono ?_
        rintro e w4 ⟨rfl, hb4⟩
        have hst4 : Below w3.heap.size w3 w4 := Below.trans (by repeat (first | (with_reducible exact Below.refl _ _) | (with_reducible apply Below.drew) | (with_reducible refine below_drewN ?_ _) | (refine Below.setCell ?_ (by simp <;> omega) _) | (refine Below.alloc ?_ (by simp <;> omega) _)) : Below w3.heap.size w3 _) (hb4.mono (Below.size (by repeat (first | (with_reducible exact Below.refl _ _) | (with_reducible apply Below.drew) | (with_reducible refine below_drewN ?_ _) | (refine Below.setCell ?_ (by simp <;> omega) _) | (refine Below.alloc ?_ (by simp <;> omega) _)) : Below w3.heap.size w3 _)))
        have sz4_r : w.heap.size < w4.heap.size := Nat.lt_of_lt_of_le sz3_r hst4.size
        have bx4_r_0 : w4.cell? ⟨w.heap.size, 0, none⟩ = some (.int .i64 r.fN) := (hst4.cell (p := ⟨w.heap.size, 0, none⟩) sz3_r).trans bx3_r_0
        have bx4_r_1 : w4.cell? ⟨w.heap.size, 1, none⟩ = some (.slice a0 r.fRows.length c0_0) := (hst4.cell (p := ⟨w.heap.size, 1, none⟩) sz3_r).trans bx3_r_1
        have sz4_z : w.heap.size + 1 < w4.heap.size := Nat.lt_of_lt_of_le sz3_z hst4.size
        have bx4_z_0 : w4.cell? ⟨w.heap.size + 1, 0, none⟩ = some (.int .i64 0) := (hst4.cell (p := ⟨w.heap.size + 1, 0, none⟩) sz3_z).trans bx3_z_0
        have fz4_z_0 : w4.frozen? ⟨w.heap.size + 1, 0, none⟩ = false := (hst4.frozen (p := ⟨w.heap.size + 1, 0, none⟩) sz3_z).trans fz3_z_0
        have bx4_z_1 : w4.cell? ⟨w.heap.size + 1, 1, none⟩ = some (.slice none 0 0) := (hst4.cell (p := ⟨w.heap.size + 1, 1, none⟩) sz3_z).trans bx3_z_1
        have fz4_z_1 : w4.frozen? ⟨w.heap.size + 1, 1, none⟩ = false := (hst4.frozen (p := ⟨w.heap.size + 1, 1, none⟩) sz3_z).trans fz3_z_1
        have sz4_x : w1.heap.size < w4.heap.size := Nat.lt_of_lt_of_le sz3_x hst4.size
        have bx4_x_0 : w4.cell? ⟨w1.heap.size, 0, none⟩ = some (.int .i64 r.fN) := (hst4.cell (p := ⟨w1.heap.size, 0, none⟩) sz3_x).trans bx3_x_0
        have bx4_x_1 : w4.cell? ⟨w1.heap.size, 1, none⟩ = some (.slice a1 r.fRows.length c1) := (hst4.cell (p := ⟨w1.heap.size, 1, none⟩) sz3_x).trans bx3_x_1
        have HG4 := Lib.hid ((hst4.block (w.heap.size + 1) sz3_z).trans HG3.out)
        have HO4 := Lib.hid (HO3.out.kept (Kept.of_below_all hst4))
        have HB4 := Lib.hid (HB3.out.trans (hst4.mono HB3.out.size))
        have hr4 : w3.heap.size ≤ w4.heap.size := hst4.size
        clear hb4 hst4 bx3_r_0 bx3_r_1 sz3_r bx3_z_0 bx3_z_1 sz3_z fz3_z_0 fz3_z_1 bx3_x_0 bx3_x_1 sz3_x
        obtain ⟨b, off, rfl, hFb, hbl, hcs, hzs⟩ := own_at HO4.out i hil
        have HOB := HO4
        have hFb1 : w.heap.size + 2 ≤ b := hFb.1
        have hFb2 : b < w1.heap.size := hFb.2
        have hrow := hcs i hil
        have hrz := hzs (off + i)
        clear hFb hcs hzs
        generalize hrw : r.fRows.getD i default = row at hrow fin
        have HRW := Lib.hid hrw
        have HFIN := Lib.hid (show addPair r i k = ⟨r.fN, r.fRows.set i (bits BinOp.or IntKind.i64 row q)⟩ from fin.out.trans (by unfold orB; rw [HQ.out]))
        clear hrw
        go_wp2_with fail
        go_region
        all_goals
          go_wp2
          refine bodyPost_ret (v := .agg #[.int .i64 r.fN, .slice (some ⟨b, off, none⟩) r.fRows.length c1]) (results_cell_row Tryz.results37 _ _ (w.heap.size + 1) 35 #[.int .i64 r.fN, .slice (some ⟨b, off, none⟩) r.fRows.length c1] (0, 0) _ rfl (by refine Eq.trans (blk_set (cs := #[.int .i64 r.fN, .slice none 0 0]) (t := 35) (fr := (0, 0)) ?_) rfl; refine Eq.trans (blk_set (cs := #[.int .i64 0, .slice none 0 0]) (t := 35) (fr := (0, 0)) ?_) rfl; repeat (first | (with_reducible exact HG4.out) | (refine blk_other (by dsimp only; omega) ?_))) Tryz.underlying35 rfl rfl) rfl ?_
          rw [HFIN.out]
          refine ⟨some ⟨b, off, none⟩, c1, by simp, ?_, ?_⟩
          · refine Own.sub (F := fun y => w.heap.size + 2 ≤ y ∧ y < w1.heap.size) (Own.kept (own_set HOB.out i hil (bits BinOp.or IntKind.i64 row q)) ?_) (fun y hy => ⟨Nat.le_trans (by omega) hy.1, Nat.lt_of_lt_of_le hy.2 (by first | (simp; done) | (simp; omega))⟩)
            repeat (first | (with_reducible exact Kept.refl) | (with_reducible apply Kept.drew) | (with_reducible apply Kept.drewN) | (refine Kept.put ?_ (by intro h; have h1 := h.1; dsimp only at h1; omega)))
          · repeat (first | (with_reducible exact HB4.out) | (with_reducible apply Below.drew) | (with_reducible refine below_drewN ?_ _) | (refine Below.setCell ?_ (by simp <;> omega) _) | (refine Below.alloc ?_ (by simp <;> omega) _))
end Go.Proofs.YtnmepemmpeboeaaGreat
