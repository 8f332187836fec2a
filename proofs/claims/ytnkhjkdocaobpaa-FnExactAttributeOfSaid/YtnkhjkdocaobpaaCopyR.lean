/-
  spec.l9Copy: a rule copied, in memory of its own.
-/
import Derived.Test.YtnkhjkdocaobpaaTRule
import Derived.Test.YtnkhjkdocaobpaaCopyE
import Derived.Test.YtnkhjkdocaobpaaFreeA
import Derived.Test.YtnkhjkdocaobpaaSpread3
import Derived.Deep.MidRow
import Derived.Great.BuildSlice
import Derived.Laws.Rows
import Derived.Deep.WholeRow
namespace Go.Proofs.Ytnkhjkdocaobpaa
open Go.ChangeShapes Go.WideShapes Go.ChangeAt Go.RowKit Go.Deep

theorem cells_at {w : World} {g : Nat} {cs : List Value} {t : TypeId} {fr : Nat × Nat} (h : w.heap[g]? = some (.cells cs.toArray t fr)) : ∀ j u, cs[j]? = some u → w.cell? ((⟨g, 0, none⟩ : Addr).add j) = some u := by
  intro j u hu
  rw [Go.WideShapes.add_plain, Nat.zero_add]
  exact pblk_cell h (by simpa using hu)
theorem own_form {w : World} {B n len : Nat} {e : TypeId} {v : Value} {xs : List Value} (h : w.ownsRow B e n v len xs) : ∃ a c, v = .slice a len c := by
  rcases h.2 with ⟨h1, h2⟩ | ⟨g, cap, cur, h1, _⟩
  · subst h2; exact ⟨none, 0, h1⟩
  · exact ⟨_, _, h1⟩
theorem heap_set_sameR {w w' : World} {b o : Nat} {v : Value} (h : w'.heap[b]? = w.heap[b]?) : (w'.setCell ⟨b, o, none⟩ v).heap[b]? = (w.setCell ⟨b, o, none⟩ v).heap[b]? := by
  simp only [World.setCell, Array.getElem?_modify, h]
theorem own_blk {w : World} {B n k : Nat} {e : TypeId} {v : Value} {xs : List Value} (h : w.ownsRow B e n v (k + 1) xs) : ∃ g, v.ownBlock = some g := by
  rcases h.2 with ⟨_, h2⟩ | ⟨g, cap, cur, h1, _⟩
  · omega
  · exact ⟨g, by rw [h1]; rfl⟩
def vStr (s : ByteArray) : List Value := [.string s]
theorem vStr_len (s : ByteArray) : (vStr s).length = 1 := rfl
theorem vStr_ct (s : ByteArray) (c : Nat) (h : c < 1) : ictS s c = .lit ((vStr s).getD c .nilFunc) := match c, h with | 0, _ => rfl
theorem vStr_one (s : ByteArray) : ∀ u ∈ vStr s, u.oneCell' = true := by intro u hu; unfold vStr at hu; rw [List.mem_singleton] at hu; subst hu; rfl
theorem rangeAt_nilR {w : World} {b o : Nat} : w.rangeAt b o [] := fun j v h => by simp at h
theorem rangeAt_consR {w : World} {b o : Nat} {v : Value} {vs : List Value} (h : w.cell? ⟨b, o, none⟩ = some v) (hs : w.rangeAt b (o + 1) vs) : w.rangeAt b o (v :: vs)
  | 0, u, hu => by simp only [List.getElem?_cons_zero, Option.some.injEq] at hu; subst hu; exact h
  | j + 1, u, hu => by rw [List.getElem?_cons_succ] at hu; have := hs j u hu; rwa [show o + 1 + j = o + (j + 1) by omega] at this
theorem setRow_newR {w : World} {c c' : Array Value} {t : TypeId} {g : Nat} (h : g = w.heap.size) : (w.alloc (.cells c t)).setRow g c' = w.alloc (.cells c' t) := by subst h; exact World.setRow_alloc_new _ _ _ _
def StopR (p : Prop) : Prop := p
theorem StopR.of {p : Prop} (h : StopR p) : p := h
theorem StopR.to {p : Prop} (h : p) : StopR p := h
theorem info_strR : (Try.prog.info? 9).map (fun i => (i.zero, i.size, i.bytes)) = some (some (.string ⟨#[]⟩), 1, 16) := by kernel_rfl
/-- What lies in old memory that was not written. -/
theorem sl_kept' {lo hi n len : Nat} {f : Nat → Nat → Ct} {a : Option Addr} {w w' : World} {F : Nat → Prop} (h : Sl lo hi w n len f a) (hk : Kept F w w') (hF : ∀ b, lo ≤ b → b < hi → F b) (hh : hi ≤ w.heap.size) : Sl lo hi w' n len f a :=
  h.frame fun b o h1 h2 => hk.cell (p := ⟨b, o, none⟩) (hF b h1 h2) (Nat.lt_of_lt_of_le h2 hh)
theorem ownR_eqn {w : World} {F : Nat → Prop} {y : DEquation} {a : Option Addr} {c : Nat} (h : Own w F (.sl 7 y.fExpr.fArgs.length (ctE y.fExpr.fArgs)) (.slice a y.fExpr.fArgs.length c)) : OwnR w F 9 y.ct (fun j => ([.int .i64 y.fAt.fPos, .string y.fAt.fName, .int .i64 y.fExpr.fKind, .int .i64 y.fExpr.fN, .int .i64 y.fExpr.fPos, .int .i64 y.fExpr.fType, .string y.fExpr.fSymbol, .string y.fExpr.fName, .slice a y.fExpr.fArgs.length c] : List Value).getD j .nilFunc) :=
  ownR_snoc (n := 8) (fun j hj => match j, hj with | 0, _ => rfl | 1, _ => rfl | 2, _ => rfl | 3, _ => rfl | 4, _ => rfl | 5, _ => rfl | 6, _ => rfl | 7, _ => rfl) h
theorem ownR_contr {w : World} {F F1 F2 : Nat → Prop} {y : DContribution} {a a' : Option Addr} {c c' : Nat} (h : Own w F1 (.sl 7 y.fTarget.fArgs.length (ctE y.fTarget.fArgs)) (.slice a y.fTarget.fArgs.length c)) (h' : Own w F2 (.sl 7 y.fValue.fArgs.length (ctE y.fValue.fArgs)) (.slice a' y.fValue.fArgs.length c')) (hd : ∀ z, F1 z → F2 z → False) (h1 : ∀ z, F1 z → F z) (h2 : ∀ z, F2 z → F z) : OwnR w F 16 y.ct (fun j => ([.string y.fSymbol, .string y.fName, .int .i64 y.fTarget.fKind, .int .i64 y.fTarget.fN, .int .i64 y.fTarget.fPos, .int .i64 y.fTarget.fType, .string y.fTarget.fSymbol, .string y.fTarget.fName, .slice a y.fTarget.fArgs.length c, .int .i64 y.fValue.fKind, .int .i64 y.fValue.fN, .int .i64 y.fValue.fPos, .int .i64 y.fValue.fType, .string y.fValue.fSymbol, .string y.fValue.fName, .slice a' y.fValue.fArgs.length c'] : List Value).getD j .nilFunc) :=
  OwnR.append (m := 9) (n := 7) (F1 := F1) (F2 := F2) (ownR_snoc (n := 8) (fun j hj => match j, hj with | 0, _ => rfl | 1, _ => rfl | 2, _ => rfl | 3, _ => rfl | 4, _ => rfl | 5, _ => rfl | 6, _ => rfl | 7, _ => rfl) h)
    (ownR_snoc (n := 6) (fun j hj => match j, hj with | 0, _ => rfl | 1, _ => rfl | 2, _ => rfl | 3, _ => rfl | 4, _ => rfl | 5, _ => rfl) h') hd h1 h2
theorem ownR_rule {w : World} {F F1 F2 F3 : Nat → Prop} {x : DRule} {a2 a4 a5 : Option Addr} {c2 c4 c5 : Nat} (h2 : Own w F1 (.sl 1 x.fRight.length (fun k => ictS (x.fRight.getD k default))) (.slice a2 x.fRight.length c2)) (h4 : Own w F2 (.sl 9 x.fEquations.length (fun k => DEquation.ct (x.fEquations.getD k default))) (.slice a4 x.fEquations.length c4)) (h5 : Own w F3 (.sl 16 x.fContributions.length (fun k => DContribution.ct (x.fContributions.getD k default))) (.slice a5 x.fContributions.length c5))
    (d12 : ∀ z, F1 z → F2 z → False) (d13 : ∀ z, F1 z → F3 z → False) (d23 : ∀ z, F2 z → F3 z → False) (h1 : ∀ z, F1 z → F z) (h22 : ∀ z, F2 z → F z) (h3 : ∀ z, F3 z → F z) : OwnR w F 6 x.ct (fun j => ([.string x.fName, .string x.fLeft, .slice a2 x.fRight.length c2, .bool x.fLiteral, .slice a4 x.fEquations.length c4, .slice a5 x.fContributions.length c5] : List Value).getD j .nilFunc) :=
  OwnR.append (m := 3) (n := 3) (F1 := F1) (F2 := fun z => F2 z ∨ F3 z) (ownR_snoc (n := 2) (fun j hj => match j, hj with | 0, _ => rfl | 1, _ => rfl) h2)
    (OwnR.append (m := 2) (n := 1) (F1 := F2) (F2 := F3) (ownR_snoc (n := 1) (fun j hj => match j, hj with | 0, _ => rfl) h4) (OwnR.one h5) d23 (fun z h => .inl h) (fun z h => .inr h))
    (fun z a b => b.elim (d12 z a) (d13 z a)) h1 (fun z h => h.elim (h22 z) (h3 z))

set_option maxHeartbeats 6400000 in
set_option maxRecDepth 100000 in
theorem spec_l9Copy {lo hi : Nat} {a2 a4 a5 : Option Addr} {c0_0 c0_1 c0_2 : Nat} (x : DRule) (hx : x.sz ≤ 1048576) (w : World) (hhi : hi ≤ w.heap.size) (hs2 : Sl lo hi w 1 x.fRight.length (fun k => ictS (x.fRight.getD k default)) a2) (hs4 : Sl lo hi w 9 x.fEquations.length (fun k => DEquation.ct (x.fEquations.getD k default)) a4) (hs5 : Sl lo hi w 16 x.fContributions.length (fun k => DContribution.ct (x.fContributions.getD k default)) a5) :
    Calls Try.prog 52 #[.agg #[.string x.fName, .string x.fLeft, .slice a2 x.fRight.length c0_0, .bool x.fLiteral, .slice a4 x.fEquations.length c0_1, .slice a5 x.fContributions.length c0_2]] w fun e w' => ∃ r2 r4 r5 q2 q4 q5, e = .returned (.agg #[.string x.fName, .string x.fLeft, .slice r2 x.fRight.length q2, .bool x.fLiteral, .slice r4 x.fEquations.length q4, .slice r5 x.fContributions.length q5]) ∧ OwnR w' (fun y => w.heap.size ≤ y ∧ y < w'.heap.size) 6 x.ct (fun j => ([.string x.fName, .string x.fLeft, .slice r2 x.fRight.length q2, .bool x.fLiteral, .slice r4 x.fEquations.length q4, .slice r5 x.fContributions.length q5] : List Value).getD j .nilFunc) ∧ Below w.heap.size w w' := by
  have n2 : x.fRight.length ≤ 1048576 := by unfold DRule.sz lsz at hx; omega
  have z4 : lsz DEquation.sz x.fEquations ≤ 1048576 := by unfold DRule.sz at hx; omega
  have z5 : lsz DContribution.sz x.fContributions ≤ 1048576 := by unfold DRule.sz at hx; omega
  have HZ4 := Lib.hid (fun k (hk : k < x.fEquations.length) => Nat.le_trans (szle_at (f := DEquation.sz) x.fEquations k hk) z4)
  have HZ5 := Lib.hid (fun k (hk : k < x.fContributions.length) => Nat.le_trans (szle_at (f := DContribution.sz) x.fContributions k hk) z5)
  have HN4 := Lib.hid (show x.fEquations.length ≤ 1048576 by unfold lsz at z4; omega)
  have HN5 := Lib.hid (show x.fContributions.length ≤ 1048576 by unfold lsz at z5; omega)
  have HB0 := Lib.hid (((Below.refl w.heap.size w).alloc (Nat.le_refl _) (.cells #[.string x.fName, .string x.fLeft, .slice a2 x.fRight.length c0_0, .bool x.fLiteral, .slice a4 x.fEquations.length c0_1, .slice a5 x.fContributions.length c0_2] 91)).alloc (by simp) (.cells #[.string ⟨#[]⟩, .string ⟨#[]⟩, .slice none 0 0, .bool false, .slice none 0 0, .slice none 0 0] 91))
  have HZ0 := Lib.hid (show ((w.alloc (.cells #[.string x.fName, .string x.fLeft, .slice a2 x.fRight.length c0_0, .bool x.fLiteral, .slice a4 x.fEquations.length c0_1, .slice a5 x.fContributions.length c0_2] 91)).alloc (.cells #[.string ⟨#[]⟩, .string ⟨#[]⟩, .slice none 0 0, .bool false, .slice none 0 0, .slice none 0 0] 91)).heap.size = w.heap.size + 2 by simp)
  have HBX := Lib.hid (show ((w.alloc (.cells #[.string x.fName, .string x.fLeft, .slice a2 x.fRight.length c0_0, .bool x.fLiteral, .slice a4 x.fEquations.length c0_1, .slice a5 x.fContributions.length c0_2] 91)).alloc (.cells #[.string ⟨#[]⟩, .string ⟨#[]⟩, .slice none 0 0, .bool false, .slice none 0 0, .slice none 0 0] 91)).heap[w.heap.size]? = some (.cells #[.string x.fName, .string x.fLeft, .slice a2 x.fRight.length c0_0, .bool x.fLiteral, .slice a4 x.fEquations.length c0_1, .slice a5 x.fContributions.length c0_2] 91) from blk_alloc (by simp) (blk_new rfl))
  have HBR := Lib.hid (show ((w.alloc (.cells #[.string x.fName, .string x.fLeft, .slice a2 x.fRight.length c0_0, .bool x.fLiteral, .slice a4 x.fEquations.length c0_1, .slice a5 x.fContributions.length c0_2] 91)).alloc (.cells #[.string ⟨#[]⟩, .string ⟨#[]⟩, .slice none 0 0, .bool false, .slice none 0 0, .slice none 0 0] 91)).heap[w.heap.size + 1]? = some (.cells #[.string ⟨#[]⟩, .string ⟨#[]⟩, .slice none 0 0, .bool false, .slice none 0 0, .slice none 0 0] 91) from blk_new (by simp))
  have HS2 := Lib.hid (hs2.later HB0.out hhi)
  have HS4 := Lib.hid (hs4.later HB0.out hhi)
  have HS5 := Lib.hid (hs5.later HB0.out hhi)
  obtain ⟨i0, hi', hz0, hz1, hz2⟩ := info_parts info_strR
  clear hs2 hs4 hs5 hx z4 z5
  go_enter Try.func52, Try.ntmps52
  go_wp2_with fail
  refine wp_region_freeK [([], .none, []), ([0], .none, []), ([], .none, []), ([2], .none, []), ([], .none, []), ([4], .none, []), ([], .none, []), ([], .none, []), ([7], .none, []), ([6, 8], .none, []), ([1, 3, 5, 9], .none, []), ([], .none, []), ([11, 10], .new 11, [])] [0, 1, 2, 3, 4, 5, 6, 7, 8, 9, 10, 12] [] (fun _ => False) (fun _ => True) (fun _ => 0) (fun jq9 V L H wx => match jq9 with | 0 => V 0 = .pointer (some ⟨w.heap.size, 0, none⟩) | 1 => V 1 = .string x.fName | 2 => V 2 = .pointer (some ⟨w.heap.size, 1, none⟩) | 3 => V 3 = .string x.fLeft | 4 => V 4 = .pointer (some ⟨w.heap.size, 3, none⟩) | 5 => V 5 = .bool x.fLiteral | 6 => V 6 = .slice (some ⟨L, 0, none⟩) 0 0 ∧ L < H ∧ wx.heap[L]? = some (.cells #[] 9) | 7 => V 7 = .pointer (some ⟨w.heap.size, 2, none⟩) | 8 => V 8 = .slice a2 x.fRight.length c0_0 | 9 => ∃ ar cr, V 9 = .slice ar x.fRight.length cr ∧ Own wx (fun y => L ≤ y ∧ y < H) (.sl 1 x.fRight.length (fun t => ictS (x.fRight.getD t default))) (.slice ar x.fRight.length cr) | 10 => ∃ p9 q9, V 10 = .agg #[.string x.fName, .string x.fLeft, .slice p9 x.fRight.length q9, .bool x.fLiteral, .slice none 0 0, .slice none 0 0] ∧ V 9 = .slice p9 x.fRight.length q9 | 11 => V 11 = .pointer (some ⟨L, 0, none⟩) ∧ L < H ∧ wx.heap[L]? = some (.cells #[.string ⟨#[]⟩, .string ⟨#[]⟩, .slice none 0 0, .bool false, .slice none 0 0, .slice none 0 0] 91) | 12 => ∀ x0 x1 x2 x3 x4 x5, V 10 = .agg #[x0, x1, x2, x3, x4, x5] → L < H ∧ wx.heap[L]? = some (.cells #[x0, x1, x2, x3, x4, x5] 91) | _ => True) (by kernel_rfl) (by kernel_rfl) ?obs (fun _ h => h.elim) trivial (fun _ _ _ _ _ => trivial) ?loc ?lasts ?walk
  case obs =>
    trivial
  case loc =>
    intro k V V' L H wx h0 h1 hG
    match k with
    | 0 =>
      try dsimp only at hG ⊢
      rw [← h0]
      exact hG
    | 1 =>
      try dsimp only at hG ⊢
      rw [← h0]
      exact hG
    | 2 =>
      try dsimp only at hG ⊢
      rw [← h0]
      exact hG
    | 3 =>
      try dsimp only at hG ⊢
      rw [← h0]
      exact hG
    | 4 =>
      try dsimp only at hG ⊢
      rw [← h0]
      exact hG
    | 5 =>
      try dsimp only at hG ⊢
      rw [← h0]
      exact hG
    | 6 =>
      try dsimp only at hG ⊢
      rw [← h0]
      exact hG
    | 7 =>
      try dsimp only at hG ⊢
      rw [← h0]
      exact hG
    | 8 =>
      try dsimp only at hG ⊢
      rw [← h0]
      exact hG
    | 9 =>
      try dsimp only at hG ⊢
      rw [← h0]
      exact hG
    | 10 =>
      have e9 := h1 9 (by decide)
      try dsimp only at hG ⊢
      rw [← h0, ← e9]
      exact hG
    | 11 =>
      try dsimp only at hG ⊢
      rw [← h0]
      exact hG
    | 12 =>
      have e10 := h1 10 (by decide)
      try dsimp only at hG ⊢
      rw [← e10]
      exact hG
    | n + 13 => trivial
  case lasts =>
    intro i hi V L H wx wy hB hH hk
    match i, hi with
    | 0, _ => exact fun h => h
    | 1, _ => exact fun h => h
    | 2, _ => exact fun h => h
    | 3, _ => exact fun h => h
    | 4, _ => exact fun h => h
    | 5, _ => exact fun h => h
    | 6, _ => exact fun ⟨hv, hl, hc⟩ => ⟨hv, hl, (hk.2 L (.inr (.inl ⟨Nat.le_refl _, hl⟩)) (Nat.lt_of_lt_of_le hl hH)).trans hc⟩
    | 7, _ => exact fun h => h
    | 8, _ => exact fun h => h
    | 9, _ => exact fun ⟨ar, cr, hv, ho0⟩ => ⟨ar, cr, hv, ho0.kept (hk.sub fun x hx => .inr (.inl hx))⟩
    | 10, _ => exact fun ⟨p9, q9, hv, ho0⟩ => ⟨p9, q9, hv, ho0⟩
    | 11, _ => exact fun ⟨hv, hl, hc⟩ => ⟨hv, hl, (hk.2 L (.inr (.inl ⟨Nat.le_refl _, hl⟩)) (Nat.lt_of_lt_of_le hl hH)).trans hc⟩
    | 12, _ => exact fun h x0 x1 x2 x3 x4 x5 hv => ⟨(h x0 x1 x2 x3 x4 x5 hv).1, (hk.2 L (.inr (.inl ⟨Nat.le_refl _, (h x0 x1 x2 x3 x4 x5 hv).1⟩)) (Nat.lt_of_lt_of_le (h x0 x1 x2 x3 x4 x5 hv).1 hH)).trans (h x0 x1 x2 x3 x4 x5 hv).2⟩
    | n + 13, hn => exact absurd hn (by simp)
  case walk =>
    simp (maxSteps := 4000000) only [freeK, effK, Nat.reduceAdd, Act.put, List.setIfInBounds_toArray, List.set_cons_succ, List.set_cons_zero]
    refine ⟨?_, ?_, ?_, ?_, ?_, ?_, ?_, ?_, ?_, ?_, ?_, ?_, ?_, ?_⟩
    · intro V L H w1 hw hk hj hd
      clear hd
      go_wp2_with fail
      exact freePost _ rfl ⟨⟨WritesF.refl _ _, hj⟩, upd_self⟩
    · intro V L H w1 hw hk hj hd
      obtain ⟨⟨hL0, hM0, hH0, hv0⟩, -⟩ := hd
      rw [hv0]
      have HV0 := Lib.hid hv0
      clear hv0
      have b0 : w1.cell? ⟨w.heap.size, 0, none⟩ = some (.string x.fName) := (hk.cell (p := ⟨w.heap.size, 0, none⟩) ⟨(by show w.heap.size < _; have := HZ0.out; omega), fun h => h, trivial⟩ (by show w.heap.size < _; have := HZ0.out; omega)).trans (pblk_cell HBX.out rfl)
      go_wp2_with fail
      exact freePost _ rfl ⟨⟨WritesF.refl _ _, hj⟩, upd_self⟩
    · intro V L H w1 hw hk hj hd
      clear hd
      go_wp2_with fail
      exact freePost _ rfl ⟨⟨WritesF.refl _ _, hj⟩, upd_self⟩
    · intro V L H w1 hw hk hj hd
      obtain ⟨⟨hL2, hM2, hH2, hv2⟩, -⟩ := hd
      rw [hv2]
      have HV2 := Lib.hid hv2
      clear hv2
      have b1 : w1.cell? ⟨w.heap.size, 1, none⟩ = some (.string x.fLeft) := (hk.cell (p := ⟨w.heap.size, 1, none⟩) ⟨(by show w.heap.size < _; have := HZ0.out; omega), fun h => h, trivial⟩ (by show w.heap.size < _; have := HZ0.out; omega)).trans (pblk_cell HBX.out rfl)
      go_wp2_with fail
      exact freePost _ rfl ⟨⟨WritesF.refl _ _, hj⟩, upd_self⟩
    · intro V L H w1 hw hk hj hd
      clear hd
      go_wp2_with fail
      exact freePost _ rfl ⟨⟨WritesF.refl _ _, hj⟩, upd_self⟩
    · intro V L H w1 hw hk hj hd
      obtain ⟨⟨hL4, hM4, hH4, hv4⟩, -⟩ := hd
      rw [hv4]
      have HV4 := Lib.hid hv4
      clear hv4
      have b3 : w1.cell? ⟨w.heap.size, 3, none⟩ = some (.bool x.fLiteral) := (hk.cell (p := ⟨w.heap.size, 3, none⟩) ⟨(by show w.heap.size < _; have := HZ0.out; omega), fun h => h, trivial⟩ (by show w.heap.size < _; have := HZ0.out; omega)).trans (pblk_cell HBX.out rfl)
      go_wp2_with fail
      exact freePost _ rfl ⟨⟨WritesF.refl _ _, hj⟩, upd_self⟩
    · intro V L H w1 hw hk hj hd
      clear hd
      go_wp2_with fail
      refine freePost _ rfl ⟨⟨(WritesF.refl _ _).later ((Below.refl _ _).alloc (Nat.le_refl _) _), trivial⟩, upd_self, by simp, blk_new rfl⟩
    · intro V L H w1 hw hk hj hd
      clear hd
      go_wp2_with fail
      exact freePost _ rfl ⟨⟨WritesF.refl _ _, hj⟩, upd_self⟩
    · intro V L H w1 hw hk hj hd
      obtain ⟨⟨hL7, hM7, hH7, hv7⟩, -⟩ := hd
      rw [hv7]
      have HV7 := Lib.hid hv7
      clear hv7
      have b2 : w1.cell? ⟨w.heap.size, 2, none⟩ = some (.slice a2 x.fRight.length c0_0) := (hk.cell (p := ⟨w.heap.size, 2, none⟩) ⟨(by show w.heap.size < _; have := HZ0.out; omega), fun h => h, trivial⟩ (by show w.heap.size < _; have := HZ0.out; omega)).trans (pblk_cell HBX.out rfl)
      go_wp2_with fail
      exact freePost _ rfl ⟨⟨WritesF.refl _ _, hj⟩, upd_self⟩
    · intro V L H w1 hw hk hj hd
      obtain ⟨⟨hL6, hM6, hH6, hv6, hlt6, hc6⟩, ⟨hL8, hM8, hH8, hv8⟩, -⟩ := hd
      rw [hv6, hv8]
      have HV6 := Lib.hid hv6
      have HV8 := Lib.hid hv8
      clear hv6 hv8
      have HSL := Lib.hid (sl_kept' HS2.out hk (fun b h1 h2 => ⟨Nat.lt_of_lt_of_le h2 (Nat.le_trans hhi HB0.out.size), fun h => h, trivial⟩) (Nat.le_trans hhi HB0.out.size))
      go_wp2_with (at_builtin; refine wpList_append_fresh rfl (.tmp 13) (.tmp 15) 76 rfl 9 i0 (.string ⟨#[]⟩) 1 16 Try.underlying76 hi' hz0 hz1 hz2 rfl (by decide) (L 6) hc6 rfl (lo := lo) (hi2 := hi) (vals := vStr) (ct := ictS) x.fRight a2 c0_0 rfl vStr_len vStr_ct vStr_one HSL.out (by unfold maxLen; omega) (by omega) ?_; intro ar cr w2 ho2 hb2)
      go_wp2_with fail
      exact freePost _ rfl ⟨⟨(WritesF.refl _ _).later hb2, trivial⟩, Exists.intro ar (Exists.intro cr (And.intro (upd_self) (ho2)))⟩
    · intro V L H w1 hw hk hj hd
      obtain ⟨⟨hL1, hM1, hH1, hv1⟩, ⟨hL3, hM3, hH3, hv3⟩, ⟨hL5, hM5, hH5, hv5⟩, ⟨hL9, hM9, hH9, ar, cr, hv9, ho9_0⟩, -⟩ := hd
      rw [hv1, hv3, hv5, hv9]
      have HV1 := Lib.hid hv1
      have HV3 := Lib.hid hv3
      have HV5 := Lib.hid hv5
      have HV9 := Lib.hid hv9
      clear hv1 hv3 hv5 hv9
      go_wp2_with fail
      exact freePost _ rfl ⟨⟨WritesF.refl _ _, hj⟩, Exists.intro ar (Exists.intro cr (And.intro (upd_self) ((upd_ne (by decide)).trans HV9.out)))⟩
    · intro V L H w1 hw hk hj hd
      clear hd
      go_wp2_with fail
      refine freePost _ rfl ⟨⟨(WritesF.refl _ _).later ((Below.refl _ _).alloc (Nat.le_refl _) _), trivial⟩, upd_self, by simp, blk_new rfl⟩
    · intro V L H w1 hw hk hj hd
      obtain ⟨⟨hL11, hM11, hH11, hv11, hlt11, hc11⟩, ⟨hL10, hM10, hH10, p9, q9, hv10, ho10_0⟩, -⟩ := hd
      rw [hv11, hv10]
      have HV11 := Lib.hid hv11
      have HV10 := Lib.hid hv10
      clear hv11 hv10
      have hc_0 := pblk_cell (j := 0) (v := .string ⟨#[]⟩) hc11 rfl
      have hf_0 := pblk_frozen (j := 0) hc11
      have hc_1 := pblk_cell (j := 1) (v := .string ⟨#[]⟩) hc11 rfl
      have hf_1 := pblk_frozen (j := 1) hc11
      have hc_2 := pblk_cell (j := 2) (v := .slice none 0 0) hc11 rfl
      have hf_2 := pblk_frozen (j := 2) hc11
      have hc_3 := pblk_cell (j := 3) (v := .bool false) hc11 rfl
      have hf_3 := pblk_frozen (j := 3) hc11
      have hc_4 := pblk_cell (j := 4) (v := .slice none 0 0) hc11 rfl
      have hf_4 := pblk_frozen (j := 4) hc11
      have hc_5 := pblk_cell (j := 5) (v := .slice none 0 0) hc11 rfl
      have hf_5 := pblk_frozen (j := 5) hc11
      have HBLK := Lib.hid hc11
      clear hc11
      go_wp2_with fail
      refine freePost undef rfl ⟨(Touches.put (L := L 11) (H := H 11) (Touches.put (L := L 11) (H := H 11) (Touches.put (L := L 11) (H := H 11) (Touches.put (L := L 11) (H := H 11) (Touches.put (L := L 11) (H := H 11) (Touches.put (L := L 11) (H := H 11) Touches.refl (p := ⟨L 11, 0, none⟩) ⟨Nat.le_refl _, hlt11⟩ _) (p := ⟨L 11, 1, none⟩) ⟨Nat.le_refl _, hlt11⟩ _) (p := ⟨L 11, 2, none⟩) ⟨Nat.le_refl _, hlt11⟩ _) (p := ⟨L 11, 3, none⟩) ⟨Nat.le_refl _, hlt11⟩ _) (p := ⟨L 11, 4, none⟩) ⟨Nat.le_refl _, hlt11⟩ _) (p := ⟨L 11, 5, none⟩) ⟨Nat.le_refl _, hlt11⟩ _), fun x0 x1 x2 x3 x4 x5 h => ?_⟩
      cases (HV10.out.symm.trans ((upd_ne (by decide)).symm.trans h))
      exact ⟨hlt11, (pblk_put (pblk_put (pblk_put (pblk_put (pblk_put (pblk_put HBLK.out rfl) rfl) rfl) rfl) rfl) rfl)⟩
    · intro V L H w1 hw hj hd hap hdead
      obtain ⟨⟨hL0, hM0, hH0, hv0⟩, ⟨hL1, hM1, hH1, hv1⟩, ⟨hL2, hM2, hH2, hv2⟩, ⟨hL3, hM3, hH3, hv3⟩, ⟨hL4, hM4, hH4, hv4⟩, ⟨hL5, hM5, hH5, hv5⟩, ⟨hL6, hM6, hH6, hv6, hlt6, hc6⟩, ⟨hL7, hM7, hH7, hv7⟩, ⟨hL8, hM8, hH8, hv8⟩, ⟨hL9, hM9, hH9, ar, cr, hv9, ho9_0⟩, ⟨hL10, hM10, hH10, p9, q9, hv10, ho10_0⟩, ⟨hL12, hM12, hH12, hst12_⟩, -⟩ := hd
      obtain ⟨vlt12, vb12⟩ := hst12_ _ _ _ _ _ _ hv10
      obtain ⟨hLe12, hHe12, wo12, hva12, -⟩ := hdead 12 11 (by decide) rfl
      rw [← hLe12] at hva12
      clear hLe12 hHe12
      have KV9 := hv9
      rw [hv0, hv1, hv2, hv3, hv4, hv5, hv6, hv7, hv8, hv9, hv10, hva12]
      clear hv0 hv1 hv2 hv3 hv4 hv5 hv6 hv7 hv8 hv9 hv10 hva12
      obtain ⟨e1, e2⟩ : p9 = ar ∧ q9 = cr := by have h := ho10_0.symm.trans KV9; simp only [Value.slice.injEq, true_and] at h; exact ⟨h.1, h.2⟩
      subst e1 e2
      have HW1 := Lib.hid (fa_noneK hw)
      have hbo : w.heap.size + 2 ≤ L 12 := by have h : _ ≤ L 12 := hL12; rw [HZ0.out] at h; exact h
      have hbl : L 12 < w1.heap.size := Nat.lt_of_lt_of_le vlt12 hH12
      have hL9' : w.heap.size + 2 ≤ L 9 := by have h : _ ≤ L 9 := hL9; rw [HZ0.out] at h; exact h
      have hF2 := Lib.hid (fun y (h1 : L 9 ≤ y) (h2 : y < H 9) => (show y ≠ L 12 from by rcases hap 9 12 (by decide) (by decide) (by decide) with h | h <;> omega))
      have HO2 := Lib.hid ho9_0
      have HVB := Lib.hid vb12
      have HH9 := Lib.hid hH9
      have HBX1 := Lib.hid ((HW1.out.block w.heap.size (by have := HZ0.out; omega)).trans HBX.out)
      have HBR1 := Lib.hid ((HW1.out.block (w.heap.size + 1) (by have := HZ0.out; omega)).trans HBR.out)
      have HB1 := Lib.hid (HB0.out.trans (HW1.out.mono (by have := HZ0.out; omega)))
      have HS4' := Lib.hid (HS4.out.later HW1.out (Nat.le_trans hhi HB0.out.size))
      have HS5' := Lib.hid (HS5.out.later HW1.out (Nat.le_trans hhi HB0.out.size))
      clear hw hj hap hdead ho10_0 KV9 ho9_0 vb12 hst12_ HBX HBR HS2 HS4 HS5 HB0 vlt12 hH12
      generalize L 12 = bo at *
      generalize L 9 = g9 at *
      generalize H 9 = h9 at *
      generalize hHi : ((w.alloc (.cells #[.string x.fName, .string x.fLeft, .slice a2 x.fRight.length c0_0, .bool x.fLiteral, .slice a4 x.fEquations.length c0_1, .slice a5 x.fContributions.length c0_2] 91)).alloc (.cells #[.string ⟨#[]⟩, .string ⟨#[]⟩, .slice none 0 0, .bool false, .slice none 0 0, .slice none 0 0] 91)) = w0 at *
      clear hHi
      have hhi1 : hi ≤ w.heap.size + 2 := by omega
      obtain ⟨iq, hi', hz0, hz1, hz2⟩ := info_parts info_Equation
      go_wp2
      go_loopw [4] (fun i wr => ∃ (k : Nat) (v : Value) (xs : List Value), k ≤ x.fEquations.length ∧ i = .int .i64 (k : Int) ∧ wr.heap[bo]? = some (.cells #[.string x.fName, .string x.fLeft, .slice p9 x.fRight.length q9, .bool x.fLiteral, v, .slice none 0 0] 91) ∧ wr.ownsRow w1.heap.size 139 9 v k xs ∧ Rows w1.heap.size wr 9 v.ownBlock k (fun k => DEquation.ct (x.fEquations.getD k default)) xs ∧ WritesF (fun y => y = bo) w1 wr) (fun i _ => x.fEquations.length - (intOf i).toNat)
      case atStart => exact ⟨0, .slice none 0 0, [], Nat.zero_le _, rfl, HVB.out, ⟨by simp, Or.inl ⟨rfl, rfl⟩⟩, Rows.zero, WritesF.refl _ _⟩
      case round =>
        obtain ⟨k, v, xs, hk, rfl, hblk, hown, hrows, hwr⟩ := hrel
        have HBLK := Lib.hid hblk
        have HO := Lib.hid hown
        have HR := Lib.hid hrows
        have HWR := Lib.hid hwr
        have hszr : w1.heap.size ≤ wr.heap.size := hwr.size
        have HSR := Lib.hid (show wr.heap[w.heap.size]? = some (.cells #[.string x.fName, .string x.fLeft, .slice a2 x.fRight.length c0_0, .bool x.fLiteral, .slice a4 x.fEquations.length c0_1, .slice a5 x.fContributions.length c0_2] 91) from (hwr.block w.heap.size (by omega) (by show ¬ w.heap.size = bo; omega)).trans HBX1.out)
        have b4 : wr.cell? ⟨w.heap.size, 4, none⟩ = some (.slice a4 x.fEquations.length c0_1) := pblk_cell HSR.out rfl
        have n4 := HN4.out
        clear hblk hown hrows
        by_cases hlt : k < x.fEquations.length
        · have HS4r := Lib.hid (sl_kept' HS4'.out (F := fun y => y ≠ bo) (hwr.kept (fun y h => h)) (fun b h1 h2 => by show b ≠ bo; omega) (by omega))
          obtain ⟨rb, ro, rfl, _, hrb, hc⟩ := HS4r.out.at k hlt
          obtain ⟨a9, c9, hc0, hc1, hc2, hc3, hc4, hc5, hc6, hc7, hc8, hs9⟩ := DEquation.open hc
          have hszk : (x.fEquations.getD k default).fExpr.sz ≤ 1048576 := Nat.le_trans (Nat.le_add_left _ _) (HZ4.out k hlt)
          have HC := Lib.hid (fun (W : World) (hW : Kept (fun y => y < wr.heap.size ∧ ¬ False ∧ True) wr W) => DExpr.ind (P := SpecCopy) specCopy_step (x.fEquations.getD k default).fExpr (c6 := c9) hszk W (Nat.le_trans (by omega) hW.1) (sl_kept' hs9 hW (fun b h1 h2 => ⟨by omega, id, trivial⟩) (by omega)))
          have HYE := Lib.hid (show (x.fEquations.getD k default) = (x.fEquations.getD k default) from rfl)
          clear hc hs9 hszk
          have HCT := Lib.hid (show (fun k => DEquation.ct (x.fEquations.getD k default)) k = DEquation.ct (x.fEquations.getD k default) from rfl)
          generalize x.fEquations.getD k default = y at HCT HC hc0 hc1 hc2 hc3 hc4 hc5 hc6 hc7 hc8
          clear HYE
          have HBW_ := Lib.hid (show bo < wr.heap.size by omega)
          have HGL := Lib.hid (show rowAt v (w.heap.size + 1) < wr.heap.size from rowAt_lt (by omega) fun z hz => (HO.out.lt z hz).2)
          have hgn : rowAt v (w.heap.size + 1) ≠ bo := rowAt_ne (by omega) fun z hz => by have := (HO.out.lt z hz).1; omega
          go_wp2_with fail
          refine wp_region_freeK [([], .none, []), ([0], .none, []), ([], .none, []), ([2], .none, []), ([], .none, []), ([3, 4], .none, []), ([5], .none, []), ([6], .none, []), ([], .none, []), ([8], .none, []), ([], .none, []), ([9, 10], .none, []), ([11], .none, []), ([12], .none, []), ([13], .none, []), ([7, 14], .none, []), ([15], .none, []), ([1, 15, 16], .old, []), ([], .none, [17]), ([15, 17, 18], .old, [17])] [0, 1, 2, 3, 4, 5, 6, 7, 8, 9, 10, 11, 12, 13, 14, 15, 16, 17, 18, 19] [17, 19] (fun _ => False) (fun _ => True) (fun jq9 => match jq9 with | 17 => rowAt v (w.heap.size + 1) | 19 => bo | _ => 0) (fun jq9 V L H wx => match jq9 with | 0 => V 0 = .pointer (some ⟨bo, 4, none⟩) | 1 => V 1 = v | 2 => V 2 = .pointer (some ⟨w.heap.size, 4, none⟩) | 3 => V 3 = .slice (some ⟨rb, ro, none⟩) x.fEquations.length c0_1 | 4 => V 4 = .int .i64 (k : Int) | 5 => V 5 = .pointer (some ⟨rb, ro + k * 9, none⟩) | 6 => V 6 = .pointer (some ⟨rb, ro + k * 9, none⟩) | 7 => V 7 = .agg #[.int .i64 y.fAt.fPos, .string y.fAt.fName] | 8 => V 8 = .pointer (some ⟨w.heap.size, 4, none⟩) | 9 => V 9 = .slice (some ⟨rb, ro, none⟩) x.fEquations.length c0_1 | 10 => V 10 = .int .i64 (k : Int) | 11 => V 11 = .pointer (some ⟨rb, ro + k * 9, none⟩) | 12 => V 12 = .pointer (some ⟨rb, ro + k * 9 + 2, none⟩) | 13 => V 13 = .agg #[.int .i64 y.fExpr.fKind, .int .i64 y.fExpr.fN, .int .i64 y.fExpr.fPos, .int .i64 y.fExpr.fType, .string y.fExpr.fSymbol, .string y.fExpr.fName, .slice a9 y.fExpr.fArgs.length c9] | 14 => ∃ ar cr, V 14 = .agg #[.int .i64 y.fExpr.fKind, .int .i64 y.fExpr.fN, .int .i64 y.fExpr.fPos, .int .i64 y.fExpr.fType, .string y.fExpr.fSymbol, .string y.fExpr.fName, .slice ar y.fExpr.fArgs.length cr] ∧ Own wx (fun z => L ≤ z ∧ z < H) (.sl 7 y.fExpr.fArgs.length (ctE y.fExpr.fArgs)) (.slice ar y.fExpr.fArgs.length cr) | 15 => ∃ p9_ q9_, V 15 = .agg #[.int .i64 y.fAt.fPos, .string y.fAt.fName, .int .i64 y.fExpr.fKind, .int .i64 y.fExpr.fN, .int .i64 y.fExpr.fPos, .int .i64 y.fExpr.fType, .string y.fExpr.fSymbol, .string y.fExpr.fName, .slice p9_ y.fExpr.fArgs.length q9_] ∧ V 14 = .agg #[.int .i64 y.fExpr.fKind, .int .i64 y.fExpr.fN, .int .i64 y.fExpr.fPos, .int .i64 y.fExpr.fType, .string y.fExpr.fSymbol, .string y.fExpr.fName, .slice p9_ y.fExpr.fArgs.length q9_] | 16 => ∀ x0 x1 x2 x3 x4 x5 x6 x7 x8, V 15 = .agg #[x0, x1, x2, x3, x4, x5, x6, x7, x8] → V 16 = .slice (some ⟨L, 0, none⟩) 1 1 ∧ L < H ∧ wx.heap[L]? = some (.cells #[x0, x1, x2, x3, x4, x5, x6, x7, x8] 139) | 17 => ∀ x0 x1 x2 x3 x4 x5 x6 x7 x8, V 15 = .agg #[x0, x1, x2, x3, x4, x5, x6, x7, x8] → wx.ownsRow (w1.heap.size) 139 9 (V 17) (k + 1) (xs ++ [x0, x1, x2, x3, x4, x5, x6, x7, x8]) ∧ (∀ g, (V 17).ownBlock = some g → (g = rowAt v (w.heap.size + 1) ∧ (v).ownBlock = some g) ∨ (L ≤ g ∧ g < H)) ∧ ((v).ownBlock ≠ some (rowAt v (w.heap.size + 1)) → wx.heap[rowAt v (w.heap.size + 1)]? = (wr).heap[rowAt v (w.heap.size + 1)]?) | 18 => V 18 = .pointer (some ⟨bo, 4, none⟩) | 19 => (wx.heap[bo]? = (World.setCell wr ⟨bo, 4, none⟩ (V 17)).heap[bo]?) | _ => True) (by kernel_rfl) (by kernel_rfl) ?obs (fun _ h => h.elim) trivial (fun _ _ _ _ _ => trivial) ?loc ?lasts ?walk
          case obs =>
            exact (And.intro (And.intro HGL.out (fun h => h)) (And.intro (And.intro hgn (trivial)) (And.intro (And.intro HBW_.out (fun h => h)) (And.intro (trivial) (trivial)))))
          case loc =>
            intro k V V' L H wx h0 h1 hG
            match k with
            | 0 =>
              try dsimp only at hG ⊢
              rw [← h0]
              exact hG
            | 1 =>
              try dsimp only at hG ⊢
              rw [← h0]
              exact hG
            | 2 =>
              try dsimp only at hG ⊢
              rw [← h0]
              exact hG
            | 3 =>
              try dsimp only at hG ⊢
              rw [← h0]
              exact hG
            | 4 =>
              try dsimp only at hG ⊢
              rw [← h0]
              exact hG
            | 5 =>
              try dsimp only at hG ⊢
              rw [← h0]
              exact hG
            | 6 =>
              try dsimp only at hG ⊢
              rw [← h0]
              exact hG
            | 7 =>
              try dsimp only at hG ⊢
              rw [← h0]
              exact hG
            | 8 =>
              try dsimp only at hG ⊢
              rw [← h0]
              exact hG
            | 9 =>
              try dsimp only at hG ⊢
              rw [← h0]
              exact hG
            | 10 =>
              try dsimp only at hG ⊢
              rw [← h0]
              exact hG
            | 11 =>
              try dsimp only at hG ⊢
              rw [← h0]
              exact hG
            | 12 =>
              try dsimp only at hG ⊢
              rw [← h0]
              exact hG
            | 13 =>
              try dsimp only at hG ⊢
              rw [← h0]
              exact hG
            | 14 =>
              try dsimp only at hG ⊢
              rw [← h0]
              exact hG
            | 15 =>
              have e14 := h1 14 (by decide)
              try dsimp only at hG ⊢
              rw [← h0, ← e14]
              exact hG
            | 16 =>
              have e15 := h1 15 (by decide)
              try dsimp only at hG ⊢
              rw [← h0, ← e15]
              exact hG
            | 17 =>
              have e15 := h1 15 (by decide)
              try dsimp only at hG ⊢
              rw [← h0, ← e15]
              exact hG
            | 18 =>
              try dsimp only at hG ⊢
              rw [← h0]
              exact hG
            | 19 =>
              have e17 := h1 17 (by decide)
              try dsimp only at hG ⊢
              rw [← e17]
              exact hG
            | n + 20 => trivial
          case lasts =>
            intro i hi V L H wx wy hB hH hk
            match i, hi with
            | 0, _ => exact fun h => h
            | 1, _ => exact fun h => h
            | 2, _ => exact fun h => h
            | 3, _ => exact fun h => h
            | 4, _ => exact fun h => h
            | 5, _ => exact fun h => h
            | 6, _ => exact fun h => h
            | 7, _ => exact fun h => h
            | 8, _ => exact fun h => h
            | 9, _ => exact fun h => h
            | 10, _ => exact fun h => h
            | 11, _ => exact fun h => h
            | 12, _ => exact fun h => h
            | 13, _ => exact fun h => h
            | 14, _ => exact fun ⟨ar, cr, hv, ho0⟩ => ⟨ar, cr, hv, ho0.kept (hk.sub fun x hx => .inr (.inl hx))⟩
            | 15, _ => exact fun ⟨p9_, q9_, hv, ho0⟩ => ⟨p9_, q9_, hv, ho0⟩
            | 16, _ => exact fun h x0 x1 x2 x3 x4 x5 x6 x7 x8 hv => ⟨(h x0 x1 x2 x3 x4 x5 x6 x7 x8 hv).1, (h x0 x1 x2 x3 x4 x5 x6 x7 x8 hv).2.1, (hk.2 L (.inr (.inl ⟨Nat.le_refl _, (h x0 x1 x2 x3 x4 x5 x6 x7 x8 hv).2.1⟩)) (Nat.lt_of_lt_of_le (h x0 x1 x2 x3 x4 x5 x6 x7 x8 hv).2.1 hH)).trans (h x0 x1 x2 x3 x4 x5 x6 x7 x8 hv).2.2⟩
            | 17, _ => exact fun h x0 x1 x2 x3 x4 x5 x6 x7 x8 hv => ⟨ownsRow_keptAt (h x0 x1 x2 x3 x4 x5 x6 x7 x8 hv).1 fun g hg => hk.2 g (((h x0 x1 x2 x3 x4 x5 x6 x7 x8 hv).2.1 g hg).elim (fun e => .inr (.inr ⟨rfl, e.1⟩)) fun e => .inr (.inl e)) ((h x0 x1 x2 x3 x4 x5 x6 x7 x8 hv).1.lt g hg).2, (h x0 x1 x2 x3 x4 x5 x6 x7 x8 hv).2.1, fun hne => (hk.2 (rowAt v (w.heap.size + 1)) (.inr (.inr ⟨rfl, rfl⟩)) (Nat.lt_of_lt_of_le HGL.out hB)).trans ((h x0 x1 x2 x3 x4 x5 x6 x7 x8 hv).2.2 hne)⟩
            | 18, _ => exact fun h => h
            | 19, _ => exact fun h => (hk.2 (bo) (.inr (.inr ⟨rfl, rfl⟩)) (Nat.lt_of_lt_of_le HBW_.out hB)).trans h
            | n + 20, hn => exact absurd hn (by simp)
          case walk =>
            simp (maxSteps := 4000000) only [freeK, effK, Nat.reduceAdd, Act.put, List.setIfInBounds_toArray, List.set_cons_succ, List.set_cons_zero]
            refine ⟨?_, ?_, ?_, ?_, ?_, ?_, ?_, ?_, ?_, ?_, ?_, ?_, ?_, ?_, ?_, ?_, ?_, ?_, ?_, ?_, ?_⟩
            · intro V L H wq hw hk hj hd
              clear hd
              go_wp2_with fail
              exact freePost _ rfl ⟨⟨WritesF.refl _ _, hj⟩, upd_self⟩
            · intro V L H wq hw hk hj hd
              obtain ⟨⟨hL0, hM0, hH0, hv0⟩, -⟩ := hd
              rw [hv0]
              have HV0 := Lib.hid hv0
              clear hv0
              have bv_ : wq.cell? ⟨bo, 4, none⟩ = some (v) := (hk.cell (p := ⟨bo, 4, none⟩) ⟨(show bo < wr.heap.size by omega), fun h => h, trivial⟩ (show bo < wr.heap.size by omega)).trans (pblk_cell HBLK.out rfl)
              go_wp2_with fail
              exact freePost _ rfl ⟨⟨WritesF.refl _ _, hj⟩, upd_self⟩
            · intro V L H wq hw hk hj hd
              clear hd
              go_wp2_with fail
              exact freePost _ rfl ⟨⟨WritesF.refl _ _, hj⟩, upd_self⟩
            · intro V L H wq hw hk hj hd
              obtain ⟨⟨hL2, hM2, hH2, hv2⟩, -⟩ := hd
              rw [hv2]
              have HV2 := Lib.hid hv2
              clear hv2
              have b4_ : wq.cell? ⟨w.heap.size, 4, none⟩ = some (.slice (some ⟨rb, ro, none⟩) x.fEquations.length c0_1) := (hk.cell (p := ⟨w.heap.size, 4, none⟩) ⟨(show w.heap.size < wr.heap.size by omega), fun h => h, trivial⟩ (show w.heap.size < wr.heap.size by omega)).trans b4
              go_wp2_with fail
              exact freePost _ rfl ⟨⟨WritesF.refl _ _, hj⟩, upd_self⟩
            · intro V L H wq hw hk hj hd
              clear hd
              go_wp2_with fail
              exact freePost _ rfl ⟨⟨WritesF.refl _ _, hj⟩, upd_self⟩
            · intro V L H wq hw hk hj hd
              obtain ⟨⟨hL3, hM3, hH3, hv3⟩, ⟨hL4, hM4, hH4, hv4⟩, -⟩ := hd
              rw [hv3, hv4]
              have HV3 := Lib.hid hv3
              have HV4 := Lib.hid hv4
              clear hv3 hv4
              go_wp2_with fail
              exact freePost _ rfl ⟨⟨WritesF.refl _ _, hj⟩, upd_self⟩
            · intro V L H wq hw hk hj hd
              obtain ⟨⟨hL5, hM5, hH5, hv5⟩, -⟩ := hd
              rw [hv5]
              have HV5 := Lib.hid hv5
              clear hv5
              go_wp2_with fail
              exact freePost _ rfl ⟨⟨WritesF.refl _ _, hj⟩, upd_self⟩
            · intro V L H wq hw hk hj hd
              obtain ⟨⟨hL6, hM6, hH6, hv6⟩, -⟩ := hd
              rw [hv6]
              have HV6 := Lib.hid hv6
              clear hv6
              have hc0_ : wq.cell? ⟨rb, ro + k * 9, none⟩ = some (.int .i64 y.fAt.fPos) := (hk.cell (p := ⟨rb, ro + k * 9, none⟩) ⟨(show rb < wr.heap.size by omega), fun h => h, trivial⟩ (show rb < wr.heap.size by omega)).trans hc0
              have hc1_ : wq.cell? ⟨rb, ro + k * 9 + 1, none⟩ = some (.string y.fAt.fName) := (hk.cell (p := ⟨rb, ro + k * 9 + 1, none⟩) ⟨(show rb < wr.heap.size by omega), fun h => h, trivial⟩ (show rb < wr.heap.size by omega)).trans hc1
              go_wp2_with fail
              exact freePost _ rfl ⟨⟨WritesF.refl _ _, hj⟩, upd_self⟩
            · intro V L H wq hw hk hj hd
              clear hd
              go_wp2_with fail
              exact freePost _ rfl ⟨⟨WritesF.refl _ _, hj⟩, upd_self⟩
            · intro V L H wq hw hk hj hd
              obtain ⟨⟨hL8, hM8, hH8, hv8⟩, -⟩ := hd
              rw [hv8]
              have HV8 := Lib.hid hv8
              clear hv8
              have b4_ : wq.cell? ⟨w.heap.size, 4, none⟩ = some (.slice (some ⟨rb, ro, none⟩) x.fEquations.length c0_1) := (hk.cell (p := ⟨w.heap.size, 4, none⟩) ⟨(show w.heap.size < wr.heap.size by omega), fun h => h, trivial⟩ (show w.heap.size < wr.heap.size by omega)).trans b4
              go_wp2_with fail
              exact freePost _ rfl ⟨⟨WritesF.refl _ _, hj⟩, upd_self⟩
            · intro V L H wq hw hk hj hd
              clear hd
              go_wp2_with fail
              exact freePost _ rfl ⟨⟨WritesF.refl _ _, hj⟩, upd_self⟩
            · intro V L H wq hw hk hj hd
              obtain ⟨⟨hL9, hM9, hH9, hv9⟩, ⟨hL10, hM10, hH10, hv10⟩, -⟩ := hd
              rw [hv9, hv10]
              have HV9 := Lib.hid hv9
              have HV10 := Lib.hid hv10
              clear hv9 hv10
              go_wp2_with fail
              exact freePost _ rfl ⟨⟨WritesF.refl _ _, hj⟩, upd_self⟩
            · intro V L H wq hw hk hj hd
              obtain ⟨⟨hL11, hM11, hH11, hv11⟩, -⟩ := hd
              rw [hv11]
              have HV11 := Lib.hid hv11
              clear hv11
              go_wp2_with fail
              exact freePost _ rfl ⟨⟨WritesF.refl _ _, hj⟩, upd_self⟩
            · intro V L H wq hw hk hj hd
              obtain ⟨⟨hL12, hM12, hH12, hv12⟩, -⟩ := hd
              rw [hv12]
              have HV12 := Lib.hid hv12
              clear hv12
              have hc2_ : wq.cell? ⟨rb, ro + k * 9 + 2, none⟩ = some (.int .i64 y.fExpr.fKind) := (hk.cell (p := ⟨rb, ro + k * 9 + 2, none⟩) ⟨(show rb < wr.heap.size by omega), fun h => h, trivial⟩ (show rb < wr.heap.size by omega)).trans hc2
              have hc3_ : wq.cell? ⟨rb, ro + k * 9 + 3, none⟩ = some (.int .i64 y.fExpr.fN) := (hk.cell (p := ⟨rb, ro + k * 9 + 3, none⟩) ⟨(show rb < wr.heap.size by omega), fun h => h, trivial⟩ (show rb < wr.heap.size by omega)).trans hc3
              have hc4_ : wq.cell? ⟨rb, ro + k * 9 + 4, none⟩ = some (.int .i64 y.fExpr.fPos) := (hk.cell (p := ⟨rb, ro + k * 9 + 4, none⟩) ⟨(show rb < wr.heap.size by omega), fun h => h, trivial⟩ (show rb < wr.heap.size by omega)).trans hc4
              have hc5_ : wq.cell? ⟨rb, ro + k * 9 + 5, none⟩ = some (.int .i64 y.fExpr.fType) := (hk.cell (p := ⟨rb, ro + k * 9 + 5, none⟩) ⟨(show rb < wr.heap.size by omega), fun h => h, trivial⟩ (show rb < wr.heap.size by omega)).trans hc5
              have hc6_ : wq.cell? ⟨rb, ro + k * 9 + 6, none⟩ = some (.string y.fExpr.fSymbol) := (hk.cell (p := ⟨rb, ro + k * 9 + 6, none⟩) ⟨(show rb < wr.heap.size by omega), fun h => h, trivial⟩ (show rb < wr.heap.size by omega)).trans hc6
              have hc7_ : wq.cell? ⟨rb, ro + k * 9 + 7, none⟩ = some (.string y.fExpr.fName) := (hk.cell (p := ⟨rb, ro + k * 9 + 7, none⟩) ⟨(show rb < wr.heap.size by omega), fun h => h, trivial⟩ (show rb < wr.heap.size by omega)).trans hc7
              have hc8_ : wq.cell? ⟨rb, ro + k * 9 + 8, none⟩ = some (.slice a9 y.fExpr.fArgs.length c9) := (hk.cell (p := ⟨rb, ro + k * 9 + 8, none⟩) ⟨(show rb < wr.heap.size by omega), fun h => h, trivial⟩ (show rb < wr.heap.size by omega)).trans hc8
              go_wp2_with fail
              exact freePost _ rfl ⟨⟨WritesF.refl _ _, hj⟩, upd_self⟩
            · intro V L H wq hw hk hj hd
              obtain ⟨⟨hL13, hM13, hH13, hv13⟩, -⟩ := hd
              rw [hv13]
              have HV13 := Lib.hid hv13
              clear hv13
              go_wp2_with fail
              refine (HC.out wq hk).mono ?_
              rintro e w2 ⟨ar, cr, rfl, ho2, hb2⟩
              go_wp2_with fail
              exact freePost _ rfl ⟨⟨(WritesF.refl _ _).later hb2, trivial⟩, Exists.intro ar (Exists.intro cr (And.intro (upd_self) (ho2)))⟩
            · intro V L H wq hw hk hj hd
              obtain ⟨⟨hL7, hM7, hH7, hv7⟩, ⟨hL14, hM14, hH14, ar, cr, hv14, ho14_0⟩, -⟩ := hd
              rw [hv7, hv14]
              have HV7 := Lib.hid hv7
              have HV14 := Lib.hid hv14
              clear hv7 hv14
              go_wp2_with fail
              exact freePost _ rfl ⟨⟨WritesF.refl _ _, hj⟩, Exists.intro ar (Exists.intro cr (And.intro (upd_self) ((upd_ne (by decide)).trans HV14.out)))⟩
            · intro V L H wq hw hk hj hd
              obtain ⟨⟨hL15, hM15, hH15, p9_, q9_, hv15, ho15_0⟩, -⟩ := hd
              rw [hv15]
              have HV15 := Lib.hid hv15
              clear hv15
              go_wp2_with fail
              refine freePost _ rfl ⟨⟨(WritesF.refl _ _).later ((Below.refl _ _).alloc (Nat.le_refl _) _), trivial⟩, fun x0 x1 x2 x3 x4 x5 x6 x7 x8 h => ?_⟩
              cases (HV15.out.symm.trans ((upd_ne (by decide)).symm.trans h))
              exact ⟨upd_self, by simp, blk_new rfl⟩
            · intro V L H wq hw hk hj hd
              obtain ⟨⟨hL1, hM1, hH1, hv1⟩, ⟨hL15, hM15, hH15, p9_, q9_, hv15, ho15_0⟩, ⟨hL16, hM16, hH16, hst16_⟩, -⟩ := hd
              rw [hv1, hv15]
              have HV1 := Lib.hid hv1
              have HV15 := Lib.hid hv15
              clear hv1 hv15
              obtain ⟨hv16, hlt16, hc16⟩ := hst16_ _ _ _ _ _ _ _ _ _ HV15.out
              rw [hv16]
              have hown1 : wq.ownsRow (w1.heap.size) 139 9 (v) (k) (xs) := ownsRow_keptAt HO.out fun g hg => hk.2 g ⟨(HO.out.lt g hg).2, fun h => h, trivial⟩ (HO.out.lt g hg).2
              have HOWN1 := Lib.hid hown1
              clear hown1
              have hnews := cells_at hc16
              have HNEWS := Lib.hid hnews
              clear hnews hc16
              have hbw1 : (w1.heap.size) ≤ wq.heap.size := by have := hk.1; omega
              go_wp2_with (at_builtin; refine wpList_append_at rfl (.tmp 26) (.tmp 41) 88 rfl (w1.heap.size) 139 iq (.agg #[.int .i64 0, .string ⟨#[]⟩, .int .i64 0, .int .i64 0, .int .i64 0, .int .i64 0, .string ⟨#[]⟩, .string ⟨#[]⟩, .slice none 0 0]) 9 112 Try.underlying88 hi' hz0 hz1 hz2 rfl (by decide) _ _ _ rfl HOWN1.out ⟨L 16, 0, none⟩ 1 1 [.int .i64 y.fAt.fPos, .string y.fAt.fName, .int .i64 y.fExpr.fKind, .int .i64 y.fExpr.fN, .int .i64 y.fExpr.fPos, .int .i64 y.fExpr.fType, .string y.fExpr.fSymbol, .string y.fExpr.fName, .slice p9_ y.fExpr.fArgs.length q9_] rfl rfl HNEWS.out (by intro u hu; simp at hu; rcases hu with rfl | rfl | rfl | rfl | rfl | rfl | rfl | rfl | rfl <;> rfl) (by unfold maxLen; omega) (by omega) hbw1 ?_; intro v' w2 hown' hgrow hat)
              refine freePost v' rfl ⟨touches_grown hgrow (fun x h => rowAt_of x h), fun x0 x1 x2 x3 x4 x5 x6 x7 x8 h => ?_⟩
              cases (HV15.out.symm.trans ((upd_ne (by decide)).symm.trans h))
              refine ⟨by rw [upd_self]; exact hown', fun g hg => ?_, fun hne => (hgrow.block (rowAt v (w.heap.size + 1)) (Nat.lt_of_lt_of_le HGL.out hk.1) (fun e => hne e.symm)).trans (hk.2 (rowAt v (w.heap.size + 1)) ⟨HGL.out, fun h => h, trivial⟩ HGL.out)⟩
              rw [upd_self] at hg
              rcases hat with e | e
              · left; exact ⟨(fun x h => rowAt_of x h) g (e ▸ hg), e ▸ hg⟩
              · right; rw [e] at hg; simp only [Option.some.injEq] at hg; have := (hown'.lt g (by rw [e, hg])).2; omega
            · intro V L H wq hw hk hj hd
              clear hd
              go_wp2_with fail
              exact freePost _ rfl ⟨⟨WritesF.refl _ _, hj⟩, upd_self⟩
            · intro V L H wq hw hk hj hd
              obtain ⟨⟨hL15, hM15, hH15, p9_, q9_, hv15, ho15_0⟩, ⟨hL17, hM17, hH17, hst17_⟩, ⟨hL18, hM18, hH18, hv18⟩, -⟩ := hd
              rw [hv15, hv18]
              have HV15 := Lib.hid hv15
              have HV18 := Lib.hid hv18
              clear hv15 hv18
              obtain ⟨hownS, -⟩ := hst17_ _ _ _ _ _ _ _ _ _ HV15.out
              obtain ⟨aS, cS, hvS⟩ := own_form hownS
              rw [hvS]
              clear hownS
              have hbe : wq.heap[bo]? = wr.heap[bo]? := hk.2 bo ⟨by omega, fun h => h, ⟨Ne.symm hgn, trivial⟩⟩ (by omega)
              have hc_0 := (World.cell?_of_block (a := ⟨bo, 4, none⟩) hbe).trans (pblk_cell (v := v) HBLK.out rfl)
              have hf_0 := (World.frozen?_of_block (a := ⟨bo, 4, none⟩) hbe).trans (pblk_frozen HBLK.out)
              have HBE := Lib.hid hbe
              clear hbe
              go_wp2_with fail
              exact freePost undef rfl ⟨Touches.put (L := bo) (H := bo + 1) Touches.refl (p := ⟨bo, 4, none⟩) ⟨Nat.le_refl _, Nat.lt_succ_self _⟩ _, by show _ = (World.setCell wr ⟨bo, 4, none⟩ (upd V 19 undef 17)).heap[bo]?; rw [upd_ne (by decide)]; exact (by rw [hvS]; exact heap_set_sameR HBE.out)⟩
            · intro V L H wq hw hj hd hap hdead
              obtain ⟨⟨hL0, hM0, hH0, hv0⟩, ⟨hL1, hM1, hH1, hv1⟩, ⟨hL2, hM2, hH2, hv2⟩, ⟨hL3, hM3, hH3, hv3⟩, ⟨hL4, hM4, hH4, hv4⟩, ⟨hL5, hM5, hH5, hv5⟩, ⟨hL6, hM6, hH6, hv6⟩, ⟨hL7, hM7, hH7, hv7⟩, ⟨hL8, hM8, hH8, hv8⟩, ⟨hL9, hM9, hH9, hv9⟩, ⟨hL10, hM10, hH10, hv10⟩, ⟨hL11, hM11, hH11, hv11⟩, ⟨hL12, hM12, hH12, hv12⟩, ⟨hL13, hM13, hH13, hv13⟩, ⟨hL14, hM14, hH14, ar, cr, hv14, ho14_0⟩, ⟨hL15, hM15, hH15, p9_, q9_, hv15, ho15_0⟩, ⟨hL16, hM16, hH16, hst16_⟩, ⟨hL17, hM17, hH17, hst17_⟩, ⟨hL18, hM18, hH18, hv18⟩, ⟨hL19, hM19, hH19, hst19_⟩, -⟩ := hd
              obtain ⟨hv16, -, -⟩ := hst16_ _ _ _ _ _ _ _ _ _ hv15
              obtain ⟨hown17, hrow17, hgb17⟩ := hst17_ _ _ _ _ _ _ _ _ _ hv15
              obtain ⟨vA17, hv17⟩ : ∃ z, V 17 = z := ⟨_, rfl⟩
              rw [hv17] at hown17 hrow17
              have pb19 := hst19_
              rw [hv17] at pb19
              have KV14 := hv14
              rw [hv0, hv1, hv2, hv3, hv4, hv5, hv6, hv7, hv8, hv9, hv10, hv11, hv12, hv13, hv14, hv15, hv16, hv17, hv18]
              clear hv0 hv1 hv2 hv3 hv4 hv5 hv6 hv7 hv8 hv9 hv10 hv11 hv12 hv13 hv14 hv15 hv16 hv17 hv18
              obtain ⟨e1, e2⟩ : p9_ = ar ∧ q9_ = cr := by have h := ho15_0.symm.trans KV14; simpa using h
              subst e1 e2
              obtain ⟨aV, cV, rfl⟩ := own_form hown17
              have HBL2 := Lib.hid (show wq.heap[bo]? = some (.cells #[.string x.fName, .string x.fLeft, .slice p9 x.fRight.length q9, .bool x.fLiteral, .slice aV (k + 1) cV, .slice none 0 0] 91) from pb19.trans (pblk_put HBLK.out rfl))
              have HWQ := Lib.hid (show WritesF (fun y => y = bo) w1 wq from ⟨hw.os.trans HWR.out.os, hw.tape.trans HWR.out.tape, hw.output.trans HWR.out.output, Nat.le_trans HWR.out.size hw.size, fun b hb hne => by
                refine Eq.trans ?_ (HWR.out.block b hb hne)
                by_cases hbg : b = rowAt v (w.heap.size + 1)
                · subst hbg
                  exact hgb17 (fun e => by have := (HO.out.lt _ e).1; omega)
                · exact hw.block b (Nat.lt_of_lt_of_le hb HWR.out.size) (fun hfa => hfa.elim id (fun h => h ⟨hbg, hne, trivial⟩))⟩)
              have hk2 : Kept (fun z => w1.heap.size ≤ z ∧ z < wr.heap.size ∧ v.ownBlock ≠ some z) wr wq := ⟨hw.size, fun b hb hs => by
                have hb1 : w1.heap.size ≤ b := hb.1
                refine Eq.trans (hw.block b hs (fun hfa => hfa.elim id (fun h => h ⟨fun e => rowAt_ne (v := v) (d := w.heap.size + 1) (b := b) (by omega) (fun z hz e2 => hb.2.2 (by rw [hz, e2])) e.symm, fun e => by have e9 : b = bo := e; omega, trivial⟩))) rfl⟩
              have hu : OwnR wq (fun z => L 14 ≤ z ∧ z < H 14) 9 ((fun k => DEquation.ct (x.fEquations.getD k default)) k) (fun j => ([.int .i64 y.fAt.fPos, .string y.fAt.fName, .int .i64 y.fExpr.fKind, .int .i64 y.fExpr.fN, .int .i64 y.fExpr.fPos, .int .i64 y.fExpr.fType, .string y.fExpr.fSymbol, .string y.fExpr.fName, .slice p9_ y.fExpr.fArgs.length q9_] : List Value).getD j .nilFunc) := (ownR_eqn ho14_0).congr (fun j hj => (congrFun HCT.out j).symm) (fun _ _ => rfl)
              have HRW := Lib.hid (Rows.step2 HR.out hszr hk2 hu (fun z hz => ⟨Nat.le_trans hL14 hz.1, Nat.lt_of_lt_of_le hz.2 hH14⟩) (fun z hz => (HO.out.lt z hz).2) (by
                obtain ⟨g, hg⟩ := own_blk hown17
                rcases hrow17 g hg with ⟨_, h⟩ | ⟨h1, h2⟩
                · exact .inl (hg.trans h.symm)
                · have hla : _ ≤ L 17 := hL17
                  exact .inr ⟨g, hg, Nat.le_trans hla h1, fun hz => by have h3 := hz.1; have h4 := hz.2; rcases hap 14 17 (by decide) (by decide) (by decide) with h | h <;> omega⟩) HO.out.1)
              have HOW := Lib.hid hown17
              clear hk2 hu hw hj hap hdead
              go_wp2
              go_roundw
              case rel => exact ⟨k + 1, _, _, by omega, by go_num, HBL2.out, HOW.out, HRW.out, HWQ.out⟩
              case measure => simp [intOf]; omega
        · obtain rfl : k = x.fEquations.length := by omega
          obtain ⟨r4, q4, rfl, ho4⟩ := Rows.own HR.out HO.out
          have HO4 := Lib.hid ho4
          have hsz3 : w1.heap.size ≤ wr.heap.size := hszr
          clear ho4 HR HO hk hlt HSR HS4' HN4 HZ4 hszr hwr
          generalize wr = w3 at *
          obtain ⟨iq, hi', hz0, hz1, hz2⟩ := info_parts info_Contribution
          have HSR3 := Lib.hid (show w3.heap[w.heap.size]? = some (.cells #[.string x.fName, .string x.fLeft, .slice a2 x.fRight.length c0_0, .bool x.fLiteral, .slice a4 x.fEquations.length c0_1, .slice a5 x.fContributions.length c0_2] 91) from (HWR.out.block w.heap.size (by omega) (by show ¬ w.heap.size = bo; omega)).trans HBX1.out)
          have b5 : w3.cell? ⟨w.heap.size, 5, none⟩ = some (.slice a5 x.fContributions.length c0_2) := pblk_cell HSR3.out rfl
          go_wp2
          go_loopw [5] (fun i wr => ∃ (k : Nat) (v : Value) (xs : List Value), k ≤ x.fContributions.length ∧ i = .int .i64 (k : Int) ∧ wr.heap[bo]? = some (.cells #[.string x.fName, .string x.fLeft, .slice p9 x.fRight.length q9, .bool x.fLiteral, .slice r4 x.fEquations.length q4, v] 91) ∧ wr.ownsRow w3.heap.size 142 16 v k xs ∧ Rows w3.heap.size wr 16 v.ownBlock k (fun k => DContribution.ct (x.fContributions.getD k default)) xs ∧ WritesF (fun y => y = bo) w3 wr) (fun i _ => x.fContributions.length - (intOf i).toNat)
          case atStart => exact ⟨0, .slice none 0 0, [], Nat.zero_le _, rfl, HBLK.out, ⟨by simp, Or.inl ⟨rfl, rfl⟩⟩, Rows.zero, WritesF.refl _ _⟩
          case round =>
            clear b5
            obtain ⟨k, v, xs, hk, rfl, hblk, hown, hrows, hwr⟩ := hrel
            have HBLK2 := Lib.hid hblk
            have HO := Lib.hid hown
            have HR := Lib.hid hrows
            have HWR2 := Lib.hid hwr
            have hszr : w3.heap.size ≤ wr.heap.size := hwr.size
            have HSR := Lib.hid (show wr.heap[w.heap.size]? = some (.cells #[.string x.fName, .string x.fLeft, .slice a2 x.fRight.length c0_0, .bool x.fLiteral, .slice a4 x.fEquations.length c0_1, .slice a5 x.fContributions.length c0_2] 91) from (hwr.block w.heap.size (by omega) (by show ¬ w.heap.size = bo; omega)).trans HSR3.out)
            have b5 : wr.cell? ⟨w.heap.size, 5, none⟩ = some (.slice a5 x.fContributions.length c0_2) := pblk_cell HSR.out rfl
            have n5 := HN5.out
            clear hblk hown hrows HBLK
            have HBLK := HBLK2
            clear HBLK2
            by_cases hlt : k < x.fContributions.length
            · have HS5r := Lib.hid (sl_kept' HS5'.out (F := fun y => y ≠ bo) ((HWR.out.trans hwr).kept (fun y h => h)) (fun b h1 h2 => by show b ≠ bo; omega) (by omega))
              obtain ⟨rb, ro, rfl, _, hrb, hc⟩ := HS5r.out.at k hlt
              obtain ⟨a9, c9, a10, c10, hc0, hc1, hc2, hc3, hc4, hc5, hc6, hc7, hc8, hc9, hc10, hc11, hc12, hc13, hc14, hc15, hs9, hs10⟩ := DContribution.open hc
              have hzk := HZ5.out k hlt
              have hszk : (x.fContributions.getD k default).fTarget.sz ≤ 1048576 ∧ (x.fContributions.getD k default).fValue.sz ≤ 1048576 := by unfold DContribution.sz at hzk; omega
              have HC1 := Lib.hid (fun (W : World) (hW : Kept (fun y => y < wr.heap.size) wr W) => DExpr.ind (P := SpecCopy) specCopy_step (x.fContributions.getD k default).fTarget (c6 := c9) hszk.1 W (Nat.le_trans (by omega) hW.1) (sl_kept' hs9 hW (fun b h1 h2 => by show b < _; omega) (by omega)))
              have HC2 := Lib.hid (fun (W : World) (hW : Kept (fun y => y < wr.heap.size) wr W) => DExpr.ind (P := SpecCopy) specCopy_step (x.fContributions.getD k default).fValue (c6 := c10) hszk.2 W (Nat.le_trans (by omega) hW.1) (sl_kept' hs10 hW (fun b h1 h2 => by show b < _; omega) (by omega)))
              have hr1 : wr.rangeAt rb (ro + k * 16) [.string (x.fContributions.getD k default).fSymbol, .string (x.fContributions.getD k default).fName, .int .i64 (x.fContributions.getD k default).fTarget.fKind, .int .i64 (x.fContributions.getD k default).fTarget.fN, .int .i64 (x.fContributions.getD k default).fTarget.fPos, .int .i64 (x.fContributions.getD k default).fTarget.fType, .string (x.fContributions.getD k default).fTarget.fSymbol, .string (x.fContributions.getD k default).fTarget.fName, .slice a9 (x.fContributions.getD k default).fTarget.fArgs.length c9, .int .i64 (x.fContributions.getD k default).fValue.fKind, .int .i64 (x.fContributions.getD k default).fValue.fN, .int .i64 (x.fContributions.getD k default).fValue.fPos, .int .i64 (x.fContributions.getD k default).fValue.fType, .string (x.fContributions.getD k default).fValue.fSymbol, .string (x.fContributions.getD k default).fValue.fName, .slice a10 (x.fContributions.getD k default).fValue.fArgs.length c10] := (rangeAt_consR hc0 (rangeAt_consR hc1 (rangeAt_consR hc2 (rangeAt_consR hc3 (rangeAt_consR hc4 (rangeAt_consR hc5 (rangeAt_consR hc6 (rangeAt_consR hc7 (rangeAt_consR hc8 (rangeAt_consR hc9 (rangeAt_consR hc10 (rangeAt_consR hc11 (rangeAt_consR hc12 (rangeAt_consR hc13 (rangeAt_consR hc14 (rangeAt_consR hc15 rangeAt_nilR))))))))))))))))
              have HCT := Lib.hid (show (fun k => DContribution.ct (x.fContributions.getD k default)) k = DContribution.ct (x.fContributions.getD k default) from rfl)
              clear hc hs9 hs10 hszk hzk hc0 hc1 hc2 hc3 hc4 hc5 hc6 hc7 hc8 hc9 hc10 hc11 hc12 hc13 hc14 hc15
              generalize x.fContributions.getD k default = y at HCT HC1 HC2 hr1
              have HSX : Hid ((Try.prog.info? 142).map (·.size) = some ([.string y.fSymbol, .string y.fName, .int .i64 y.fTarget.fKind, .int .i64 y.fTarget.fN, .int .i64 y.fTarget.fPos, .int .i64 y.fTarget.fType, .string y.fTarget.fSymbol, .string y.fTarget.fName, .slice a9 y.fTarget.fArgs.length c9, .int .i64 y.fValue.fKind, .int .i64 y.fValue.fN, .int .i64 y.fValue.fPos, .int .i64 y.fValue.fType, .string y.fValue.fSymbol, .string y.fValue.fName, .slice a10 y.fValue.fArgs.length c10] : List Value).length) := Lib.hid (by kernel_rfl)
              have HOX : Hid (([.string y.fSymbol, .string y.fName, .int .i64 y.fTarget.fKind, .int .i64 y.fTarget.fN, .int .i64 y.fTarget.fPos, .int .i64 y.fTarget.fType, .string y.fTarget.fSymbol, .string y.fTarget.fName, .slice a9 y.fTarget.fArgs.length c9, .int .i64 y.fValue.fKind, .int .i64 y.fValue.fN, .int .i64 y.fValue.fPos, .int .i64 y.fValue.fType, .string y.fValue.fSymbol, .string y.fValue.fName, .slice a10 y.fValue.fArgs.length c10] : List Value).toArray.all (·.oneCell') = true) := Lib.hid (by simp [Value.oneCell'])
              have HZX : Hid (([.string y.fSymbol, .string y.fName, .int .i64 y.fTarget.fKind, .int .i64 y.fTarget.fN, .int .i64 y.fTarget.fPos, .int .i64 y.fTarget.fType, .string y.fTarget.fSymbol, .string y.fTarget.fName, .slice a9 y.fTarget.fArgs.length c9, .int .i64 y.fValue.fKind, .int .i64 y.fValue.fN, .int .i64 y.fValue.fPos, .int .i64 y.fValue.fType, .string y.fValue.fSymbol, .string y.fValue.fName, .slice a10 y.fValue.fArgs.length c10] : List Value).length = 16) := Lib.hid rfl
              obtain ⟨X, hX⟩ : ∃ X, X = ([.string y.fSymbol, .string y.fName, .int .i64 y.fTarget.fKind, .int .i64 y.fTarget.fN, .int .i64 y.fTarget.fPos, .int .i64 y.fTarget.fType, .string y.fTarget.fSymbol, .string y.fTarget.fName, .slice a9 y.fTarget.fArgs.length c9, .int .i64 y.fValue.fKind, .int .i64 y.fValue.fN, .int .i64 y.fValue.fPos, .int .i64 y.fValue.fType, .string y.fValue.fSymbol, .string y.fValue.fName, .slice a10 y.fValue.fArgs.length c10] : List Value) := ⟨_, rfl⟩
              rw [← hX] at HSX HOX HZX hr1
              have HX := Lib.hid hX
              have HR1 := Lib.hid hr1
              clear hX hr1
              have HGL0 := Lib.hid (show rowAt v (w.heap.size + 1) < wr.heap.size from rowAt_lt (by omega) fun z hz => (HO.out.lt z hz).2)
              have hgn : rowAt v (w.heap.size + 1) ≠ bo := rowAt_ne (by omega) fun z hz => by have := (HO.out.lt z hz).1; omega
              obtain ⟨W4, hW4⟩ : ∃ W, wr.alloc (.cells X.toArray 142) = W := ⟨_, rfl⟩
              have HW4 := Lib.hid hW4
              have HB4 := Lib.hid (show Below wr.heap.size wr W4 from by rw [← hW4]; exact (Below.refl _ _).alloc (Nat.le_refl _) _)
              have HP4 := Lib.hid (show W4.heap[wr.heap.size]? = some (.cells X.toArray 142) from by rw [← hW4]; exact blk_new rfl)
              have hz4 : W4.heap.size = wr.heap.size + 1 := by rw [← hW4]; simp
              have HZ4 := Lib.hid hz4
              clear hW4 hz4
              have HBW_ := Lib.hid (show bo < W4.heap.size by have := HZ4.out; omega)
              have HGL := Lib.hid (show rowAt v (w.heap.size + 1) < W4.heap.size from by have := HZ4.out; have := HGL0.out; omega)
              go_wp2_with (first
                | (refine wpList_load_mid rfl 142 (.tmp 54) rfl rb (ro + k * 16) rfl X _ HR1.out Try.underlying142 rfl HSX.out ?_)
                | (refine wpList_store_rowTo rfl 142 (.tmp 6) (.tmp 55) rfl rfl wr.heap.size X.toArray rfl rfl 142 _ (blk_new rfl) HSX.out HZX.out.symm HOX.out ?_; rw [setRow_newR rfl]; rw [HW4.out]; refine StopR.of ?_))
              refine StopR.to ?_
              clear b5
              go_wp2_with fail
              have HBLK4 := Lib.hid ((HB4.out.block bo (by omega)).trans HBLK.out)
              refine wp_region_freeK [([], .none, []), ([0], .none, []), ([], .none, []), ([2], .none, []), ([], .none, []), ([4], .none, []), ([], .none, []), ([6], .none, []), ([7], .none, []), ([], .none, []), ([9], .none, []), ([10], .none, []), ([3, 5, 8, 11], .none, []), ([12], .none, []), ([1, 12, 13], .old, []), ([], .none, [14]), ([12, 14, 15], .old, [14])] [0, 1, 2, 3, 4, 5, 6, 7, 8, 9, 10, 11, 12, 13, 14, 15, 16] [14, 16] (fun _ => False) (fun _ => True) (fun jq9 => match jq9 with | 14 => rowAt v (w.heap.size + 1) | 16 => bo | _ => 0) (fun jq9 V L H wx => match jq9 with | 0 => V 0 = .pointer (some ⟨bo, 5, none⟩) | 1 => V 1 = v | 2 => V 2 = .pointer (some ⟨wr.heap.size, 0, none⟩) | 3 => V 3 = .string y.fSymbol | 4 => V 4 = .pointer (some ⟨wr.heap.size, 1, none⟩) | 5 => V 5 = .string y.fName | 6 => V 6 = .pointer (some ⟨wr.heap.size, 2, none⟩) | 7 => V 7 = .agg #[.int .i64 y.fTarget.fKind, .int .i64 y.fTarget.fN, .int .i64 y.fTarget.fPos, .int .i64 y.fTarget.fType, .string y.fTarget.fSymbol, .string y.fTarget.fName, .slice a9 y.fTarget.fArgs.length c9] | 8 => ∃ ar cr, V 8 = .agg #[.int .i64 y.fTarget.fKind, .int .i64 y.fTarget.fN, .int .i64 y.fTarget.fPos, .int .i64 y.fTarget.fType, .string y.fTarget.fSymbol, .string y.fTarget.fName, .slice ar y.fTarget.fArgs.length cr] ∧ Own wx (fun z => L ≤ z ∧ z < H) (.sl 7 y.fTarget.fArgs.length (ctE y.fTarget.fArgs)) (.slice ar y.fTarget.fArgs.length cr) | 9 => V 9 = .pointer (some ⟨wr.heap.size, 9, none⟩) | 10 => V 10 = .agg #[.int .i64 y.fValue.fKind, .int .i64 y.fValue.fN, .int .i64 y.fValue.fPos, .int .i64 y.fValue.fType, .string y.fValue.fSymbol, .string y.fValue.fName, .slice a10 y.fValue.fArgs.length c10] | 11 => ∃ as_ cs_, V 11 = .agg #[.int .i64 y.fValue.fKind, .int .i64 y.fValue.fN, .int .i64 y.fValue.fPos, .int .i64 y.fValue.fType, .string y.fValue.fSymbol, .string y.fValue.fName, .slice as_ y.fValue.fArgs.length cs_] ∧ Own wx (fun z => L ≤ z ∧ z < H) (.sl 7 y.fValue.fArgs.length (ctE y.fValue.fArgs)) (.slice as_ y.fValue.fArgs.length cs_) | 12 => ∃ p8 q8 p11 q11, V 12 = .agg #[.string y.fSymbol, .string y.fName, .int .i64 y.fTarget.fKind, .int .i64 y.fTarget.fN, .int .i64 y.fTarget.fPos, .int .i64 y.fTarget.fType, .string y.fTarget.fSymbol, .string y.fTarget.fName, .slice p8 y.fTarget.fArgs.length q8, .int .i64 y.fValue.fKind, .int .i64 y.fValue.fN, .int .i64 y.fValue.fPos, .int .i64 y.fValue.fType, .string y.fValue.fSymbol, .string y.fValue.fName, .slice p11 y.fValue.fArgs.length q11] ∧ V 8 = .agg #[.int .i64 y.fTarget.fKind, .int .i64 y.fTarget.fN, .int .i64 y.fTarget.fPos, .int .i64 y.fTarget.fType, .string y.fTarget.fSymbol, .string y.fTarget.fName, .slice p8 y.fTarget.fArgs.length q8] ∧ V 11 = .agg #[.int .i64 y.fValue.fKind, .int .i64 y.fValue.fN, .int .i64 y.fValue.fPos, .int .i64 y.fValue.fType, .string y.fValue.fSymbol, .string y.fValue.fName, .slice p11 y.fValue.fArgs.length q11] | 13 => ∀ x0 x1 x2 x3 x4 x5 x6 x7 x8 x9 x10 x11 x12 x13 x14 x15, V 12 = .agg #[x0, x1, x2, x3, x4, x5, x6, x7, x8, x9, x10, x11, x12, x13, x14, x15] → V 13 = .slice (some ⟨L, 0, none⟩) 1 1 ∧ L < H ∧ wx.heap[L]? = some (.cells #[x0, x1, x2, x3, x4, x5, x6, x7, x8, x9, x10, x11, x12, x13, x14, x15] 142) | 14 => ∀ x0 x1 x2 x3 x4 x5 x6 x7 x8 x9 x10 x11 x12 x13 x14 x15, V 12 = .agg #[x0, x1, x2, x3, x4, x5, x6, x7, x8, x9, x10, x11, x12, x13, x14, x15] → wx.ownsRow (w3.heap.size) 142 16 (V 14) (k + 1) (xs ++ [x0, x1, x2, x3, x4, x5, x6, x7, x8, x9, x10, x11, x12, x13, x14, x15]) ∧ (∀ g, (V 14).ownBlock = some g → (g = rowAt v (w.heap.size + 1) ∧ (v).ownBlock = some g) ∨ (L ≤ g ∧ g < H)) ∧ ((v).ownBlock ≠ some (rowAt v (w.heap.size + 1)) → wx.heap[rowAt v (w.heap.size + 1)]? = (W4).heap[rowAt v (w.heap.size + 1)]?) | 15 => V 15 = .pointer (some ⟨bo, 5, none⟩) | 16 => (wx.heap[bo]? = (World.setCell W4 ⟨bo, 5, none⟩ (V 14)).heap[bo]?) | _ => True) (by kernel_rfl) (by kernel_rfl) ?obs (fun _ h => h.elim) trivial (fun _ _ _ _ _ => trivial) ?loc ?lasts ?walk
              case obs =>
                exact (And.intro (And.intro HGL.out (fun h => h)) (And.intro (And.intro hgn (trivial)) (And.intro (And.intro HBW_.out (fun h => h)) (And.intro (trivial) (trivial)))))
              case loc =>
                intro k V V' L H wx h0 h1 hG
                match k with
                | 0 =>
                  try dsimp only at hG ⊢
                  rw [← h0]
                  exact hG
                | 1 =>
                  try dsimp only at hG ⊢
                  rw [← h0]
                  exact hG
                | 2 =>
                  try dsimp only at hG ⊢
                  rw [← h0]
                  exact hG
                | 3 =>
                  try dsimp only at hG ⊢
                  rw [← h0]
                  exact hG
                | 4 =>
                  try dsimp only at hG ⊢
                  rw [← h0]
                  exact hG
                | 5 =>
                  try dsimp only at hG ⊢
                  rw [← h0]
                  exact hG
                | 6 =>
                  try dsimp only at hG ⊢
                  rw [← h0]
                  exact hG
                | 7 =>
                  try dsimp only at hG ⊢
                  rw [← h0]
                  exact hG
                | 8 =>
                  try dsimp only at hG ⊢
                  rw [← h0]
                  exact hG
                | 9 =>
                  try dsimp only at hG ⊢
                  rw [← h0]
                  exact hG
                | 10 =>
                  try dsimp only at hG ⊢
                  rw [← h0]
                  exact hG
                | 11 =>
                  try dsimp only at hG ⊢
                  rw [← h0]
                  exact hG
                | 12 =>
                  have e8 := h1 8 (by decide)
                  have e11 := h1 11 (by decide)
                  try dsimp only at hG ⊢
                  rw [← h0, ← e8, ← e11]
                  exact hG
                | 13 =>
                  have e12 := h1 12 (by decide)
                  try dsimp only at hG ⊢
                  rw [← h0, ← e12]
                  exact hG
                | 14 =>
                  have e12 := h1 12 (by decide)
                  try dsimp only at hG ⊢
                  rw [← h0, ← e12]
                  exact hG
                | 15 =>
                  try dsimp only at hG ⊢
                  rw [← h0]
                  exact hG
                | 16 =>
                  have e14 := h1 14 (by decide)
                  try dsimp only at hG ⊢
                  rw [← e14]
                  exact hG
                | n + 17 => trivial
              case lasts =>
                intro i hi V L H wx wy hB hH hk
                match i, hi with
                | 0, _ => exact fun h => h
                | 1, _ => exact fun h => h
                | 2, _ => exact fun h => h
                | 3, _ => exact fun h => h
                | 4, _ => exact fun h => h
                | 5, _ => exact fun h => h
                | 6, _ => exact fun h => h
                | 7, _ => exact fun h => h
                | 8, _ => exact fun ⟨ar, cr, hv, ho0⟩ => ⟨ar, cr, hv, ho0.kept (hk.sub fun x hx => .inr (.inl hx))⟩
                | 9, _ => exact fun h => h
                | 10, _ => exact fun h => h
                | 11, _ => exact fun ⟨as_, cs_, hv, ho0⟩ => ⟨as_, cs_, hv, ho0.kept (hk.sub fun x hx => .inr (.inl hx))⟩
                | 12, _ => exact fun ⟨p8, q8, p11, q11, hv, ho0, ho1⟩ => ⟨p8, q8, p11, q11, hv, ho0, ho1⟩
                | 13, _ => exact fun h x0 x1 x2 x3 x4 x5 x6 x7 x8 x9 x10 x11 x12 x13 x14 x15 hv => ⟨(h x0 x1 x2 x3 x4 x5 x6 x7 x8 x9 x10 x11 x12 x13 x14 x15 hv).1, (h x0 x1 x2 x3 x4 x5 x6 x7 x8 x9 x10 x11 x12 x13 x14 x15 hv).2.1, (hk.2 L (.inr (.inl ⟨Nat.le_refl _, (h x0 x1 x2 x3 x4 x5 x6 x7 x8 x9 x10 x11 x12 x13 x14 x15 hv).2.1⟩)) (Nat.lt_of_lt_of_le (h x0 x1 x2 x3 x4 x5 x6 x7 x8 x9 x10 x11 x12 x13 x14 x15 hv).2.1 hH)).trans (h x0 x1 x2 x3 x4 x5 x6 x7 x8 x9 x10 x11 x12 x13 x14 x15 hv).2.2⟩
                | 14, _ => exact fun h x0 x1 x2 x3 x4 x5 x6 x7 x8 x9 x10 x11 x12 x13 x14 x15 hv => ⟨ownsRow_keptAt (h x0 x1 x2 x3 x4 x5 x6 x7 x8 x9 x10 x11 x12 x13 x14 x15 hv).1 fun g hg => hk.2 g (((h x0 x1 x2 x3 x4 x5 x6 x7 x8 x9 x10 x11 x12 x13 x14 x15 hv).2.1 g hg).elim (fun e => .inr (.inr ⟨rfl, e.1⟩)) fun e => .inr (.inl e)) ((h x0 x1 x2 x3 x4 x5 x6 x7 x8 x9 x10 x11 x12 x13 x14 x15 hv).1.lt g hg).2, (h x0 x1 x2 x3 x4 x5 x6 x7 x8 x9 x10 x11 x12 x13 x14 x15 hv).2.1, fun hne => (hk.2 (rowAt v (w.heap.size + 1)) (.inr (.inr ⟨rfl, rfl⟩)) (Nat.lt_of_lt_of_le HGL.out hB)).trans ((h x0 x1 x2 x3 x4 x5 x6 x7 x8 x9 x10 x11 x12 x13 x14 x15 hv).2.2 hne)⟩
                | 15, _ => exact fun h => h
                | 16, _ => exact fun h => (hk.2 (bo) (.inr (.inr ⟨rfl, rfl⟩)) (Nat.lt_of_lt_of_le HBW_.out hB)).trans h
                | n + 17, hn => exact absurd hn (by simp)
              case walk =>
                simp (maxSteps := 4000000) only [freeK, effK, Nat.reduceAdd, Act.put, List.setIfInBounds_toArray, List.set_cons_succ, List.set_cons_zero]
                refine ⟨?_, ?_, ?_, ?_, ?_, ?_, ?_, ?_, ?_, ?_, ?_, ?_, ?_, ?_, ?_, ?_, ?_, ?_⟩
                · intro V L H wq hw hk hj hd
                  clear hd
                  go_wp2_with fail
                  exact freePost _ rfl ⟨⟨WritesF.refl _ _, hj⟩, upd_self⟩
                · intro V L H wq hw hk hj hd
                  obtain ⟨⟨hL0, hM0, hH0, hv0⟩, -⟩ := hd
                  rw [hv0]
                  have HV0 := Lib.hid hv0
                  clear hv0
                  have hz4_ := HZ4.out
                  have bv_ : wq.cell? ⟨bo, 5, none⟩ = some (v) := (hk.cell (p := ⟨bo, 5, none⟩) ⟨(show bo < W4.heap.size by omega), fun h => h, trivial⟩ (show bo < W4.heap.size by omega)).trans (pblk_cell HBLK4.out rfl)
                  clear hz4_
                  go_wp2_with fail
                  exact freePost _ rfl ⟨⟨WritesF.refl _ _, hj⟩, upd_self⟩
                · intro V L H wq hw hk hj hd
                  clear hd
                  go_wp2_with fail
                  exact freePost _ rfl ⟨⟨WritesF.refl _ _, hj⟩, upd_self⟩
                · intro V L H wq hw hk hj hd
                  obtain ⟨⟨hL2, hM2, hH2, hv2⟩, -⟩ := hd
                  rw [hv2]
                  have HV2 := Lib.hid hv2
                  clear hv2
                  have hz4_ := HZ4.out
                  have bp_ : wq.cell? ⟨wr.heap.size, 0, none⟩ = some (.string y.fSymbol) := (hk.cell (p := ⟨wr.heap.size, 0, none⟩) ⟨(show wr.heap.size < W4.heap.size by omega), fun h => h, trivial⟩ (show wr.heap.size < W4.heap.size by omega)).trans (pblk_cell HP4.out (by rw [HX.out]; rfl))
                  clear hz4_
                  go_wp2_with fail
                  exact freePost _ rfl ⟨⟨WritesF.refl _ _, hj⟩, upd_self⟩
                · intro V L H wq hw hk hj hd
                  clear hd
                  go_wp2_with fail
                  exact freePost _ rfl ⟨⟨WritesF.refl _ _, hj⟩, upd_self⟩
                · intro V L H wq hw hk hj hd
                  obtain ⟨⟨hL4, hM4, hH4, hv4⟩, -⟩ := hd
                  rw [hv4]
                  have HV4 := Lib.hid hv4
                  clear hv4
                  have hz4_ := HZ4.out
                  have bp_ : wq.cell? ⟨wr.heap.size, 1, none⟩ = some (.string y.fName) := (hk.cell (p := ⟨wr.heap.size, 1, none⟩) ⟨(show wr.heap.size < W4.heap.size by omega), fun h => h, trivial⟩ (show wr.heap.size < W4.heap.size by omega)).trans (pblk_cell HP4.out (by rw [HX.out]; rfl))
                  clear hz4_
                  go_wp2_with fail
                  exact freePost _ rfl ⟨⟨WritesF.refl _ _, hj⟩, upd_self⟩
                · intro V L H wq hw hk hj hd
                  clear hd
                  go_wp2_with fail
                  exact freePost _ rfl ⟨⟨WritesF.refl _ _, hj⟩, upd_self⟩
                · intro V L H wq hw hk hj hd
                  obtain ⟨⟨hL6, hM6, hH6, hv6⟩, -⟩ := hd
                  rw [hv6]
                  have HV6 := Lib.hid hv6
                  clear hv6
                  have hz4_ := HZ4.out
                  have bp0_ : wq.cell? ⟨wr.heap.size, 2, none⟩ = some (.int .i64 y.fTarget.fKind) := (hk.cell (p := ⟨wr.heap.size, 2, none⟩) ⟨(show wr.heap.size < W4.heap.size by omega), fun h => h, trivial⟩ (show wr.heap.size < W4.heap.size by omega)).trans (pblk_cell HP4.out (by rw [HX.out]; rfl))
                  have bp1_ : wq.cell? ⟨wr.heap.size, 3, none⟩ = some (.int .i64 y.fTarget.fN) := (hk.cell (p := ⟨wr.heap.size, 3, none⟩) ⟨(show wr.heap.size < W4.heap.size by omega), fun h => h, trivial⟩ (show wr.heap.size < W4.heap.size by omega)).trans (pblk_cell HP4.out (by rw [HX.out]; rfl))
                  have bp2_ : wq.cell? ⟨wr.heap.size, 4, none⟩ = some (.int .i64 y.fTarget.fPos) := (hk.cell (p := ⟨wr.heap.size, 4, none⟩) ⟨(show wr.heap.size < W4.heap.size by omega), fun h => h, trivial⟩ (show wr.heap.size < W4.heap.size by omega)).trans (pblk_cell HP4.out (by rw [HX.out]; rfl))
                  have bp3_ : wq.cell? ⟨wr.heap.size, 5, none⟩ = some (.int .i64 y.fTarget.fType) := (hk.cell (p := ⟨wr.heap.size, 5, none⟩) ⟨(show wr.heap.size < W4.heap.size by omega), fun h => h, trivial⟩ (show wr.heap.size < W4.heap.size by omega)).trans (pblk_cell HP4.out (by rw [HX.out]; rfl))
                  have bp4_ : wq.cell? ⟨wr.heap.size, 6, none⟩ = some (.string y.fTarget.fSymbol) := (hk.cell (p := ⟨wr.heap.size, 6, none⟩) ⟨(show wr.heap.size < W4.heap.size by omega), fun h => h, trivial⟩ (show wr.heap.size < W4.heap.size by omega)).trans (pblk_cell HP4.out (by rw [HX.out]; rfl))
                  have bp5_ : wq.cell? ⟨wr.heap.size, 7, none⟩ = some (.string y.fTarget.fName) := (hk.cell (p := ⟨wr.heap.size, 7, none⟩) ⟨(show wr.heap.size < W4.heap.size by omega), fun h => h, trivial⟩ (show wr.heap.size < W4.heap.size by omega)).trans (pblk_cell HP4.out (by rw [HX.out]; rfl))
                  have bp6_ : wq.cell? ⟨wr.heap.size, 8, none⟩ = some (.slice a9 y.fTarget.fArgs.length c9) := (hk.cell (p := ⟨wr.heap.size, 8, none⟩) ⟨(show wr.heap.size < W4.heap.size by omega), fun h => h, trivial⟩ (show wr.heap.size < W4.heap.size by omega)).trans (pblk_cell HP4.out (by rw [HX.out]; rfl))
                  clear hz4_
                  go_wp2_with fail
                  exact freePost _ rfl ⟨⟨WritesF.refl _ _, hj⟩, upd_self⟩
                · intro V L H wq hw hk hj hd
                  obtain ⟨⟨hL7, hM7, hH7, hv7⟩, -⟩ := hd
                  rw [hv7]
                  have HV7 := Lib.hid hv7
                  clear hv7
                  go_wp2_with fail
                  refine (HC1.out wq ⟨Nat.le_trans HB4.out.size hk.1, fun b hb hs => (hk.2 b ⟨Nat.lt_of_lt_of_le hs HB4.out.size, fun h => h, trivial⟩ (Nat.lt_of_lt_of_le hs HB4.out.size)).trans (HB4.out.block b hs)⟩).mono ?_
                  rintro e w2 ⟨ar, cr, rfl, ho2, hb2⟩
                  go_wp2_with fail
                  exact freePost _ rfl ⟨⟨(WritesF.refl _ _).later hb2, trivial⟩, Exists.intro ar (Exists.intro cr (And.intro (upd_self) (ho2)))⟩
                · intro V L H wq hw hk hj hd
                  clear hd
                  go_wp2_with fail
                  exact freePost _ rfl ⟨⟨WritesF.refl _ _, hj⟩, upd_self⟩
                · intro V L H wq hw hk hj hd
                  obtain ⟨⟨hL9, hM9, hH9, hv9⟩, -⟩ := hd
                  rw [hv9]
                  have HV9 := Lib.hid hv9
                  clear hv9
                  have hz4_ := HZ4.out
                  have bp0_ : wq.cell? ⟨wr.heap.size, 9, none⟩ = some (.int .i64 y.fValue.fKind) := (hk.cell (p := ⟨wr.heap.size, 9, none⟩) ⟨(show wr.heap.size < W4.heap.size by omega), fun h => h, trivial⟩ (show wr.heap.size < W4.heap.size by omega)).trans (pblk_cell HP4.out (by rw [HX.out]; rfl))
                  have bp1_ : wq.cell? ⟨wr.heap.size, 10, none⟩ = some (.int .i64 y.fValue.fN) := (hk.cell (p := ⟨wr.heap.size, 10, none⟩) ⟨(show wr.heap.size < W4.heap.size by omega), fun h => h, trivial⟩ (show wr.heap.size < W4.heap.size by omega)).trans (pblk_cell HP4.out (by rw [HX.out]; rfl))
                  have bp2_ : wq.cell? ⟨wr.heap.size, 11, none⟩ = some (.int .i64 y.fValue.fPos) := (hk.cell (p := ⟨wr.heap.size, 11, none⟩) ⟨(show wr.heap.size < W4.heap.size by omega), fun h => h, trivial⟩ (show wr.heap.size < W4.heap.size by omega)).trans (pblk_cell HP4.out (by rw [HX.out]; rfl))
                  have bp3_ : wq.cell? ⟨wr.heap.size, 12, none⟩ = some (.int .i64 y.fValue.fType) := (hk.cell (p := ⟨wr.heap.size, 12, none⟩) ⟨(show wr.heap.size < W4.heap.size by omega), fun h => h, trivial⟩ (show wr.heap.size < W4.heap.size by omega)).trans (pblk_cell HP4.out (by rw [HX.out]; rfl))
                  have bp4_ : wq.cell? ⟨wr.heap.size, 13, none⟩ = some (.string y.fValue.fSymbol) := (hk.cell (p := ⟨wr.heap.size, 13, none⟩) ⟨(show wr.heap.size < W4.heap.size by omega), fun h => h, trivial⟩ (show wr.heap.size < W4.heap.size by omega)).trans (pblk_cell HP4.out (by rw [HX.out]; rfl))
                  have bp5_ : wq.cell? ⟨wr.heap.size, 14, none⟩ = some (.string y.fValue.fName) := (hk.cell (p := ⟨wr.heap.size, 14, none⟩) ⟨(show wr.heap.size < W4.heap.size by omega), fun h => h, trivial⟩ (show wr.heap.size < W4.heap.size by omega)).trans (pblk_cell HP4.out (by rw [HX.out]; rfl))
                  have bp6_ : wq.cell? ⟨wr.heap.size, 15, none⟩ = some (.slice a10 y.fValue.fArgs.length c10) := (hk.cell (p := ⟨wr.heap.size, 15, none⟩) ⟨(show wr.heap.size < W4.heap.size by omega), fun h => h, trivial⟩ (show wr.heap.size < W4.heap.size by omega)).trans (pblk_cell HP4.out (by rw [HX.out]; rfl))
                  clear hz4_
                  go_wp2_with fail
                  exact freePost _ rfl ⟨⟨WritesF.refl _ _, hj⟩, upd_self⟩
                · intro V L H wq hw hk hj hd
                  obtain ⟨⟨hL10, hM10, hH10, hv10⟩, -⟩ := hd
                  rw [hv10]
                  have HV10 := Lib.hid hv10
                  clear hv10
                  go_wp2_with fail
                  refine (HC2.out wq ⟨Nat.le_trans HB4.out.size hk.1, fun b hb hs => (hk.2 b ⟨Nat.lt_of_lt_of_le hs HB4.out.size, fun h => h, trivial⟩ (Nat.lt_of_lt_of_le hs HB4.out.size)).trans (HB4.out.block b hs)⟩).mono ?_
                  rintro e w2 ⟨as_, cs_, rfl, ho2, hb2⟩
                  go_wp2_with fail
                  exact freePost _ rfl ⟨⟨(WritesF.refl _ _).later hb2, trivial⟩, Exists.intro as_ (Exists.intro cs_ (And.intro (upd_self) (ho2)))⟩
                · intro V L H wq hw hk hj hd
                  obtain ⟨⟨hL3, hM3, hH3, hv3⟩, ⟨hL5, hM5, hH5, hv5⟩, ⟨hL8, hM8, hH8, ar, cr, hv8, ho8_0⟩, ⟨hL11, hM11, hH11, as_, cs_, hv11, ho11_0⟩, -⟩ := hd
                  rw [hv3, hv5, hv8, hv11]
                  have HV3 := Lib.hid hv3
                  have HV5 := Lib.hid hv5
                  have HV8 := Lib.hid hv8
                  have HV11 := Lib.hid hv11
                  clear hv3 hv5 hv8 hv11
                  go_wp2_with fail
                  exact freePost _ rfl ⟨⟨WritesF.refl _ _, hj⟩, Exists.intro ar (Exists.intro cr (Exists.intro as_ (Exists.intro cs_ (And.intro (upd_self) (And.intro ((upd_ne (by decide)).trans HV8.out) ((upd_ne (by decide)).trans HV11.out))))))⟩
                · intro V L H wq hw hk hj hd
                  obtain ⟨⟨hL12, hM12, hH12, p8, q8, p11, q11, hv12, ho12_0, ho12_1⟩, -⟩ := hd
                  rw [hv12]
                  have HV12 := Lib.hid hv12
                  clear hv12
                  go_wp2_with fail
                  refine freePost _ rfl ⟨⟨(WritesF.refl _ _).later ((Below.refl _ _).alloc (Nat.le_refl _) _), trivial⟩, fun x0 x1 x2 x3 x4 x5 x6 x7 x8 x9 x10 x11 x12 x13 x14 x15 h => ?_⟩
                  cases (HV12.out.symm.trans ((upd_ne (by decide)).symm.trans h))
                  exact ⟨upd_self, by simp, blk_new rfl⟩
                · intro V L H wq hw hk hj hd
                  obtain ⟨⟨hL1, hM1, hH1, hv1⟩, ⟨hL12, hM12, hH12, p8, q8, p11, q11, hv12, ho12_0, ho12_1⟩, ⟨hL13, hM13, hH13, hst13_⟩, -⟩ := hd
                  rw [hv1, hv12]
                  have HV1 := Lib.hid hv1
                  have HV12 := Lib.hid hv12
                  clear hv1 hv12
                  obtain ⟨hv13, hlt13, hc13⟩ := hst13_ _ _ _ _ _ _ _ _ _ _ _ _ _ _ _ _ HV12.out
                  rw [hv13]
                  have hown1 : wq.ownsRow (w3.heap.size) 142 16 (v) (k) (xs) := ownsRow_keptAt HO.out fun g hg => (hk.2 g ⟨Nat.lt_of_lt_of_le (HO.out.lt g hg).2 HB4.out.size, fun h => h, trivial⟩ (Nat.lt_of_lt_of_le (HO.out.lt g hg).2 HB4.out.size)).trans (HB4.out.block g (HO.out.lt g hg).2)
                  have HOWN1 := Lib.hid hown1
                  clear hown1
                  have hnews := cells_at hc13
                  have HNEWS := Lib.hid hnews
                  clear hnews hc13
                  have hbw1 : (w3.heap.size) ≤ wq.heap.size := by have := hk.1; have := HB4.out.size; omega
                  go_wp2_with (at_builtin; refine wpList_append_at rfl (.tmp 57) (.tmp 69) 89 rfl (w3.heap.size) 142 iq (.agg #[.string ⟨#[]⟩, .string ⟨#[]⟩, .int .i64 0, .int .i64 0, .int .i64 0, .int .i64 0, .string ⟨#[]⟩, .string ⟨#[]⟩, .slice none 0 0, .int .i64 0, .int .i64 0, .int .i64 0, .int .i64 0, .string ⟨#[]⟩, .string ⟨#[]⟩, .slice none 0 0]) 16 208 Try.underlying89 hi' hz0 hz1 hz2 rfl (by decide) _ _ _ rfl HOWN1.out ⟨L 13, 0, none⟩ 1 1 [.string y.fSymbol, .string y.fName, .int .i64 y.fTarget.fKind, .int .i64 y.fTarget.fN, .int .i64 y.fTarget.fPos, .int .i64 y.fTarget.fType, .string y.fTarget.fSymbol, .string y.fTarget.fName, .slice p8 y.fTarget.fArgs.length q8, .int .i64 y.fValue.fKind, .int .i64 y.fValue.fN, .int .i64 y.fValue.fPos, .int .i64 y.fValue.fType, .string y.fValue.fSymbol, .string y.fValue.fName, .slice p11 y.fValue.fArgs.length q11] rfl rfl HNEWS.out (by intro u hu; simp at hu; rcases hu with rfl | rfl | rfl | rfl | rfl | rfl | rfl | rfl | rfl | rfl | rfl | rfl | rfl | rfl | rfl | rfl <;> rfl) (by unfold maxLen; omega) (by omega) hbw1 ?_; intro v' w2 hown' hgrow hat)
                  refine freePost v' rfl ⟨touches_grown hgrow (fun x h => rowAt_of x h), fun x0 x1 x2 x3 x4 x5 x6 x7 x8 x9 x10 x11 x12 x13 x14 x15 h => ?_⟩
                  cases (HV12.out.symm.trans ((upd_ne (by decide)).symm.trans h))
                  refine ⟨by rw [upd_self]; exact hown', fun g hg => ?_, fun hne => (hgrow.block (rowAt v (w.heap.size + 1)) (Nat.lt_of_lt_of_le HGL.out hk.1) (fun e => hne e.symm)).trans (hk.2 (rowAt v (w.heap.size + 1)) ⟨HGL.out, fun h => h, trivial⟩ HGL.out)⟩
                  rw [upd_self] at hg
                  rcases hat with e | e
                  · left; exact ⟨(fun x h => rowAt_of x h) g (e ▸ hg), e ▸ hg⟩
                  · right; rw [e] at hg; simp only [Option.some.injEq] at hg; have := (hown'.lt g (by rw [e, hg])).2; omega
                · intro V L H wq hw hk hj hd
                  clear hd
                  go_wp2_with fail
                  exact freePost _ rfl ⟨⟨WritesF.refl _ _, hj⟩, upd_self⟩
                · intro V L H wq hw hk hj hd
                  obtain ⟨⟨hL12, hM12, hH12, p8, q8, p11, q11, hv12, ho12_0, ho12_1⟩, ⟨hL14, hM14, hH14, hst14_⟩, ⟨hL15, hM15, hH15, hv15⟩, -⟩ := hd
                  rw [hv12, hv15]
                  have HV12 := Lib.hid hv12
                  have HV15 := Lib.hid hv15
                  clear hv12 hv15
                  obtain ⟨hownS, -⟩ := hst14_ _ _ _ _ _ _ _ _ _ _ _ _ _ _ _ _ HV12.out
                  obtain ⟨aS, cS, hvS⟩ := own_form hownS
                  rw [hvS]
                  clear hownS
                  have hbe : wq.heap[bo]? = W4.heap[bo]? := hk.2 bo ⟨HBW_.out, fun h => h, ⟨Ne.symm hgn, trivial⟩⟩ HBW_.out
                  have hc_0 := (World.cell?_of_block (a := ⟨bo, 5, none⟩) hbe).trans (pblk_cell (v := v) HBLK4.out rfl)
                  have hf_0 := (World.frozen?_of_block (a := ⟨bo, 5, none⟩) hbe).trans (pblk_frozen HBLK4.out)
                  have HBE := Lib.hid hbe
                  clear hbe
                  go_wp2_with fail
                  exact freePost undef rfl ⟨Touches.put (L := bo) (H := bo + 1) Touches.refl (p := ⟨bo, 5, none⟩) ⟨Nat.le_refl _, Nat.lt_succ_self _⟩ _, by show _ = (World.setCell W4 ⟨bo, 5, none⟩ (upd V 16 undef 14)).heap[bo]?; rw [upd_ne (by decide)]; exact (by rw [hvS]; exact heap_set_sameR HBE.out)⟩
                · intro V L H wq hw hj hd hap hdead
                  obtain ⟨⟨hL0, hM0, hH0, hv0⟩, ⟨hL1, hM1, hH1, hv1⟩, ⟨hL2, hM2, hH2, hv2⟩, ⟨hL3, hM3, hH3, hv3⟩, ⟨hL4, hM4, hH4, hv4⟩, ⟨hL5, hM5, hH5, hv5⟩, ⟨hL6, hM6, hH6, hv6⟩, ⟨hL7, hM7, hH7, hv7⟩, ⟨hL8, hM8, hH8, ar, cr, hv8, ho8_0⟩, ⟨hL9, hM9, hH9, hv9⟩, ⟨hL10, hM10, hH10, hv10⟩, ⟨hL11, hM11, hH11, as_, cs_, hv11, ho11_0⟩, ⟨hL12, hM12, hH12, p8, q8, p11, q11, hv12, ho12_0, ho12_1⟩, ⟨hL13, hM13, hH13, hst13_⟩, ⟨hL14, hM14, hH14, hst14_⟩, ⟨hL15, hM15, hH15, hv15⟩, ⟨hL16, hM16, hH16, hst16_⟩, -⟩ := hd
                  obtain ⟨hv13, -, -⟩ := hst13_ _ _ _ _ _ _ _ _ _ _ _ _ _ _ _ _ hv12
                  obtain ⟨hown14, hrow14, hgb14⟩ := hst14_ _ _ _ _ _ _ _ _ _ _ _ _ _ _ _ _ hv12
                  obtain ⟨vA14, hv14⟩ : ∃ z, V 14 = z := ⟨_, rfl⟩
                  rw [hv14] at hown14 hrow14
                  have pb16 := hst16_
                  rw [hv14] at pb16
                  have KV8 := hv8
                  have KV11 := hv11
                  rw [hv0, hv1, hv2, hv3, hv4, hv5, hv6, hv7, hv8, hv9, hv10, hv11, hv12, hv13, hv14, hv15]
                  clear hv0 hv1 hv2 hv3 hv4 hv5 hv6 hv7 hv8 hv9 hv10 hv11 hv12 hv13 hv14 hv15
                  obtain ⟨e1, e2⟩ : p8 = ar ∧ q8 = cr := by have h := ho12_0.symm.trans KV8; simpa using h
                  obtain ⟨e3, e4⟩ : p11 = as_ ∧ q11 = cs_ := by have h := ho12_1.symm.trans KV11; simpa using h
                  subst e1 e2 e3 e4
                  have hz4 := HZ4.out
                  obtain ⟨aV, cV, rfl⟩ := own_form hown14
                  have HBL2 := Lib.hid (show wq.heap[bo]? = some (.cells #[.string x.fName, .string x.fLeft, .slice p9 x.fRight.length q9, .bool x.fLiteral, .slice r4 x.fEquations.length q4, .slice aV (k + 1) cV] 91) from pb16.trans (pblk_put HBLK4.out rfl))
                  have HWQ := Lib.hid (show WritesF (fun y => y = bo) w3 wq from ⟨hw.os.trans (HWR2.out.later HB4.out).os, hw.tape.trans (HWR2.out.later HB4.out).tape, hw.output.trans (HWR2.out.later HB4.out).output, Nat.le_trans (HWR2.out.later HB4.out).size hw.size, fun b hb hne => by
                    refine Eq.trans ?_ ((HWR2.out.later HB4.out).block b hb hne)
                    by_cases hbg : b = rowAt v (w.heap.size + 1)
                    · subst hbg
                      exact hgb14 (fun e => by have := (HO.out.lt _ e).1; omega)
                    · exact hw.block b (Nat.lt_of_lt_of_le hb (HWR2.out.later HB4.out).size) (fun hfa => hfa.elim id (fun h => h ⟨hbg, hne, trivial⟩))⟩)
                  have hk2 : Kept (fun z => w3.heap.size ≤ z ∧ z < wr.heap.size ∧ v.ownBlock ≠ some z) wr wq := ⟨(Nat.le_trans HB4.out.size hw.size), fun b hb hs => by
                    have hb1 : w3.heap.size ≤ b := hb.1
                    refine Eq.trans (hw.block b (Nat.lt_of_lt_of_le hs HB4.out.size) (fun hfa => hfa.elim id (fun h => h ⟨fun e => rowAt_ne (v := v) (d := w.heap.size + 1) (b := b) (by omega) (fun z hz e2 => hb.2.2 (by rw [hz, e2])) e.symm, fun e => by have e9 : b = bo := e; omega, trivial⟩))) (HB4.out.block b hs)⟩
                  have hu : OwnR wq (fun z => (L 8 ≤ z ∧ z < H 8) ∨ (L 11 ≤ z ∧ z < H 11)) 16 ((fun k => DContribution.ct (x.fContributions.getD k default)) k) (fun j => ([.string y.fSymbol, .string y.fName, .int .i64 y.fTarget.fKind, .int .i64 y.fTarget.fN, .int .i64 y.fTarget.fPos, .int .i64 y.fTarget.fType, .string y.fTarget.fSymbol, .string y.fTarget.fName, .slice p8 y.fTarget.fArgs.length q8, .int .i64 y.fValue.fKind, .int .i64 y.fValue.fN, .int .i64 y.fValue.fPos, .int .i64 y.fValue.fType, .string y.fValue.fSymbol, .string y.fValue.fName, .slice p11 y.fValue.fArgs.length q11] : List Value).getD j .nilFunc) := (ownR_contr ho8_0 ho11_0 (fun z h1 h2 => by have h3 := h1.1; have h4 := h1.2; have h5 := h2.1; have h6 := h2.2; rcases hap 8 11 (by decide) (by decide) (by decide) with h | h <;> omega) (fun z h => .inl h) (fun z h => .inr h)).congr (fun j hj => (congrFun HCT.out j).symm) (fun _ _ => rfl)
                  have HRW := Lib.hid (Rows.step2 HR.out hszr hk2 hu (fun z hz => by have h8 : _ ≤ L 8 := hL8; have h11 : _ ≤ L 11 := hL11; rcases hz with hz | hz <;> have h3 := hz.1 <;> have h4 := hz.2 <;> exact ⟨by omega, by omega⟩) (fun z hz => (HO.out.lt z hz).2) (by
                    obtain ⟨g, hg⟩ := own_blk hown14
                    rcases hrow14 g hg with ⟨_, h⟩ | ⟨h1, h2⟩
                    · exact .inl (hg.trans h.symm)
                    · have hla : _ ≤ L 14 := hL14
                      exact .inr ⟨g, hg, by omega, fun hz => by rcases hz with hz | hz <;> have h3 := hz.1 <;> have h4 := hz.2; (· rcases hap 8 14 (by decide) (by decide) (by decide) with h | h <;> omega); (· rcases hap 11 14 (by decide) (by decide) (by decide) with h | h <;> omega)⟩) HO.out.1)
                  have HOW := Lib.hid hown14
                  clear hk2 hu hw hj hap hdead
                  go_wp2
                  go_roundw
                  case rel => exact ⟨k + 1, _, _, by omega, by go_num, HBL2.out, HOW.out, HRW.out, HWQ.out⟩
                  case measure => simp [intOf]; omega
            · obtain rfl : k = x.fContributions.length := by omega
              obtain ⟨r5, q5, rfl, ho5⟩ := Rows.own HR.out HO.out
              have HO5 := Lib.hid ho5
              have HGR := Lib.hid (show wr.heap[w.heap.size + 1]? = some (.cells #[.string ⟨#[]⟩, .string ⟨#[]⟩, .slice none 0 0, .bool false, .slice none 0 0, .slice none 0 0] 91) from (hwr.block (w.heap.size + 1) (by omega) (by show ¬ w.heap.size + 1 = bo; omega)).trans ((HWR.out.block (w.heap.size + 1) (by omega) (by show ¬ w.heap.size + 1 = bo; omega)).trans HBR1.out))
              clear ho5 HR HO
              go_wp2_with (first
                | (refine wpList_load_row rfl 91 (.tmp 3) rfl bo rfl 91 _ _ _ HBLK.out Try.underlying91 rfl (by kernel_rfl) ?_)
                | (refine wpList_store_rowTo rfl 91 (.tmp 2) (.tmp 72) rfl rfl (w.heap.size + 1) _ rfl rfl 91 _ HGR.out (by kernel_rfl) rfl (by simp [Value.oneCell']) ?_))
              refine bodyPost_ret (v := .agg #[.string x.fName, .string x.fLeft, .slice p9 x.fRight.length q9, .bool x.fLiteral, .slice r4 x.fEquations.length q4, .slice r5 x.fContributions.length q5]) (results_cell_row rfl _ _ (w.heap.size + 1) 91 #[.string x.fName, .string x.fLeft, .slice p9 x.fRight.length q9, .bool x.fLiteral, .slice r4 x.fEquations.length q4, .slice r5 x.fContributions.length q5] (0, 0) _ rfl (setRow_heap _ _ _ _ _ _ HGR.out) Try.underlying91 rfl (by kernel_rfl)) rfl ?_
              refine ⟨_, _, _, _, _, _, rfl, ?_, ?_⟩
              · have hkf : Kept (fun z => z ≠ bo ∧ z ≠ w.heap.size + 1) wr (wr.setRow (w.heap.size + 1) #[.string x.fName, .string x.fLeft, .slice p9 x.fRight.length q9, .bool x.fLiteral, .slice r4 x.fEquations.length q4, .slice r5 x.fContributions.length q5]) := kept_setRow Kept.refl (fun h => h.2 rfl)
                have hk3 : Kept (fun z => z ≠ bo ∧ z ≠ w.heap.size + 1) w3 (wr.setRow (w.heap.size + 1) #[.string x.fName, .string x.fLeft, .slice p9 x.fRight.length q9, .bool x.fLiteral, .slice r4 x.fEquations.length q4, .slice r5 x.fContributions.length q5]) := (hwr.kept (fun z h => h.1)).trans hkf
                have hk1 : Kept (fun z => z ≠ bo ∧ z ≠ w.heap.size + 1) w1 (wr.setRow (w.heap.size + 1) #[.string x.fName, .string x.fLeft, .slice p9 x.fRight.length q9, .bool x.fLiteral, .slice r4 x.fEquations.length q4, .slice r5 x.fContributions.length q5]) := (HWR.out.kept (fun z h => h.1)).trans hk3
                have hzf := hkf.1
                have hh9 := HH9.out
                refine ownR_rule (HO2.out.kept (hk1.sub fun z hz => ⟨hF2.out z hz.1 hz.2, by have := hz.1; omega⟩)) (HO4.out.kept (hk3.sub fun z hz => ⟨by have := hz.1; omega, by have := hz.1; omega⟩)) (HO5.out.kept (hkf.sub fun z hz => ⟨by have := hz.1; omega, by have := hz.1; omega⟩)) ?_ ?_ ?_ ?_ ?_ ?_
                · intro z h1 h2; have := h1.2; have := h2.1; omega
                · intro z h1 h2; have := h1.2; have := h2.1; omega
                · intro z h1 h2; have := h1.2; have := h2.1; omega
                · intro z h; have := h.1; have := h.2; exact ⟨by omega, by omega⟩
                · intro z h; have := h.1; have := h.2; exact ⟨by omega, by omega⟩
                · intro z h; have := h.1; have := h.2; exact ⟨by omega, by omega⟩
              · exact pile_setRow (HB1.out.trans ((HWR.out.trans hwr).below (fun z h => by show w.heap.size ≤ z; have : z = bo := h; omega) (by omega))) (by omega) _
end Go.Proofs.Ytnkhjkdocaobpaa
