/-
  TypeOfExpr of the program.
-/
import Derived.Test.YtpipdlgnedhhaaaTypeC
import Derived.Test.YtpipdlgnedhhaaaFreeK
namespace Go.Proofs.Ytpipdlgnedhhaaa
open Go.ChangeShapes Go.WideShapes Go.ChangeAt Go.RowKit Go.Deep

theorem heap_belowT {w w' : World} {b : Nat} {ob : Obj} (hb : Below w.heap.size w w') (h : w.heap[b]? = some ob) : w'.heap[b]? = some ob := (hb.block b (heap_ltT h)).trans h

set_option maxHeartbeats 16000000 in
set_option maxRecDepth 100000 in
theorem impl_TypeX {lo hi c0_0 c0_1 c1_0 c1_1 c1_2 c6 : Nat} {a0 a1 b2 b4 b5 a6 : Option Addr} (g : DGrammar) (okg : g.ok) (hszg : g.sz ≤ 1048576) (x : DRule) (okx : x.ok) (hszx : x.sz ≤ 1048576) (y : DExpr) (oky : y.ok) (hszy : y.sz ≤ 1048576) (w : World) (hhi : hi ≤ w.heap.size) (hs0 : Sl lo hi w 2 g.fSymbols.length (fun k => DSymbol.ct (g.fSymbols.getD k default)) a0) (hs1 : Sl lo hi w 6 g.fRules.length (fun k => DRule.ct (g.fRules.getD k default)) a1) (hs2 : Sl lo hi w 1 x.fRight.length (fun k => ictS (x.fRight.getD k default)) b2) (hs4 : Sl lo hi w 9 x.fEquations.length (fun k => DEquation.ct (x.fEquations.getD k default)) b4) (hs5 : Sl lo hi w 16 x.fContributions.length (fun k => DContribution.ct (x.fContributions.getD k default)) b5) (hs6 : Sf 0 hi w 7 y.fArgs.length (ctE y.fArgs) a6) :
    Calls Try.prog 11 #[.agg #[.slice a0 g.fSymbols.length c0_0, .slice a1 g.fRules.length c0_1], .agg #[.string x.fName, .string x.fLeft, .slice b2 x.fRight.length c1_0, .bool x.fLiteral, .slice b4 x.fEquations.length c1_1, .slice b5 x.fContributions.length c1_2], .agg #[.int .i64 y.fKind, .int .i64 y.fN, .int .i64 y.fPos, .int .i64 y.fType, .string y.fSymbol, .string y.fName, .slice a6 y.fArgs.length c6]] w fun e w' => e = .returned (.int .i64 (typeX g x y)) ∧ Below w.heap.size w w' := by
  have HB := Lib.hid ((((Below.refl w.heap.size w).alloc (Nat.le_refl _) (.cells #[.slice a0 g.fSymbols.length c0_0, .slice a1 g.fRules.length c0_1] 41)).alloc (by simp) (.cells #[.string x.fName, .string x.fLeft, .slice b2 x.fRight.length c1_0, .bool x.fLiteral, .slice b4 x.fEquations.length c1_1, .slice b5 x.fContributions.length c1_2] 46)).alloc (by simp <;> omega) (.cells #[.int .i64 y.fKind, .int .i64 y.fN, .int .i64 y.fPos, .int .i64 y.fType, .string y.fSymbol, .string y.fName, .slice a6 y.fArgs.length c6] 50))
  have HG0 := Lib.hid (show (((w.alloc (.cells #[.slice a0 g.fSymbols.length c0_0, .slice a1 g.fRules.length c0_1] 41)).alloc (.cells #[.string x.fName, .string x.fLeft, .slice b2 x.fRight.length c1_0, .bool x.fLiteral, .slice b4 x.fEquations.length c1_1, .slice b5 x.fContributions.length c1_2] 46)).alloc (.cells #[.int .i64 y.fKind, .int .i64 y.fN, .int .i64 y.fPos, .int .i64 y.fType, .string y.fSymbol, .string y.fName, .slice a6 y.fArgs.length c6] 50)).heap[w.heap.size]? = some (.cells #[.slice a0 g.fSymbols.length c0_0, .slice a1 g.fRules.length c0_1] 41) from blk_alloc (by simp <;> omega) (blk_alloc (by simp) (blk_new rfl)))
  have HR0 := Lib.hid (show (((w.alloc (.cells #[.slice a0 g.fSymbols.length c0_0, .slice a1 g.fRules.length c0_1] 41)).alloc (.cells #[.string x.fName, .string x.fLeft, .slice b2 x.fRight.length c1_0, .bool x.fLiteral, .slice b4 x.fEquations.length c1_1, .slice b5 x.fContributions.length c1_2] 46)).alloc (.cells #[.int .i64 y.fKind, .int .i64 y.fN, .int .i64 y.fPos, .int .i64 y.fType, .string y.fSymbol, .string y.fName, .slice a6 y.fArgs.length c6] 50)).heap[w.heap.size + 1]? = some (.cells #[.string x.fName, .string x.fLeft, .slice b2 x.fRight.length c1_0, .bool x.fLiteral, .slice b4 x.fEquations.length c1_1, .slice b5 x.fContributions.length c1_2] 46) from blk_alloc (by simp) (blk_new (by simp)))
  have HE0 := Lib.hid (show (((w.alloc (.cells #[.slice a0 g.fSymbols.length c0_0, .slice a1 g.fRules.length c0_1] 41)).alloc (.cells #[.string x.fName, .string x.fLeft, .slice b2 x.fRight.length c1_0, .bool x.fLiteral, .slice b4 x.fEquations.length c1_1, .slice b5 x.fContributions.length c1_2] 46)).alloc (.cells #[.int .i64 y.fKind, .int .i64 y.fN, .int .i64 y.fPos, .int .i64 y.fType, .string y.fSymbol, .string y.fName, .slice a6 y.fArgs.length c6] 50)).heap[w.heap.size + 2]? = some (.cells #[.int .i64 y.fKind, .int .i64 y.fN, .int .i64 y.fPos, .int .i64 y.fType, .string y.fSymbol, .string y.fName, .slice a6 y.fArgs.length c6] 50) from blk_new (by simp))
  have HSZ := Lib.hid (show (((w.alloc (.cells #[.slice a0 g.fSymbols.length c0_0, .slice a1 g.fRules.length c0_1] 41)).alloc (.cells #[.string x.fName, .string x.fLeft, .slice b2 x.fRight.length c1_0, .bool x.fLiteral, .slice b4 x.fEquations.length c1_1, .slice b5 x.fContributions.length c1_2] 46)).alloc (.cells #[.int .i64 y.fKind, .int .i64 y.fN, .int .i64 y.fPos, .int .i64 y.fType, .string y.fSymbol, .string y.fName, .slice a6 y.fArgs.length c6] 50)).heap.size = w.heap.size + 3 by simp)
  have HN := Lib.hid (node_in y oky hszy 1)
  rw [show typeX g x y = foldX (combT g x) y 1 from (foldT_depth g x y 1).symm]
  have HHI := Lib.hid hhi
  have HF := Lib.hid (fun (q0 q1 : Nat) (W : World) (hW : Below w.heap.size w W) => foldExpr_int (hi := hi) (c6 := c6) (combT g x) q0 q1 y hszy W (Nat.le_trans hhi hW.size) (hs6.later hW hhi))
  have HC := Lib.hid (fun (q0 q1 br : Nat) (nd : ENode) (zs : List Int) (a : Option Addr) (c C : Nat) (p1 : okI nd.fPos) (p2 : nd.fName.size ≤ 1048576) (p3 : nd.fSymbol.size ≤ 1048576) (W : World) (hW : Below w.heap.size w W) => typeC (lo := lo) (hi := hi) (c := c) (C := C) (q0 := q0) (q1 := q1) (br := br) (a := a) (c0_0 := c0_0) (c0_1 := c0_1) (c1_0 := c1_0) (c1_1 := c1_1) (c1_2 := c1_2) g okg hszg x okx hszx nd zs p1 p2 p3 W (Nat.le_trans hhi hW.size) (hs0.later hW hhi) (hs1.later hW hhi) (hs2.later hW hhi) (hs4.later hW hhi) (hs5.later hW hhi))
  clear okg hszg okx hszx oky hszy hhi hs0 hs1 hs2 hs4 hs5 hs6
  go_enter Try.func11, Try.ntmps11
  go_wp2_with fail
  generalize (((w.alloc (.cells #[.slice a0 g.fSymbols.length c0_0, .slice a1 g.fRules.length c0_1] 41)).alloc (.cells #[.string x.fName, .string x.fLeft, .slice b2 x.fRight.length c1_0, .bool x.fLiteral, .slice b4 x.fEquations.length c1_1, .slice b5 x.fContributions.length c1_2] 46)).alloc (.cells #[.int .i64 y.fKind, .int .i64 y.fN, .int .i64 y.fPos, .int .i64 y.fType, .string y.fSymbol, .string y.fName, .slice a6 y.fArgs.length c6] 50)) = w0 at *
  refine wp_region_freeK [([], .none, []), ([], .none, []), ([0, 1], .none, []), ([], .none, []), ([], .none, []), ([], .none, []), ([4, 2], .new 4, []), ([5, 3], .new 5, [])] [0, 1, 2, 3, 6, 7] [] (fun _ => False) (fun _ => True) (fun _ => 0) (fun jq9 V L H wx => match jq9 with | 0 => V 0 = .agg #[.slice a0 g.fSymbols.length c0_0, .slice a1 g.fRules.length c0_1] | 1 => V 1 = .agg #[.string x.fName, .string x.fLeft, .slice b2 x.fRight.length c1_0, .bool x.fLiteral, .slice b4 x.fEquations.length c1_1, .slice b5 x.fContributions.length c1_2] | 2 => V 2 = .agg #[.slice a0 g.fSymbols.length c0_0, .slice a1 g.fRules.length c0_1, .string x.fName, .string x.fLeft, .slice b2 x.fRight.length c1_0, .bool x.fLiteral, .slice b4 x.fEquations.length c1_1, .slice b5 x.fContributions.length c1_2] | 3 => ∃ B, V 3 = .slice (some ⟨B, 0, none⟩) 9 9 ∧ (L ≤ B ∧ B < H ∧ wx.heap[B]? = some (.cells #[.nilFunc, .func (.func 50) #[] #[], .func (.func 51) #[] #[], .func (.func 52) #[] #[], .func (.func 53) #[] #[], .func (.func 54) #[] #[], .func (.func 55) #[] #[], .func (.func 56) #[] #[], .func (.func 57) #[] #[]] 82)) | 4 => V 4 = .pointer (some ⟨L, 0, none⟩) ∧ L < H ∧ wx.heap[L]? = some (.cells #[.slice none 0 0, .slice none 0 0, .string ⟨#[]⟩, .string ⟨#[]⟩, .slice none 0 0, .bool false, .slice none 0 0, .slice none 0 0] 72) | 5 => V 5 = .pointer (some ⟨L, 0, none⟩) ∧ L < H ∧ wx.heap[L]? = some (.cells #[.slice none 0 0] 73) | 6 => ∀ x0 x1 x2 x3 x4 x5 x6 x7, V 2 = .agg #[x0, x1, x2, x3, x4, x5, x6, x7] → L < H ∧ wx.heap[L]? = some (.cells #[x0, x1, x2, x3, x4, x5, x6, x7] 72) | 7 => ∀ x0, V 3 = x0 → L < H ∧ wx.heap[L]? = some (.cells #[x0] 73) | _ => True) (by kernel_rfl) (by kernel_rfl) ?obs (fun _ h => h.elim) trivial (fun _ _ _ _ _ => trivial) ?loc ?lasts ?walk
  case obs =>
    trivial
  case loc =>
    intro k V V' L H wx h0 h1 hG
    match k with
    | 0 =>
      try dsimp only at hG ⊢
      rw [← h0]
      exact hG
    | 1 =>
      try dsimp only at hG ⊢
      rw [← h0]
      exact hG
    | 2 =>
      try dsimp only at hG ⊢
      rw [← h0]
      exact hG
    | 3 =>
      try dsimp only at hG ⊢
      rw [← h0]
      exact hG
    | 4 =>
      try dsimp only at hG ⊢
      rw [← h0]
      exact hG
    | 5 =>
      try dsimp only at hG ⊢
      rw [← h0]
      exact hG
    | 6 =>
      have e2 := h1 2 (by decide)
      try dsimp only at hG ⊢
      rw [← e2]
      exact hG
    | 7 =>
      have e3 := h1 3 (by decide)
      try dsimp only at hG ⊢
      rw [← e3]
      exact hG
    | n + 8 => trivial
  case lasts =>
    intro i hi V L H wx wy hB hH hk
    match i, hi with
    | 0, _ => exact fun h => h
    | 1, _ => exact fun h => h
    | 2, _ => exact fun h => h
    | 3, _ => exact fun ⟨B, hv, ho0⟩ => ⟨B, hv, ((fun hh => ⟨hh.1, hh.2.1, (hk.2 _ (.inr (.inl ⟨hh.1, hh.2.1⟩)) (Nat.lt_of_lt_of_le hh.2.1 hH)).trans hh.2.2⟩) ho0)⟩
    | 4, _ => exact fun ⟨hv, hl, hc⟩ => ⟨hv, hl, (hk.2 L (.inr (.inl ⟨Nat.le_refl _, hl⟩)) (Nat.lt_of_lt_of_le hl hH)).trans hc⟩
    | 5, _ => exact fun ⟨hv, hl, hc⟩ => ⟨hv, hl, (hk.2 L (.inr (.inl ⟨Nat.le_refl _, hl⟩)) (Nat.lt_of_lt_of_le hl hH)).trans hc⟩
    | 6, _ => exact fun h x0 x1 x2 x3 x4 x5 x6 x7 hv => ⟨(h x0 x1 x2 x3 x4 x5 x6 x7 hv).1, (hk.2 L (.inr (.inl ⟨Nat.le_refl _, (h x0 x1 x2 x3 x4 x5 x6 x7 hv).1⟩)) (Nat.lt_of_lt_of_le (h x0 x1 x2 x3 x4 x5 x6 x7 hv).1 hH)).trans (h x0 x1 x2 x3 x4 x5 x6 x7 hv).2⟩
    | 7, _ => exact fun h x0 hv => ⟨(h x0 hv).1, (hk.2 L (.inr (.inl ⟨Nat.le_refl _, (h x0 hv).1⟩)) (Nat.lt_of_lt_of_le (h x0 hv).1 hH)).trans (h x0 hv).2⟩
    | n + 8, hn => exact absurd hn (by simp)
  case walk =>
    simp (maxSteps := 4000000) only [freeK, Nat.reduceAdd, Act.put, List.setIfInBounds_toArray, List.set_cons_succ, List.set_cons_zero]
    refine ⟨?_, ?_, ?_, ?_, ?_, ?_, ?_, ?_, ?_⟩
    · intro V L H w1 hw hk hj hd
      clear hd
      have g0 : w1.cell? ⟨w.heap.size, 0, none⟩ = some (.slice a0 g.fSymbols.length c0_0) := (hk.cell (p := ⟨w.heap.size, 0, none⟩) ⟨(show w.heap.size < w0.heap.size by have := HSZ.out; omega), fun h => h, trivial⟩ (show w.heap.size < w0.heap.size by have := HSZ.out; omega)).trans (pblk_cell HG0.out rfl)
      have g1 : w1.cell? ⟨w.heap.size, 1, none⟩ = some (.slice a1 g.fRules.length c0_1) := (hk.cell (p := ⟨w.heap.size, 1, none⟩) ⟨(show w.heap.size < w0.heap.size by have := HSZ.out; omega), fun h => h, trivial⟩ (show w.heap.size < w0.heap.size by have := HSZ.out; omega)).trans (pblk_cell HG0.out rfl)
      go_wp2_with fail
      exact freePost _ rfl ⟨⟨WritesF.refl _ _, hj⟩, upd_self⟩
    · intro V L H w1 hw hk hj hd
      clear hd
      have r0 : w1.cell? ⟨w.heap.size + 1, 0, none⟩ = some (.string x.fName) := (hk.cell (p := ⟨w.heap.size + 1, 0, none⟩) ⟨(show w.heap.size + 1 < w0.heap.size by have := HSZ.out; omega), fun h => h, trivial⟩ (show w.heap.size + 1 < w0.heap.size by have := HSZ.out; omega)).trans (pblk_cell HR0.out rfl)
      have r1 : w1.cell? ⟨w.heap.size + 1, 1, none⟩ = some (.string x.fLeft) := (hk.cell (p := ⟨w.heap.size + 1, 1, none⟩) ⟨(show w.heap.size + 1 < w0.heap.size by have := HSZ.out; omega), fun h => h, trivial⟩ (show w.heap.size + 1 < w0.heap.size by have := HSZ.out; omega)).trans (pblk_cell HR0.out rfl)
      have r2 : w1.cell? ⟨w.heap.size + 1, 2, none⟩ = some (.slice b2 x.fRight.length c1_0) := (hk.cell (p := ⟨w.heap.size + 1, 2, none⟩) ⟨(show w.heap.size + 1 < w0.heap.size by have := HSZ.out; omega), fun h => h, trivial⟩ (show w.heap.size + 1 < w0.heap.size by have := HSZ.out; omega)).trans (pblk_cell HR0.out rfl)
      have r3 : w1.cell? ⟨w.heap.size + 1, 3, none⟩ = some (.bool x.fLiteral) := (hk.cell (p := ⟨w.heap.size + 1, 3, none⟩) ⟨(show w.heap.size + 1 < w0.heap.size by have := HSZ.out; omega), fun h => h, trivial⟩ (show w.heap.size + 1 < w0.heap.size by have := HSZ.out; omega)).trans (pblk_cell HR0.out rfl)
      have r4 : w1.cell? ⟨w.heap.size + 1, 4, none⟩ = some (.slice b4 x.fEquations.length c1_1) := (hk.cell (p := ⟨w.heap.size + 1, 4, none⟩) ⟨(show w.heap.size + 1 < w0.heap.size by have := HSZ.out; omega), fun h => h, trivial⟩ (show w.heap.size + 1 < w0.heap.size by have := HSZ.out; omega)).trans (pblk_cell HR0.out rfl)
      have r5 : w1.cell? ⟨w.heap.size + 1, 5, none⟩ = some (.slice b5 x.fContributions.length c1_2) := (hk.cell (p := ⟨w.heap.size + 1, 5, none⟩) ⟨(show w.heap.size + 1 < w0.heap.size by have := HSZ.out; omega), fun h => h, trivial⟩ (show w.heap.size + 1 < w0.heap.size by have := HSZ.out; omega)).trans (pblk_cell HR0.out rfl)
      go_wp2_with fail
      exact freePost _ rfl ⟨⟨WritesF.refl _ _, hj⟩, upd_self⟩
    · intro V L H w1 hw hk hj hd
      obtain ⟨⟨hL0, hM0, hH0, hv0⟩, ⟨hL1, hM1, hH1, hv1⟩, -⟩ := hd
      rw [hv0, hv1]
      have HV0 := Lib.hid hv0
      have HV1 := Lib.hid hv1
      clear hv0 hv1
      go_wp2_with fail
      exact freePost _ rfl ⟨⟨WritesF.refl _ _, hj⟩, upd_self⟩
    · intro V L H w1 hw hk hj hd
      clear hd
      go_wp2_with fail
      refine (impl_typingRules w1).mono ?_
      rintro e w2 ⟨rfl, rfl⟩
      have hb2 := (Below.refl w1.heap.size w1).alloc (Nat.le_refl _) (.cells #[.nilFunc, .func (.func 50) #[] #[], .func (.func 51) #[] #[], .func (.func 52) #[] #[], .func (.func 53) #[] #[], .func (.func 54) #[] #[], .func (.func 55) #[] #[], .func (.func 56) #[] #[], .func (.func 57) #[] #[]] 82)
      go_wp2_with fail
      exact freePost _ rfl ⟨⟨(WritesF.refl _ _).later hb2, trivial⟩, Exists.intro w1.heap.size (And.intro (upd_self) (⟨Nat.le_refl _, by simp, blk_new rfl⟩))⟩
    · intro V L H w1 hw hk hj hd
      clear hd
      go_wp2_with fail
      refine freePost _ rfl ⟨⟨(WritesF.refl _ _).later ((Below.refl _ _).alloc (Nat.le_refl _) _), trivial⟩, upd_self, by simp, blk_new rfl⟩
    · intro V L H w1 hw hk hj hd
      clear hd
      go_wp2_with fail
      refine freePost _ rfl ⟨⟨(WritesF.refl _ _).later ((Below.refl _ _).alloc (Nat.le_refl _) _), trivial⟩, upd_self, by simp, blk_new rfl⟩
    · intro V L H w1 hw hk hj hd
      obtain ⟨⟨hL4, hM4, hH4, hv4, hlt4, hc4⟩, ⟨hL2, hM2, hH2, hv2⟩, -⟩ := hd
      rw [hv4, hv2]
      have HV4 := Lib.hid hv4
      have HV2 := Lib.hid hv2
      clear hv4 hv2
      have hc_0 := pblk_cell (j := 0) (v := .slice none 0 0) hc4 rfl
      have hf_0 := pblk_frozen (j := 0) hc4
      have hc_1 := pblk_cell (j := 1) (v := .slice none 0 0) hc4 rfl
      have hf_1 := pblk_frozen (j := 1) hc4
      have hc_2 := pblk_cell (j := 2) (v := .string ⟨#[]⟩) hc4 rfl
      have hf_2 := pblk_frozen (j := 2) hc4
      have hc_3 := pblk_cell (j := 3) (v := .string ⟨#[]⟩) hc4 rfl
      have hf_3 := pblk_frozen (j := 3) hc4
      have hc_4 := pblk_cell (j := 4) (v := .slice none 0 0) hc4 rfl
      have hf_4 := pblk_frozen (j := 4) hc4
      have hc_5 := pblk_cell (j := 5) (v := .bool false) hc4 rfl
      have hf_5 := pblk_frozen (j := 5) hc4
      have hc_6 := pblk_cell (j := 6) (v := .slice none 0 0) hc4 rfl
      have hf_6 := pblk_frozen (j := 6) hc4
      have hc_7 := pblk_cell (j := 7) (v := .slice none 0 0) hc4 rfl
      have hf_7 := pblk_frozen (j := 7) hc4
      have HBLK := Lib.hid hc4
      clear hc4
      go_wp2_with fail
      refine freePost undef rfl ⟨(Touches.put (L := L 4) (H := H 4) (Touches.put (L := L 4) (H := H 4) (Touches.put (L := L 4) (H := H 4) (Touches.put (L := L 4) (H := H 4) (Touches.put (L := L 4) (H := H 4) (Touches.put (L := L 4) (H := H 4) (Touches.put (L := L 4) (H := H 4) (Touches.put (L := L 4) (H := H 4) Touches.refl (p := ⟨L 4, 0, none⟩) ⟨Nat.le_refl _, hlt4⟩ _) (p := ⟨L 4, 1, none⟩) ⟨Nat.le_refl _, hlt4⟩ _) (p := ⟨L 4, 2, none⟩) ⟨Nat.le_refl _, hlt4⟩ _) (p := ⟨L 4, 3, none⟩) ⟨Nat.le_refl _, hlt4⟩ _) (p := ⟨L 4, 4, none⟩) ⟨Nat.le_refl _, hlt4⟩ _) (p := ⟨L 4, 5, none⟩) ⟨Nat.le_refl _, hlt4⟩ _) (p := ⟨L 4, 6, none⟩) ⟨Nat.le_refl _, hlt4⟩ _) (p := ⟨L 4, 7, none⟩) ⟨Nat.le_refl _, hlt4⟩ _), fun x0 x1 x2 x3 x4 x5 x6 x7 h => ?_⟩
      cases (HV2.out.symm.trans ((upd_ne (by decide)).symm.trans h))
      exact ⟨hlt4, (pblk_put (pblk_put (pblk_put (pblk_put (pblk_put (pblk_put (pblk_put (pblk_put HBLK.out rfl) rfl) rfl) rfl) rfl) rfl) rfl) rfl)⟩
    · intro V L H w1 hw hk hj hd
      obtain ⟨⟨hL5, hM5, hH5, hv5, hlt5, hc5⟩, ⟨hL3, hM3, hH3, B, hv3, ho3_0⟩, -⟩ := hd
      rw [hv5, hv3]
      have HV5 := Lib.hid hv5
      have HV3 := Lib.hid hv3
      clear hv5 hv3
      have hc_0 := pblk_cell (j := 0) (v := .slice none 0 0) hc5 rfl
      have hf_0 := pblk_frozen (j := 0) hc5
      have HBLK := Lib.hid hc5
      clear hc5
      go_wp2_with fail
      refine freePost undef rfl ⟨(Touches.put (L := L 5) (H := H 5) Touches.refl (p := ⟨L 5, 0, none⟩) ⟨Nat.le_refl _, hlt5⟩ _), fun x0 h => ?_⟩
      cases (HV3.out.symm.trans ((upd_ne (by decide)).symm.trans h))
      exact ⟨hlt5, (pblk_put HBLK.out rfl)⟩
    · intro V L H w1 hw hj hd hap hdead
      obtain ⟨⟨hL0, hM0, hH0, hv0⟩, ⟨hL1, hM1, hH1, hv1⟩, ⟨hL2, hM2, hH2, hv2⟩, ⟨hL3, hM3, hH3, B, hv3, ho3_0⟩, ⟨hL6, hM6, hH6, hst6_⟩, ⟨hL7, hM7, hH7, hst7_⟩, -⟩ := hd
      obtain ⟨vlt6, vb6⟩ := hst6_ _ _ _ _ _ _ _ _ hv2
      obtain ⟨hLe6, hHe6, wo6, hva6, -⟩ := hdead 6 4 (by decide) rfl
      rw [← hLe6] at hva6
      clear hLe6 hHe6
      obtain ⟨vlt7, vb7⟩ := hst7_ _ hv3
      obtain ⟨hLe7, hHe7, wo7, hva7, -⟩ := hdead 7 5 (by decide) rfl
      rw [← hLe7] at hva7
      clear hLe7 hHe7
      rw [hv0, hv1, hv2, hv3, hva6, hva7]
      clear hv0 hv1 hv2 hv3 hva6 hva7
      have HBW := Lib.hid (HB.out.trans ((fa_noneK hw).mono HB.out.size))
      have HB1 := Lib.hid (fa_noneK hw)
      have HX := Lib.hid (HF.out (L 7) (L 6) w1 HBW.out (fun nd zs a c C W hm _ _ hW _ hown => HC.out (L 7) (L 6) B nd zs a c C (HN.out nd hm).1 (HN.out nd hm).2.1 (HN.out nd hm).2.2 W (HBW.out.trans (hW.mono HBW.out.size)) (heap_belowT hW vb7) (heap_belowT hW vb6) (heap_belowT hW ho3_0.2.2) hown))
      have HZ1 := Lib.hid HSZ.out
      clear hw hj hap hdead hst6_ hst7_ ho3_0 vb6 vb7 vlt6 vlt7 hL0 hM0 hH0 hL1 hM1 hH1 hL2 hM2 hH2 hL3 hM3 hH3 hL6 hM6 hH6 hL7 hM7 hH7 HF HC HN HG0 HR0 HHI
      have y0 : w1.cell? ⟨w.heap.size + 1 + 1, 0, none⟩ = some (.int .i64 y.fKind) := (HB1.out.cell (p := ⟨w.heap.size + 2, 0, none⟩) (show w.heap.size + 2 < w0.heap.size by have := HSZ.out; omega)).trans (pblk_cell HE0.out rfl)
      have y1 : w1.cell? ⟨w.heap.size + 1 + 1, 1, none⟩ = some (.int .i64 y.fN) := (HB1.out.cell (p := ⟨w.heap.size + 2, 1, none⟩) (show w.heap.size + 2 < w0.heap.size by have := HSZ.out; omega)).trans (pblk_cell HE0.out rfl)
      have y2 : w1.cell? ⟨w.heap.size + 1 + 1, 2, none⟩ = some (.int .i64 y.fPos) := (HB1.out.cell (p := ⟨w.heap.size + 2, 2, none⟩) (show w.heap.size + 2 < w0.heap.size by have := HSZ.out; omega)).trans (pblk_cell HE0.out rfl)
      have y3 : w1.cell? ⟨w.heap.size + 1 + 1, 3, none⟩ = some (.int .i64 y.fType) := (HB1.out.cell (p := ⟨w.heap.size + 2, 3, none⟩) (show w.heap.size + 2 < w0.heap.size by have := HSZ.out; omega)).trans (pblk_cell HE0.out rfl)
      have y4 : w1.cell? ⟨w.heap.size + 1 + 1, 4, none⟩ = some (.string y.fSymbol) := (HB1.out.cell (p := ⟨w.heap.size + 2, 4, none⟩) (show w.heap.size + 2 < w0.heap.size by have := HSZ.out; omega)).trans (pblk_cell HE0.out rfl)
      have y5 : w1.cell? ⟨w.heap.size + 1 + 1, 5, none⟩ = some (.string y.fName) := (HB1.out.cell (p := ⟨w.heap.size + 2, 5, none⟩) (show w.heap.size + 2 < w0.heap.size by have := HSZ.out; omega)).trans (pblk_cell HE0.out rfl)
      have y6 : w1.cell? ⟨w.heap.size + 1 + 1, 6, none⟩ = some (.slice a6 y.fArgs.length c6) := (HB1.out.cell (p := ⟨w.heap.size + 2, 6, none⟩) (show w.heap.size + 2 < w0.heap.size by have := HSZ.out; omega)).trans (pblk_cell HE0.out rfl)
      clear HE0 HB1 HSZ HB HZ1
      go_wp2_with fail
      refine HX.out.mono ?_
      rintro e w2 ⟨rfl, hb2⟩
      have HBN := Lib.hid (HBW.out.trans (hb2.mono HBW.out.size))
      clear hb2
      go_wp2
      go_ret
      exact ⟨rfl, HBN.out⟩
end Go.Proofs.Ytpipdlgnedhhaaa
