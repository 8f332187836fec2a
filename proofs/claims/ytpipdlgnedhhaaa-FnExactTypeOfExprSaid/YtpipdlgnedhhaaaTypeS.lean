/-
  TypeOfExpr of the model.
-/
import Derived.Test.YtpipdlgnedhhaaaTypeXAll
import Derived.Test.YtpipdlgnedhhaaaFreeK
namespace Go.Proofs.Ytpipdlgnedhhaaa
open Go.ChangeShapes Go.WideShapes Go.ChangeAt Go.RowKit Go.Deep

/-- The contract of the model's TypeOfExpr at an expression. -/
def SpecTy (g : DGrammar) (x : DRule) (y : DExpr) : Prop := ∀ ⦃lo hi c0_0 c0_1 c1_0 c1_1 c1_2 c6 : Nat⦄ ⦃a0 a1 b2 b4 b5 a6 : Option Addr⦄ (_ : y.ok) (_ : y.sz ≤ 1048576) (w : World) (_hhi : hi ≤ w.heap.size) (_hs0 : Sl lo hi w 2 g.fSymbols.length (fun k => DSymbol.ct (g.fSymbols.getD k default)) a0) (_hs2 : Sl lo hi w 1 x.fRight.length (fun k => ictS (x.fRight.getD k default)) b2) (_hs4 : Sl lo hi w 9 x.fEquations.length (fun k => DEquation.ct (x.fEquations.getD k default)) b4) (_hs5 : Sl lo hi w 16 x.fContributions.length (fun k => DContribution.ct (x.fContributions.getD k default)) b5) (_hs6 : Sl lo hi w 7 y.fArgs.length (ctE y.fArgs) a6),
    Calls Try.prog 7 #[.agg #[.slice a0 g.fSymbols.length c0_0, .slice a1 g.fRules.length c0_1], .agg #[.string x.fName, .string x.fLeft, .slice b2 x.fRight.length c1_0, .bool x.fLiteral, .slice b4 x.fEquations.length c1_1, .slice b5 x.fContributions.length c1_2], .agg #[.int .i64 y.fKind, .int .i64 y.fN, .int .i64 y.fPos, .int .i64 y.fType, .string y.fSymbol, .string y.fName, .slice a6 y.fArgs.length c6]] w fun e w' => e = .returned (.int .i64 (typeX g x y)) ∧ Below w.heap.size w w'
theorem getD_memT {α : Type} {d : α} (xs : List α) (j : Nat) (hj : j < xs.length) : xs.getD j d ∈ xs := by
  rw [List.getD_eq_getElem?_getD, List.getElem?_eq_getElem hj]; exact List.getElem_mem hj
theorem findAttr_zero {s : DSymbol} {nm : ByteArray} (h : (findAttr s nm).2 = false) : (findAttr s nm).1.fType = 0 := by
  unfold findAttr at h ⊢
  split at h
  · cases h
  · rename_i h0; rw [if_neg h0]; rfl
theorem opT_no {n : Int} {zs : List Int} (h : zs.length ≠ 2) : opT n zs = 0 := if_pos (.inl h)
theorem opT_map {g : DGrammar} {x : DRule} {n : Int} {es : List DExpr} (h : es.length = 2) : opT n (es.map (typeX g x)) = if typeX g x (es.getD 0 default) ≠ oL n ∨ typeX g x (es.getD 1 default) ≠ oR n then 0 else oO n := by
  unfold opT
  rw [typeX_at (by omega), typeX_at (by omega), List.length_map, h]
  simp
theorem ifT_no {zs : List Int} (h : zs.length ≠ 3) : ifT zs = 0 := if_pos (.inl h)
theorem ifT_map {g : DGrammar} {x : DRule} {es : List DExpr} (h : es.length = 3) : ifT (es.map (typeX g x)) = if typeX g x (es.getD 0 default) ≠ 3 ∨ typeX g x (es.getD 1 default) ≠ typeX g x (es.getD 2 default) then 0 else typeX g x (es.getD 1 default) := by
  unfold ifT
  rw [typeX_at (by omega), typeX_at (by omega), typeX_at (by omega), List.length_map, h]
  simp
theorem remT_no {g : DGrammar} {sy nm : ByteArray} {zs : List Int} (h : zs.length ≠ 1) : remT g sy nm zs = 0 := if_pos (.inl h)
theorem remT_map {g : DGrammar} {x : DRule} {sy nm : ByteArray} {es : List DExpr} (h : es.length = 1) : remT g sy nm (es.map (typeX g x)) = if typeX g x (es.getD 0 default) ≠ 4 then 0 else (findAttr (symS g.fSymbols sy) nm).1.fType := by
  unfold remT
  rw [typeX_at (by omega), List.length_map, h]
  simp

set_option maxHeartbeats 6400000 in
set_option maxRecDepth 100000 in
theorem spec_l12Attribute {lo hi n1 c0 c1 : Nat} {a0 a1 : Option Addr} (l : List DSymbol) (hz : lsz DSymbol.sz l ≤ 1048576) (sy nm : ByteArray) (w : World) (hhi : hi ≤ w.heap.size) (hs : Sl lo hi w 2 l.length (fun k => DSymbol.ct (l.getD k default)) a0) :
    Calls Try.prog 22 #[.agg #[.slice a0 l.length c0, .slice a1 n1 c1], .string sy, .string nm] w fun e w' => e = .returned (.int .i64 (findAttr (symS l sy) nm).1.fType) ∧ Below w.heap.size w w' := by
  have HB := Lib.hid ((Below.refl w.heap.size w).alloc (Nat.le_refl _) (.cells #[.slice a0 l.length c0, .slice a1 n1 c1] 41))
  have HNS := Lib.hid (sym_len hz sy)
  have HF := Lib.hid (spec_FindSymbolO (c0 := c0) (c1 := c1) (a1 := a1) (n1 := n1) l hz sy (w.alloc (.cells #[.slice a0 l.length c0, .slice a1 n1 c1] 41)) (Nat.le_trans hhi HB.out.size) (hs.later HB.out hhi))
  clear hz hs hhi
  generalize symS l sy = s at *
  generalize symB l sy = sb at *
  have HZ := Lib.hid (@findAttr_zero s nm)
  have HA := Lib.hid (fun (W : World) (a9 : Option Addr) (c9 hi : Nat) (h1 : hi ≤ W.heap.size) h2 => spec_FindAttributeL (lo := 0) (hi := hi) (a1 := a9) (c0_0 := c9) s HNS.out nm W h1 h2)
  generalize findAttr s nm = q at *
  obtain ⟨⟨q1, q2, q3, q4⟩, q5⟩ := q
  dsimp only at *
  cases q5
  · have h0 : q2 = 0 := HZ.out rfl
    subst h0
    clear HZ
    go_enter Try.func22, Try.ntmps22
    go_wp2_with fail
    refine HF.out.mono ?_
    rintro e w1 ⟨⟨a9, c9, rfl, ho⟩, hb1⟩
    have HB1 := Lib.hid (HB.out.trans (hb1.mono HB.out.size))
    have HSA := Lib.hid (show Sl 0 w1.heap.size w1 4 s.fAttributes.length (fun k => DAttribute.ct (s.fAttributes.getD k default)) a9 from Sl.of (ho.lies fun y hy => ⟨Nat.zero_le _, hy.2⟩))
    have HSB := Lib.hid (show Below w1.heap.size w1 (w1.alloc (.cells #[.string s.fName, .slice a9 s.fAttributes.length c9] 104)) from (Below.refl _ _).alloc (Nat.le_refl _) _)
    clear hb1 ho
    go_wp2_with fail
    refine (HA.out _ a9 c9 w1.heap.size HSB.out.size (HSA.out.later HSB.out (Nat.le_refl _))).mono ?_
    rintro e w2 ⟨rfl, hb2⟩
    have HB2 := Lib.hid ((HB1.out.trans (HSB.out.mono HB1.out.size)).trans (hb2.mono (HB1.out.trans (HSB.out.mono HB1.out.size)).size))
    clear hb2
    go_wp2
    go_ret
    exact ⟨rfl, HB2.out.alloc (by have := HB2.out.size; omega) _⟩
  · clear HZ
    go_enter Try.func22, Try.ntmps22
    go_wp2_with fail
    refine HF.out.mono ?_
    rintro e w1 ⟨⟨a9, c9, rfl, ho⟩, hb1⟩
    have HB1 := Lib.hid (HB.out.trans (hb1.mono HB.out.size))
    have HSA := Lib.hid (show Sl 0 w1.heap.size w1 4 s.fAttributes.length (fun k => DAttribute.ct (s.fAttributes.getD k default)) a9 from Sl.of (ho.lies fun y hy => ⟨Nat.zero_le _, hy.2⟩))
    have HSB := Lib.hid (show Below w1.heap.size w1 (w1.alloc (.cells #[.string s.fName, .slice a9 s.fAttributes.length c9] 104)) from (Below.refl _ _).alloc (Nat.le_refl _) _)
    clear hb1 ho
    go_wp2_with fail
    refine (HA.out _ a9 c9 w1.heap.size HSB.out.size (HSA.out.later HSB.out (Nat.le_refl _))).mono ?_
    rintro e w2 ⟨rfl, hb2⟩
    have HB2 := Lib.hid ((HB1.out.trans (HSB.out.mono HB1.out.size)).trans (hb2.mono (HB1.out.trans (HSB.out.mono HB1.out.size)).size))
    clear hb2
    go_wp2
    go_ret
    exact ⟨rfl, HB2.out.alloc (by have := HB2.out.size; omega) _⟩

set_option maxHeartbeats 32000000 in
set_option maxRecDepth 100000 in
theorem spec_l12Op {lo hi c0_0 c0_1 c1_0 c1_1 c1_2 c6 : Nat} {a0 a1 b2 b4 b5 a6 : Option Addr} (g : DGrammar) (x : DRule) (y : DExpr) (ih : ∀ a ∈ y.fArgs, SpecTy g x a) (oky : y.ok) (hszy : y.sz ≤ 1048576) (w : World) (hhi : hi ≤ w.heap.size) (hs0 : Sl lo hi w 2 g.fSymbols.length (fun k => DSymbol.ct (g.fSymbols.getD k default)) a0) (hs2 : Sl lo hi w 1 x.fRight.length (fun k => ictS (x.fRight.getD k default)) b2) (hs4 : Sl lo hi w 9 x.fEquations.length (fun k => DEquation.ct (x.fEquations.getD k default)) b4) (hs5 : Sl lo hi w 16 x.fContributions.length (fun k => DContribution.ct (x.fContributions.getD k default)) b5) (hs6 : Sl lo hi w 7 y.fArgs.length (ctE y.fArgs) a6) :
    Calls Try.prog 24 #[.agg #[.slice a0 g.fSymbols.length c0_0, .slice a1 g.fRules.length c0_1], .agg #[.string x.fName, .string x.fLeft, .slice b2 x.fRight.length c1_0, .bool x.fLiteral, .slice b4 x.fEquations.length c1_1, .slice b5 x.fContributions.length c1_2], .agg #[.int .i64 y.fKind, .int .i64 y.fN, .int .i64 y.fPos, .int .i64 y.fType, .string y.fSymbol, .string y.fName, .slice a6 y.fArgs.length c6]] w fun e w' => e = .returned (.int .i64 (opT y.fN (y.fArgs.map (typeX g x)))) ∧ Below w.heap.size w w' := by
  have HP := Lib.hid (fun W => spec_OperandTypes y.fN W)
  by_cases hn : y.fArgs.length = 2
  · rw [opT_map hn]
    generalize oL y.fN = l1 at *
    generalize oR y.fN = l2 at *
    generalize oO y.fN = l3 at *
    have HHI := Lib.hid hhi
    have hszx := hszy
    rw [DExpr.sz_eq] at hszx
    have HL := Lib.hid (fun (W : World) (hW : Below w.heap.size w W) => (show Sl lo hi W 2 g.fSymbols.length (fun k => DSymbol.ct (g.fSymbols.getD k default)) a0 ∧ Sl lo hi W 1 x.fRight.length (fun k => ictS (x.fRight.getD k default)) b2 ∧ Sl lo hi W 9 x.fEquations.length (fun k => DEquation.ct (x.fEquations.getD k default)) b4 ∧ Sl lo hi W 16 x.fContributions.length (fun k => DContribution.ct (x.fContributions.getD k default)) b5 from ⟨hs0.later hW hhi, hs2.later hW hhi, hs4.later hW hhi, hs5.later hW hhi⟩))
    have hok := ((DExpr.ok_iff y).1 oky).2.2.2.2.2.2.2
    have HNL := Lib.hid hn
    have IH := Lib.hid ih
    clear ih hs0 hs2 hs4 hs5 oky hszy
    obtain ⟨rb, ro, rfl, _, hrb, _⟩ := hs6.at 0 (by omega)
    have HAT := Lib.hid (show ∀ k, k < y.fArgs.length → _ from fun k hk => by
      obtain ⟨b', o', e', _, _, hc⟩ := hs6.at k hk
      simp only [Option.some.injEq, Addr.mk.injEq, and_true] at e'
      obtain ⟨rfl, rfl⟩ := e'
      exact hc)
    have HRB := Lib.hid (show rb < w.heap.size from Nat.lt_of_lt_of_le hrb hhi)
    have hk0 : 0 < y.fArgs.length := by omega
    have ha0 := HAT.out 0 hk0
    rw [ctE_at hk0] at ha0
    obtain ⟨a0_, c0_, A00, A01, A02, A03, A04, A05, A06, S0_⟩ := DExpr.open ha0
    have Z0 := szle_at (f := DExpr.sz) y.fArgs 0 hk0
    have HM0 := Lib.hid (fun (W : World) (hW : Below w.heap.size w W) => IH.out _ (getD_memT y.fArgs 0 hk0) (lo := lo) (hi := hi) (c0_0 := c0_0) (c0_1 := c0_1) (c1_0 := c1_0) (c1_1 := c1_1) (c1_2 := c1_2) (c6 := c0_) (a0 := a0) (a1 := a1) (hok _ (getD_memT y.fArgs 0 hk0)) (by omega) W (Nat.le_trans HHI.out hW.size) (HL.out W hW).1 (HL.out W hW).2.1 (HL.out W hW).2.2.1 (HL.out W hW).2.2.2 (S0_.later hW HHI.out))
    have hk1 : 1 < y.fArgs.length := by omega
    have ha1 := HAT.out 1 hk1
    rw [ctE_at hk1] at ha1
    obtain ⟨a1_, c1_, A10, A11, A12, A13, A14, A15, A16, S1_⟩ := DExpr.open ha1
    have Z1 := szle_at (f := DExpr.sz) y.fArgs 1 hk1
    have HM1 := Lib.hid (fun (W : World) (hW : Below w.heap.size w W) => IH.out _ (getD_memT y.fArgs 1 hk1) (lo := lo) (hi := hi) (c0_0 := c0_0) (c0_1 := c0_1) (c1_0 := c1_0) (c1_1 := c1_1) (c1_2 := c1_2) (c6 := c1_) (a0 := a0) (a1 := a1) (hok _ (getD_memT y.fArgs 1 hk1)) (by omega) W (Nat.le_trans HHI.out hW.size) (HL.out W hW).1 (HL.out W hW).2.1 (HL.out W hW).2.2.1 (HL.out W hW).2.2.2 (S1_.later hW HHI.out))
    clear hs6 HAT IH hok HL
    have C00 := Lib.hid (show w.cell? ⟨rb, ro, none⟩ = some (.int .i64 (y.fArgs.getD 0 default).fKind) from A00)
    have C01 := Lib.hid (show w.cell? ⟨rb, ro + 1, none⟩ = some (.int .i64 (y.fArgs.getD 0 default).fN) from A01)
    have C02 := Lib.hid (show w.cell? ⟨rb, ro + 2, none⟩ = some (.int .i64 (y.fArgs.getD 0 default).fPos) from A02)
    have C03 := Lib.hid (show w.cell? ⟨rb, ro + 3, none⟩ = some (.int .i64 (y.fArgs.getD 0 default).fType) from A03)
    have C04 := Lib.hid (show w.cell? ⟨rb, ro + 4, none⟩ = some (.string (y.fArgs.getD 0 default).fSymbol) from A04)
    have C05 := Lib.hid (show w.cell? ⟨rb, ro + 5, none⟩ = some (.string (y.fArgs.getD 0 default).fName) from A05)
    have C06 := Lib.hid (show w.cell? ⟨rb, ro + 6, none⟩ = some (.slice a0_ (y.fArgs.getD 0 default).fArgs.length c0_) from A06)
    clear ha0 A00 A01 A02 A03 A04 A05 A06 S0_ Z0 hk0
    generalize y.fArgs.getD 0 default = y0 at *
    generalize typeX g x y0 = z0 at *
    have C10 := Lib.hid (show w.cell? ⟨rb, ro + 7, none⟩ = some (.int .i64 (y.fArgs.getD 1 default).fKind) from A10)
    have C11 := Lib.hid (show w.cell? ⟨rb, ro + 8, none⟩ = some (.int .i64 (y.fArgs.getD 1 default).fN) from A11)
    have C12 := Lib.hid (show w.cell? ⟨rb, ro + 9, none⟩ = some (.int .i64 (y.fArgs.getD 1 default).fPos) from A12)
    have C13 := Lib.hid (show w.cell? ⟨rb, ro + 10, none⟩ = some (.int .i64 (y.fArgs.getD 1 default).fType) from A13)
    have C14 := Lib.hid (show w.cell? ⟨rb, ro + 11, none⟩ = some (.string (y.fArgs.getD 1 default).fSymbol) from A14)
    have C15 := Lib.hid (show w.cell? ⟨rb, ro + 12, none⟩ = some (.string (y.fArgs.getD 1 default).fName) from A15)
    have C16 := Lib.hid (show w.cell? ⟨rb, ro + 13, none⟩ = some (.slice a1_ (y.fArgs.getD 1 default).fArgs.length c1_) from A16)
    clear ha1 A10 A11 A12 A13 A14 A15 A16 S1_ Z1 hk1
    generalize y.fArgs.getD 1 default = y1 at *
    generalize typeX g x y1 = z1 at *
    rw [hn]
    clear hszx hrb hn HNL
    have HB := Lib.hid ((((Below.refl w.heap.size w).alloc (Nat.le_refl _) (.cells #[.slice a0 g.fSymbols.length c0_0, .slice a1 g.fRules.length c0_1] 41)).alloc (by simp) (.cells #[.string x.fName, .string x.fLeft, .slice b2 x.fRight.length c1_0, .bool x.fLiteral, .slice b4 x.fEquations.length c1_1, .slice b5 x.fContributions.length c1_2] 46)).alloc (by simp <;> omega) (.cells #[.int .i64 y.fKind, .int .i64 y.fN, .int .i64 y.fPos, .int .i64 y.fType, .string y.fSymbol, .string y.fName, .slice (some ⟨rb, ro, none⟩) 2 c6] 50))
    have HG0 := Lib.hid (show (((w.alloc (.cells #[.slice a0 g.fSymbols.length c0_0, .slice a1 g.fRules.length c0_1] 41)).alloc (.cells #[.string x.fName, .string x.fLeft, .slice b2 x.fRight.length c1_0, .bool x.fLiteral, .slice b4 x.fEquations.length c1_1, .slice b5 x.fContributions.length c1_2] 46)).alloc (.cells #[.int .i64 y.fKind, .int .i64 y.fN, .int .i64 y.fPos, .int .i64 y.fType, .string y.fSymbol, .string y.fName, .slice (some ⟨rb, ro, none⟩) 2 c6] 50)).heap[w.heap.size]? = some (.cells #[.slice a0 g.fSymbols.length c0_0, .slice a1 g.fRules.length c0_1] 41) from blk_alloc (by simp <;> omega) (blk_alloc (by simp) (blk_new rfl)))
    have HR0 := Lib.hid (show (((w.alloc (.cells #[.slice a0 g.fSymbols.length c0_0, .slice a1 g.fRules.length c0_1] 41)).alloc (.cells #[.string x.fName, .string x.fLeft, .slice b2 x.fRight.length c1_0, .bool x.fLiteral, .slice b4 x.fEquations.length c1_1, .slice b5 x.fContributions.length c1_2] 46)).alloc (.cells #[.int .i64 y.fKind, .int .i64 y.fN, .int .i64 y.fPos, .int .i64 y.fType, .string y.fSymbol, .string y.fName, .slice (some ⟨rb, ro, none⟩) 2 c6] 50)).heap[w.heap.size + 1]? = some (.cells #[.string x.fName, .string x.fLeft, .slice b2 x.fRight.length c1_0, .bool x.fLiteral, .slice b4 x.fEquations.length c1_1, .slice b5 x.fContributions.length c1_2] 46) from blk_alloc (by simp) (blk_new (by simp)))
    have HY0 := Lib.hid (show (((w.alloc (.cells #[.slice a0 g.fSymbols.length c0_0, .slice a1 g.fRules.length c0_1] 41)).alloc (.cells #[.string x.fName, .string x.fLeft, .slice b2 x.fRight.length c1_0, .bool x.fLiteral, .slice b4 x.fEquations.length c1_1, .slice b5 x.fContributions.length c1_2] 46)).alloc (.cells #[.int .i64 y.fKind, .int .i64 y.fN, .int .i64 y.fPos, .int .i64 y.fType, .string y.fSymbol, .string y.fName, .slice (some ⟨rb, ro, none⟩) 2 c6] 50)).heap[w.heap.size + 2]? = some (.cells #[.int .i64 y.fKind, .int .i64 y.fN, .int .i64 y.fPos, .int .i64 y.fType, .string y.fSymbol, .string y.fName, .slice (some ⟨rb, ro, none⟩) 2 c6] 50) from blk_new (by simp))
    have HSZ := Lib.hid (show (((w.alloc (.cells #[.slice a0 g.fSymbols.length c0_0, .slice a1 g.fRules.length c0_1] 41)).alloc (.cells #[.string x.fName, .string x.fLeft, .slice b2 x.fRight.length c1_0, .bool x.fLiteral, .slice b4 x.fEquations.length c1_1, .slice b5 x.fContributions.length c1_2] 46)).alloc (.cells #[.int .i64 y.fKind, .int .i64 y.fN, .int .i64 y.fPos, .int .i64 y.fType, .string y.fSymbol, .string y.fName, .slice (some ⟨rb, ro, none⟩) 2 c6] 50)).heap.size = w.heap.size + 3 by simp)
    obtain ⟨w0, hw0⟩ : ∃ W : World, W = (((w.alloc (.cells #[.slice a0 g.fSymbols.length c0_0, .slice a1 g.fRules.length c0_1] 41)).alloc (.cells #[.string x.fName, .string x.fLeft, .slice b2 x.fRight.length c1_0, .bool x.fLiteral, .slice b4 x.fEquations.length c1_1, .slice b5 x.fContributions.length c1_2] 46)).alloc (.cells #[.int .i64 y.fKind, .int .i64 y.fN, .int .i64 y.fPos, .int .i64 y.fType, .string y.fSymbol, .string y.fName, .slice (some ⟨rb, ro, none⟩) 2 c6] 50)) := ⟨_, rfl⟩
    rw [← hw0] at HB HG0 HR0 HY0 HSZ
    have HWE := Lib.hid hw0
    clear hw0
    have ltg : w.heap.size < w0.heap.size := by have := HSZ.out; omega
    have ltr : w.heap.size + 1 < w0.heap.size := by have := HSZ.out; omega
    have lty : w.heap.size + 2 < w0.heap.size := by have := HSZ.out; omega
    have lta : rb < w0.heap.size := Nat.lt_of_lt_of_le HRB.out HB.out.size
    have KG := Lib.hid (show ∀ W : World, (∀ p : Addr, p.block < w0.heap.size → W.cell? p = w0.cell? p) → W.cell? ⟨w.heap.size, 0, none⟩ = some (.slice a0 g.fSymbols.length c0_0) ∧ W.cell? ⟨w.heap.size, 1, none⟩ = some (.slice a1 g.fRules.length c0_1) from fun W h => ⟨(h _ ltg).trans (pblk_cell HG0.out rfl), (h _ ltg).trans (pblk_cell HG0.out rfl)⟩)
    have KR := Lib.hid (show ∀ W : World, (∀ p : Addr, p.block < w0.heap.size → W.cell? p = w0.cell? p) → W.cell? ⟨w.heap.size + 1, 0, none⟩ = some (.string x.fName) ∧ W.cell? ⟨w.heap.size + 1, 1, none⟩ = some (.string x.fLeft) ∧ W.cell? ⟨w.heap.size + 1, 2, none⟩ = some (.slice b2 x.fRight.length c1_0) ∧ W.cell? ⟨w.heap.size + 1, 3, none⟩ = some (.bool x.fLiteral) ∧ W.cell? ⟨w.heap.size + 1, 4, none⟩ = some (.slice b4 x.fEquations.length c1_1) ∧ W.cell? ⟨w.heap.size + 1, 5, none⟩ = some (.slice b5 x.fContributions.length c1_2) from fun W h => ⟨(h _ ltr).trans (pblk_cell HR0.out rfl), (h _ ltr).trans (pblk_cell HR0.out rfl), (h _ ltr).trans (pblk_cell HR0.out rfl), (h _ ltr).trans (pblk_cell HR0.out rfl), (h _ ltr).trans (pblk_cell HR0.out rfl), (h _ ltr).trans (pblk_cell HR0.out rfl)⟩)
    have KY6 := Lib.hid (show ∀ W : World, (∀ p : Addr, p.block < w0.heap.size → W.cell? p = w0.cell? p) → W.cell? ⟨w.heap.size + 2, 6, none⟩ = some (.slice (some ⟨rb, ro, none⟩) 2 c6) from fun W h => (h _ lty).trans (pblk_cell HY0.out rfl))
    have KA0 := Lib.hid (show ∀ W : World, (∀ p : Addr, p.block < w0.heap.size → W.cell? p = w0.cell? p) → W.cell? ⟨rb, ro, none⟩ = some (.int .i64 y0.fKind) ∧ W.cell? ⟨rb, ro + 1, none⟩ = some (.int .i64 y0.fN) ∧ W.cell? ⟨rb, ro + 2, none⟩ = some (.int .i64 y0.fPos) ∧ W.cell? ⟨rb, ro + 3, none⟩ = some (.int .i64 y0.fType) ∧ W.cell? ⟨rb, ro + 4, none⟩ = some (.string y0.fSymbol) ∧ W.cell? ⟨rb, ro + 5, none⟩ = some (.string y0.fName) ∧ W.cell? ⟨rb, ro + 6, none⟩ = some (.slice a0_ y0.fArgs.length c0_) from fun W h => ⟨(h _ lta).trans ((HB.out.cell (p := ⟨rb, ro, none⟩) HRB.out).trans C00.out), (h _ lta).trans ((HB.out.cell (p := ⟨rb, ro + 1, none⟩) HRB.out).trans C01.out), (h _ lta).trans ((HB.out.cell (p := ⟨rb, ro + 2, none⟩) HRB.out).trans C02.out), (h _ lta).trans ((HB.out.cell (p := ⟨rb, ro + 3, none⟩) HRB.out).trans C03.out), (h _ lta).trans ((HB.out.cell (p := ⟨rb, ro + 4, none⟩) HRB.out).trans C04.out), (h _ lta).trans ((HB.out.cell (p := ⟨rb, ro + 5, none⟩) HRB.out).trans C05.out), (h _ lta).trans ((HB.out.cell (p := ⟨rb, ro + 6, none⟩) HRB.out).trans C06.out)⟩)
    have KA1 := Lib.hid (show ∀ W : World, (∀ p : Addr, p.block < w0.heap.size → W.cell? p = w0.cell? p) → W.cell? ⟨rb, ro + 7, none⟩ = some (.int .i64 y1.fKind) ∧ W.cell? ⟨rb, ro + 8, none⟩ = some (.int .i64 y1.fN) ∧ W.cell? ⟨rb, ro + 9, none⟩ = some (.int .i64 y1.fPos) ∧ W.cell? ⟨rb, ro + 10, none⟩ = some (.int .i64 y1.fType) ∧ W.cell? ⟨rb, ro + 11, none⟩ = some (.string y1.fSymbol) ∧ W.cell? ⟨rb, ro + 12, none⟩ = some (.string y1.fName) ∧ W.cell? ⟨rb, ro + 13, none⟩ = some (.slice a1_ y1.fArgs.length c1_) from fun W h => ⟨(h _ lta).trans ((HB.out.cell (p := ⟨rb, ro + 7, none⟩) HRB.out).trans C10.out), (h _ lta).trans ((HB.out.cell (p := ⟨rb, ro + 8, none⟩) HRB.out).trans C11.out), (h _ lta).trans ((HB.out.cell (p := ⟨rb, ro + 9, none⟩) HRB.out).trans C12.out), (h _ lta).trans ((HB.out.cell (p := ⟨rb, ro + 10, none⟩) HRB.out).trans C13.out), (h _ lta).trans ((HB.out.cell (p := ⟨rb, ro + 11, none⟩) HRB.out).trans C14.out), (h _ lta).trans ((HB.out.cell (p := ⟨rb, ro + 12, none⟩) HRB.out).trans C15.out), (h _ lta).trans ((HB.out.cell (p := ⟨rb, ro + 13, none⟩) HRB.out).trans C16.out)⟩)
    clear ltg ltr lty lta HG0 HR0 HY0 C00 C01 C02 C03 C04 C05 C06 C10 C11 C12 C13 C14 C15 C16
    by_cases h0 : z0 = l1
    · have e0 : (z0 != l1) = false := by simp [h0]
      by_cases h1 : z1 = l2
      · have e1 : (z1 != l2) = false := by simp [h1]
        rw [if_neg (by simp [h0, h1])]
        clear h0 h1
        go_enter Try.func24, Try.ntmps24
        go_wp2_with fail
        refine (HP.out _).mono ?_
        rintro e w9 ⟨rfl, rfl⟩
        go_wp2_with fail
        rw [← HWE.out]
        clear HWE
        refine wp_region_freeK [([], .none, []), ([0], .none, []), ([1], .none, []), ([2], .none, []), ([3], .none, []), ([4], .none, []), ([4], .none, []), ([4], .none, []), ([4, 7], .none, []), ([4, 8], .none, []), ([4, 9], .none, []), ([4, 5, 6, 10], .none, []), ([4], .none, []), ([4, 11, 12], .none, []), ([4, 13], .none, []), ([14], .none, []), ([15], .none, []), ([15], .none, []), ([15], .none, []), ([15, 18], .none, []), ([15, 19], .none, []), ([15, 20], .none, []), ([15, 16, 17, 21], .none, []), ([15], .none, []), ([15, 22, 23], .none, []), ([15, 24], .none, [])] [0, 1, 2, 3, 4, 5, 6, 7, 8, 9, 10, 11, 12, 13, 14, 15, 16, 17, 18, 19, 20, 21, 22, 23, 24, 25] [] (fun _ => False) (fun _ => True) (fun _ => 0) (fun jq9 V L H wx => match jq9 with | 0 => V 0 = .pointer (some ⟨w.heap.size + 2, 6, none⟩) | 1 => V 1 = .slice (some ⟨rb, ro, none⟩) 2 c6 | 2 => V 2 = .int .i64 2 | 3 => V 3 = .bool false | 4 => V 4 = .bool false | 5 => V 5 = .agg #[.slice a0 g.fSymbols.length c0_0, .slice a1 g.fRules.length c0_1] | 6 => V 6 = .agg #[.string x.fName, .string x.fLeft, .slice b2 x.fRight.length c1_0, .bool x.fLiteral, .slice b4 x.fEquations.length c1_1, .slice b5 x.fContributions.length c1_2] | 7 => V 7 = .pointer (some ⟨w.heap.size + 2, 6, none⟩) | 8 => V 8 = .slice (some ⟨rb, ro, none⟩) 2 c6 | 9 => V 9 = .pointer (some ⟨rb, ro, none⟩) | 10 => V 10 = .agg #[.int .i64 y0.fKind, .int .i64 y0.fN, .int .i64 y0.fPos, .int .i64 y0.fType, .string y0.fSymbol, .string y0.fName, .slice a0_ y0.fArgs.length c0_] | 11 => V 11 = .int .i64 z0 | 12 => V 12 = .int .i64 l1 | 13 => V 13 = .bool false | 14 => V 14 = .bool false | 15 => V 15 = .bool false | 16 => V 16 = .agg #[.slice a0 g.fSymbols.length c0_0, .slice a1 g.fRules.length c0_1] | 17 => V 17 = .agg #[.string x.fName, .string x.fLeft, .slice b2 x.fRight.length c1_0, .bool x.fLiteral, .slice b4 x.fEquations.length c1_1, .slice b5 x.fContributions.length c1_2] | 18 => V 18 = .pointer (some ⟨w.heap.size + 2, 6, none⟩) | 19 => V 19 = .slice (some ⟨rb, ro, none⟩) 2 c6 | 20 => V 20 = .pointer (some ⟨rb, ro + 7, none⟩) | 21 => V 21 = .agg #[.int .i64 y1.fKind, .int .i64 y1.fN, .int .i64 y1.fPos, .int .i64 y1.fType, .string y1.fSymbol, .string y1.fName, .slice a1_ y1.fArgs.length c1_] | 22 => V 22 = .int .i64 z1 | 23 => V 23 = .int .i64 l2 | 24 => V 24 = .bool false | 25 => V 25 = .bool false | _ => True) (by kernel_rfl) (by kernel_rfl) ?obs (fun _ h => h.elim) trivial (fun _ _ _ _ _ => trivial) ?loc ?lasts ?walk
        case obs =>
          trivial
        case loc =>
          intro k V V' L H wx h0 h1 hG
          match k with
          | 0 =>
            try dsimp only at hG ⊢
            rw [← h0]
            exact hG
          | 1 =>
            try dsimp only at hG ⊢
            rw [← h0]
            exact hG
          | 2 =>
            try dsimp only at hG ⊢
            rw [← h0]
            exact hG
          | 3 =>
            try dsimp only at hG ⊢
            rw [← h0]
            exact hG
          | 4 =>
            try dsimp only at hG ⊢
            rw [← h0]
            exact hG
          | 5 =>
            try dsimp only at hG ⊢
            rw [← h0]
            exact hG
          | 6 =>
            try dsimp only at hG ⊢
            rw [← h0]
            exact hG
          | 7 =>
            try dsimp only at hG ⊢
            rw [← h0]
            exact hG
          | 8 =>
            try dsimp only at hG ⊢
            rw [← h0]
            exact hG
          | 9 =>
            try dsimp only at hG ⊢
            rw [← h0]
            exact hG
          | 10 =>
            try dsimp only at hG ⊢
            rw [← h0]
            exact hG
          | 11 =>
            try dsimp only at hG ⊢
            rw [← h0]
            exact hG
          | 12 =>
            try dsimp only at hG ⊢
            rw [← h0]
            exact hG
          | 13 =>
            try dsimp only at hG ⊢
            rw [← h0]
            exact hG
          | 14 =>
            try dsimp only at hG ⊢
            rw [← h0]
            exact hG
          | 15 =>
            try dsimp only at hG ⊢
            rw [← h0]
            exact hG
          | 16 =>
            try dsimp only at hG ⊢
            rw [← h0]
            exact hG
          | 17 =>
            try dsimp only at hG ⊢
            rw [← h0]
            exact hG
          | 18 =>
            try dsimp only at hG ⊢
            rw [← h0]
            exact hG
          | 19 =>
            try dsimp only at hG ⊢
            rw [← h0]
            exact hG
          | 20 =>
            try dsimp only at hG ⊢
            rw [← h0]
            exact hG
          | 21 =>
            try dsimp only at hG ⊢
            rw [← h0]
            exact hG
          | 22 =>
            try dsimp only at hG ⊢
            rw [← h0]
            exact hG
          | 23 =>
            try dsimp only at hG ⊢
            rw [← h0]
            exact hG
          | 24 =>
            try dsimp only at hG ⊢
            rw [← h0]
            exact hG
          | 25 =>
            try dsimp only at hG ⊢
            rw [← h0]
            exact hG
          | n + 26 => trivial
        case lasts =>
          intro i hi V L H wx wy hB hH hk
          match i, hi with
          | 0, _ => exact fun h => h
          | 1, _ => exact fun h => h
          | 2, _ => exact fun h => h
          | 3, _ => exact fun h => h
          | 4, _ => exact fun h => h
          | 5, _ => exact fun h => h
          | 6, _ => exact fun h => h
          | 7, _ => exact fun h => h
          | 8, _ => exact fun h => h
          | 9, _ => exact fun h => h
          | 10, _ => exact fun h => h
          | 11, _ => exact fun h => h
          | 12, _ => exact fun h => h
          | 13, _ => exact fun h => h
          | 14, _ => exact fun h => h
          | 15, _ => exact fun h => h
          | 16, _ => exact fun h => h
          | 17, _ => exact fun h => h
          | 18, _ => exact fun h => h
          | 19, _ => exact fun h => h
          | 20, _ => exact fun h => h
          | 21, _ => exact fun h => h
          | 22, _ => exact fun h => h
          | 23, _ => exact fun h => h
          | 24, _ => exact fun h => h
          | 25, _ => exact fun h => h
          | n + 26, hn => exact absurd hn (by simp)
        case walk =>
          simp (maxSteps := 4000000) only [freeK, Nat.reduceAdd, Act.put, List.setIfInBounds_toArray, List.set_cons_succ, List.set_cons_zero]
          refine ⟨?_, ?_, ?_, ?_, ?_, ?_, ?_, ?_, ?_, ?_, ?_, ?_, ?_, ?_, ?_, ?_, ?_, ?_, ?_, ?_, ?_, ?_, ?_, ?_, ?_, ?_, ?_⟩
          · intro V L H wq hw hk hj hd
            clear hd
            go_wp2_with fail
            exact freePost _ rfl ⟨⟨WritesF.refl _ _, hj⟩, upd_self⟩
          · intro V L H wq hw hk hj hd
            obtain ⟨⟨hL0, hM0, hH0, hv0⟩, -⟩ := hd
            rw [hv0]
            have HV0 := Lib.hid hv0
            clear hv0
            have y6c := KY6.out wq (fun p hp => hk.cell (p := p) ⟨hp, fun h => h, trivial⟩ hp)
            go_wp2_with fail
            exact freePost _ rfl ⟨⟨WritesF.refl _ _, hj⟩, upd_self⟩
          · intro V L H wq hw hk hj hd
            obtain ⟨⟨hL1, hM1, hH1, hv1⟩, -⟩ := hd
            rw [hv1]
            have HV1 := Lib.hid hv1
            clear hv1
            go_wp2_with fail
            exact freePost _ rfl ⟨⟨WritesF.refl _ _, hj⟩, upd_self⟩
          · intro V L H wq hw hk hj hd
            obtain ⟨⟨hL2, hM2, hH2, hv2⟩, -⟩ := hd
            rw [hv2]
            have HV2 := Lib.hid hv2
            clear hv2
            go_wp2_with fail
            exact freePost _ rfl ⟨⟨WritesF.refl _ _, hj⟩, upd_self⟩
          · intro V L H wq hw hk hj hd
            obtain ⟨⟨hL3, hM3, hH3, hv3⟩, -⟩ := hd
            rw [hv3]
            have HV3 := Lib.hid hv3
            clear hv3
            go_wp2_with fail
            exact freePost _ rfl ⟨⟨WritesF.refl _ _, hj⟩, upd_self⟩
          · intro V L H wq hw hk hj hd
            obtain ⟨⟨hL4, hM4, hH4, hv4⟩, -⟩ := hd
            rw [hv4]
            have HV4 := Lib.hid hv4
            clear hv4
            obtain ⟨g0, g1⟩ := KG.out wq (fun p hp => hk.cell (p := p) ⟨hp, fun h => h, trivial⟩ hp)
            go_wp2_with fail
            exact freePost _ rfl ⟨⟨WritesF.refl _ _, hj⟩, upd_self⟩
          · intro V L H wq hw hk hj hd
            obtain ⟨⟨hL4, hM4, hH4, hv4⟩, -⟩ := hd
            rw [hv4]
            have HV4 := Lib.hid hv4
            clear hv4
            obtain ⟨r0, r1, r2, r3, r4, r5⟩ := KR.out wq (fun p hp => hk.cell (p := p) ⟨hp, fun h => h, trivial⟩ hp)
            go_wp2_with fail
            exact freePost _ rfl ⟨⟨WritesF.refl _ _, hj⟩, upd_self⟩
          · intro V L H wq hw hk hj hd
            obtain ⟨⟨hL4, hM4, hH4, hv4⟩, -⟩ := hd
            rw [hv4]
            have HV4 := Lib.hid hv4
            clear hv4
            go_wp2_with fail
            exact freePost _ rfl ⟨⟨WritesF.refl _ _, hj⟩, upd_self⟩
          · intro V L H wq hw hk hj hd
            obtain ⟨⟨hL4, hM4, hH4, hv4⟩, ⟨hL7, hM7, hH7, hv7⟩, -⟩ := hd
            rw [hv4, hv7]
            have HV4 := Lib.hid hv4
            have HV7 := Lib.hid hv7
            clear hv4 hv7
            have y6c := KY6.out wq (fun p hp => hk.cell (p := p) ⟨hp, fun h => h, trivial⟩ hp)
            go_wp2_with fail
            exact freePost _ rfl ⟨⟨WritesF.refl _ _, hj⟩, upd_self⟩
          · intro V L H wq hw hk hj hd
            obtain ⟨⟨hL4, hM4, hH4, hv4⟩, ⟨hL8, hM8, hH8, hv8⟩, -⟩ := hd
            rw [hv4, hv8]
            have HV4 := Lib.hid hv4
            have HV8 := Lib.hid hv8
            clear hv4 hv8
            go_wp2_with fail
            exact freePost _ rfl ⟨⟨WritesF.refl _ _, hj⟩, upd_self⟩
          · intro V L H wq hw hk hj hd
            obtain ⟨⟨hL4, hM4, hH4, hv4⟩, ⟨hL9, hM9, hH9, hv9⟩, -⟩ := hd
            rw [hv4, hv9]
            have HV4 := Lib.hid hv4
            have HV9 := Lib.hid hv9
            clear hv4 hv9
            obtain ⟨q0, q1, q2, q3, q4, q5, q6⟩ := KA0.out wq (fun p hp => hk.cell (p := p) ⟨hp, fun h => h, trivial⟩ hp)
            go_wp2_with fail
            exact freePost _ rfl ⟨⟨WritesF.refl _ _, hj⟩, upd_self⟩
          · intro V L H wq hw hk hj hd
            obtain ⟨⟨hL4, hM4, hH4, hv4⟩, ⟨hL5, hM5, hH5, hv5⟩, ⟨hL6, hM6, hH6, hv6⟩, ⟨hL10, hM10, hH10, hv10⟩, -⟩ := hd
            rw [hv4, hv5, hv6, hv10]
            have HV4 := Lib.hid hv4
            have HV5 := Lib.hid hv5
            have HV6 := Lib.hid hv6
            have HV10 := Lib.hid hv10
            clear hv4 hv5 hv6 hv10
            go_wp2_with fail
            refine (HM0.out wq (HB.out.trans ((fa_noneK hw).mono HB.out.size))).mono ?_
            rintro e w2 ⟨rfl, hb2⟩
            go_wp2_with fail
            exact freePost _ rfl ⟨⟨(WritesF.refl _ _).later hb2, trivial⟩, upd_self⟩
          · intro V L H wq hw hk hj hd
            obtain ⟨⟨hL4, hM4, hH4, hv4⟩, -⟩ := hd
            rw [hv4]
            have HV4 := Lib.hid hv4
            clear hv4
            go_wp2_with fail
            exact freePost _ rfl ⟨⟨WritesF.refl _ _, hj⟩, upd_self⟩
          · intro V L H wq hw hk hj hd
            obtain ⟨⟨hL4, hM4, hH4, hv4⟩, ⟨hL11, hM11, hH11, hv11⟩, ⟨hL12, hM12, hH12, hv12⟩, -⟩ := hd
            rw [hv4, hv11, hv12]
            have HV4 := Lib.hid hv4
            have HV11 := Lib.hid hv11
            have HV12 := Lib.hid hv12
            clear hv4 hv11 hv12
            go_wp2_with fail
            exact freePost _ rfl ⟨⟨WritesF.refl _ _, hj⟩, upd_self⟩
          · intro V L H wq hw hk hj hd
            obtain ⟨⟨hL4, hM4, hH4, hv4⟩, ⟨hL13, hM13, hH13, hv13⟩, -⟩ := hd
            rw [hv4, hv13]
            have HV4 := Lib.hid hv4
            have HV13 := Lib.hid hv13
            clear hv4 hv13
            go_wp2_with fail
            exact freePost _ rfl ⟨⟨WritesF.refl _ _, hj⟩, upd_self⟩
          · intro V L H wq hw hk hj hd
            obtain ⟨⟨hL14, hM14, hH14, hv14⟩, -⟩ := hd
            rw [hv14]
            have HV14 := Lib.hid hv14
            clear hv14
            go_wp2_with fail
            exact freePost _ rfl ⟨⟨WritesF.refl _ _, hj⟩, upd_self⟩
          · intro V L H wq hw hk hj hd
            obtain ⟨⟨hL15, hM15, hH15, hv15⟩, -⟩ := hd
            rw [hv15]
            have HV15 := Lib.hid hv15
            clear hv15
            obtain ⟨g0, g1⟩ := KG.out wq (fun p hp => hk.cell (p := p) ⟨hp, fun h => h, trivial⟩ hp)
            go_wp2_with fail
            exact freePost _ rfl ⟨⟨WritesF.refl _ _, hj⟩, upd_self⟩
          · intro V L H wq hw hk hj hd
            obtain ⟨⟨hL15, hM15, hH15, hv15⟩, -⟩ := hd
            rw [hv15]
            have HV15 := Lib.hid hv15
            clear hv15
            obtain ⟨r0, r1, r2, r3, r4, r5⟩ := KR.out wq (fun p hp => hk.cell (p := p) ⟨hp, fun h => h, trivial⟩ hp)
            go_wp2_with fail
            exact freePost _ rfl ⟨⟨WritesF.refl _ _, hj⟩, upd_self⟩
          · intro V L H wq hw hk hj hd
            obtain ⟨⟨hL15, hM15, hH15, hv15⟩, -⟩ := hd
            rw [hv15]
            have HV15 := Lib.hid hv15
            clear hv15
            go_wp2_with fail
            exact freePost _ rfl ⟨⟨WritesF.refl _ _, hj⟩, upd_self⟩
          · intro V L H wq hw hk hj hd
            obtain ⟨⟨hL15, hM15, hH15, hv15⟩, ⟨hL18, hM18, hH18, hv18⟩, -⟩ := hd
            rw [hv15, hv18]
            have HV15 := Lib.hid hv15
            have HV18 := Lib.hid hv18
            clear hv15 hv18
            have y6c := KY6.out wq (fun p hp => hk.cell (p := p) ⟨hp, fun h => h, trivial⟩ hp)
            go_wp2_with fail
            exact freePost _ rfl ⟨⟨WritesF.refl _ _, hj⟩, upd_self⟩
          · intro V L H wq hw hk hj hd
            obtain ⟨⟨hL15, hM15, hH15, hv15⟩, ⟨hL19, hM19, hH19, hv19⟩, -⟩ := hd
            rw [hv15, hv19]
            have HV15 := Lib.hid hv15
            have HV19 := Lib.hid hv19
            clear hv15 hv19
            go_wp2_with fail
            exact freePost _ rfl ⟨⟨WritesF.refl _ _, hj⟩, upd_self⟩
          · intro V L H wq hw hk hj hd
            obtain ⟨⟨hL15, hM15, hH15, hv15⟩, ⟨hL20, hM20, hH20, hv20⟩, -⟩ := hd
            rw [hv15, hv20]
            have HV15 := Lib.hid hv15
            have HV20 := Lib.hid hv20
            clear hv15 hv20
            obtain ⟨q0, q1, q2, q3, q4, q5, q6⟩ := KA1.out wq (fun p hp => hk.cell (p := p) ⟨hp, fun h => h, trivial⟩ hp)
            go_wp2_with fail
            exact freePost _ rfl ⟨⟨WritesF.refl _ _, hj⟩, upd_self⟩
          · intro V L H wq hw hk hj hd
            obtain ⟨⟨hL15, hM15, hH15, hv15⟩, ⟨hL16, hM16, hH16, hv16⟩, ⟨hL17, hM17, hH17, hv17⟩, ⟨hL21, hM21, hH21, hv21⟩, -⟩ := hd
            rw [hv15, hv16, hv17, hv21]
            have HV15 := Lib.hid hv15
            have HV16 := Lib.hid hv16
            have HV17 := Lib.hid hv17
            have HV21 := Lib.hid hv21
            clear hv15 hv16 hv17 hv21
            go_wp2_with fail
            refine (HM1.out wq (HB.out.trans ((fa_noneK hw).mono HB.out.size))).mono ?_
            rintro e w2 ⟨rfl, hb2⟩
            go_wp2_with fail
            exact freePost _ rfl ⟨⟨(WritesF.refl _ _).later hb2, trivial⟩, upd_self⟩
          · intro V L H wq hw hk hj hd
            obtain ⟨⟨hL15, hM15, hH15, hv15⟩, -⟩ := hd
            rw [hv15]
            have HV15 := Lib.hid hv15
            clear hv15
            go_wp2_with fail
            exact freePost _ rfl ⟨⟨WritesF.refl _ _, hj⟩, upd_self⟩
          · intro V L H wq hw hk hj hd
            obtain ⟨⟨hL15, hM15, hH15, hv15⟩, ⟨hL22, hM22, hH22, hv22⟩, ⟨hL23, hM23, hH23, hv23⟩, -⟩ := hd
            rw [hv15, hv22, hv23]
            have HV15 := Lib.hid hv15
            have HV22 := Lib.hid hv22
            have HV23 := Lib.hid hv23
            clear hv15 hv22 hv23
            go_wp2_with fail
            exact freePost _ rfl ⟨⟨WritesF.refl _ _, hj⟩, upd_self⟩
          · intro V L H wq hw hk hj hd
            obtain ⟨⟨hL15, hM15, hH15, hv15⟩, ⟨hL24, hM24, hH24, hv24⟩, -⟩ := hd
            rw [hv15, hv24]
            have HV15 := Lib.hid hv15
            have HV24 := Lib.hid hv24
            clear hv15 hv24
            go_wp2_with fail
            exact freePost _ rfl ⟨⟨WritesF.refl _ _, hj⟩, upd_self⟩
          · intro V L H wq hw hj hd hap hdead
            obtain ⟨⟨hL0, hM0, hH0, hv0⟩, ⟨hL1, hM1, hH1, hv1⟩, ⟨hL2, hM2, hH2, hv2⟩, ⟨hL3, hM3, hH3, hv3⟩, ⟨hL4, hM4, hH4, hv4⟩, ⟨hL5, hM5, hH5, hv5⟩, ⟨hL6, hM6, hH6, hv6⟩, ⟨hL7, hM7, hH7, hv7⟩, ⟨hL8, hM8, hH8, hv8⟩, ⟨hL9, hM9, hH9, hv9⟩, ⟨hL10, hM10, hH10, hv10⟩, ⟨hL11, hM11, hH11, hv11⟩, ⟨hL12, hM12, hH12, hv12⟩, ⟨hL13, hM13, hH13, hv13⟩, ⟨hL14, hM14, hH14, hv14⟩, ⟨hL15, hM15, hH15, hv15⟩, ⟨hL16, hM16, hH16, hv16⟩, ⟨hL17, hM17, hH17, hv17⟩, ⟨hL18, hM18, hH18, hv18⟩, ⟨hL19, hM19, hH19, hv19⟩, ⟨hL20, hM20, hH20, hv20⟩, ⟨hL21, hM21, hH21, hv21⟩, ⟨hL22, hM22, hH22, hv22⟩, ⟨hL23, hM23, hH23, hv23⟩, ⟨hL24, hM24, hH24, hv24⟩, ⟨hL25, hM25, hH25, hv25⟩, -⟩ := hd
            rw [hv0, hv1, hv2, hv3, hv4, hv5, hv6, hv7, hv8, hv9, hv10, hv11, hv12, hv13, hv14, hv15, hv16, hv17, hv18, hv19, hv20, hv21, hv22, hv23, hv24, hv25]
            clear hv0 hv1 hv2 hv3 hv4 hv5 hv6 hv7 hv8 hv9 hv10 hv11 hv12 hv13 hv14 hv15 hv16 hv17 hv18 hv19 hv20 hv21 hv22 hv23 hv24 hv25
            have HBN := Lib.hid (HB.out.trans ((fa_noneK hw).mono HB.out.size))
            clear hw hj hap hdead
            go_wp2
            go_ret
            exact ⟨rfl, HBN.out⟩
      · have e1 : (z1 != l2) = true := bne_iff_ne.2 h1
        rw [if_pos (.inr h1)]
        clear h0 h1
        go_enter Try.func24, Try.ntmps24
        go_wp2_with fail
        refine (HP.out _).mono ?_
        rintro e w9 ⟨rfl, rfl⟩
        go_wp2_with fail
        rw [← HWE.out]
        clear HWE
        refine wp_region_freeK [([], .none, []), ([0], .none, []), ([1], .none, []), ([2], .none, []), ([3], .none, []), ([4], .none, []), ([4], .none, []), ([4], .none, []), ([4, 7], .none, []), ([4, 8], .none, []), ([4, 9], .none, []), ([4, 5, 6, 10], .none, []), ([4], .none, []), ([4, 11, 12], .none, []), ([4, 13], .none, []), ([14], .none, []), ([15], .none, []), ([15], .none, []), ([15], .none, []), ([15, 18], .none, []), ([15, 19], .none, []), ([15, 20], .none, []), ([15, 16, 17, 21], .none, []), ([15], .none, []), ([15, 22, 23], .none, []), ([15, 24], .none, [])] [0, 1, 2, 3, 4, 5, 6, 7, 8, 9, 10, 11, 12, 13, 14, 15, 16, 17, 18, 19, 20, 21, 22, 23, 24, 25] [] (fun _ => False) (fun _ => True) (fun _ => 0) (fun jq9 V L H wx => match jq9 with | 0 => V 0 = .pointer (some ⟨w.heap.size + 2, 6, none⟩) | 1 => V 1 = .slice (some ⟨rb, ro, none⟩) 2 c6 | 2 => V 2 = .int .i64 2 | 3 => V 3 = .bool false | 4 => V 4 = .bool false | 5 => V 5 = .agg #[.slice a0 g.fSymbols.length c0_0, .slice a1 g.fRules.length c0_1] | 6 => V 6 = .agg #[.string x.fName, .string x.fLeft, .slice b2 x.fRight.length c1_0, .bool x.fLiteral, .slice b4 x.fEquations.length c1_1, .slice b5 x.fContributions.length c1_2] | 7 => V 7 = .pointer (some ⟨w.heap.size + 2, 6, none⟩) | 8 => V 8 = .slice (some ⟨rb, ro, none⟩) 2 c6 | 9 => V 9 = .pointer (some ⟨rb, ro, none⟩) | 10 => V 10 = .agg #[.int .i64 y0.fKind, .int .i64 y0.fN, .int .i64 y0.fPos, .int .i64 y0.fType, .string y0.fSymbol, .string y0.fName, .slice a0_ y0.fArgs.length c0_] | 11 => V 11 = .int .i64 z0 | 12 => V 12 = .int .i64 l1 | 13 => V 13 = .bool false | 14 => V 14 = .bool false | 15 => V 15 = .bool false | 16 => V 16 = .agg #[.slice a0 g.fSymbols.length c0_0, .slice a1 g.fRules.length c0_1] | 17 => V 17 = .agg #[.string x.fName, .string x.fLeft, .slice b2 x.fRight.length c1_0, .bool x.fLiteral, .slice b4 x.fEquations.length c1_1, .slice b5 x.fContributions.length c1_2] | 18 => V 18 = .pointer (some ⟨w.heap.size + 2, 6, none⟩) | 19 => V 19 = .slice (some ⟨rb, ro, none⟩) 2 c6 | 20 => V 20 = .pointer (some ⟨rb, ro + 7, none⟩) | 21 => V 21 = .agg #[.int .i64 y1.fKind, .int .i64 y1.fN, .int .i64 y1.fPos, .int .i64 y1.fType, .string y1.fSymbol, .string y1.fName, .slice a1_ y1.fArgs.length c1_] | 22 => V 22 = .int .i64 z1 | 23 => V 23 = .int .i64 l2 | 24 => V 24 = .bool true | 25 => V 25 = .bool true | _ => True) (by kernel_rfl) (by kernel_rfl) ?obs (fun _ h => h.elim) trivial (fun _ _ _ _ _ => trivial) ?loc ?lasts ?walk
        case obs =>
          trivial
        case loc =>
          intro k V V' L H wx h0 h1 hG
          match k with
          | 0 =>
            try dsimp only at hG ⊢
            rw [← h0]
            exact hG
          | 1 =>
            try dsimp only at hG ⊢
            rw [← h0]
            exact hG
          | 2 =>
            try dsimp only at hG ⊢
            rw [← h0]
            exact hG
          | 3 =>
            try dsimp only at hG ⊢
            rw [← h0]
            exact hG
          | 4 =>
            try dsimp only at hG ⊢
            rw [← h0]
            exact hG
          | 5 =>
            try dsimp only at hG ⊢
            rw [← h0]
            exact hG
          | 6 =>
            try dsimp only at hG ⊢
            rw [← h0]
            exact hG
          | 7 =>
            try dsimp only at hG ⊢
            rw [← h0]
            exact hG
          | 8 =>
            try dsimp only at hG ⊢
            rw [← h0]
            exact hG
          | 9 =>
            try dsimp only at hG ⊢
            rw [← h0]
            exact hG
          | 10 =>
            try dsimp only at hG ⊢
            rw [← h0]
            exact hG
          | 11 =>
            try dsimp only at hG ⊢
            rw [← h0]
            exact hG
          | 12 =>
            try dsimp only at hG ⊢
            rw [← h0]
            exact hG
          | 13 =>
            try dsimp only at hG ⊢
            rw [← h0]
            exact hG
          | 14 =>
            try dsimp only at hG ⊢
            rw [← h0]
            exact hG
          | 15 =>
            try dsimp only at hG ⊢
            rw [← h0]
            exact hG
          | 16 =>
            try dsimp only at hG ⊢
            rw [← h0]
            exact hG
          | 17 =>
            try dsimp only at hG ⊢
            rw [← h0]
            exact hG
          | 18 =>
            try dsimp only at hG ⊢
            rw [← h0]
            exact hG
          | 19 =>
            try dsimp only at hG ⊢
            rw [← h0]
            exact hG
          | 20 =>
            try dsimp only at hG ⊢
            rw [← h0]
            exact hG
          | 21 =>
            try dsimp only at hG ⊢
            rw [← h0]
            exact hG
          | 22 =>
            try dsimp only at hG ⊢
            rw [← h0]
            exact hG
          | 23 =>
            try dsimp only at hG ⊢
            rw [← h0]
            exact hG
          | 24 =>
            try dsimp only at hG ⊢
            rw [← h0]
            exact hG
          | 25 =>
            try dsimp only at hG ⊢
            rw [← h0]
            exact hG
          | n + 26 => trivial
        case lasts =>
          intro i hi V L H wx wy hB hH hk
          match i, hi with
          | 0, _ => exact fun h => h
          | 1, _ => exact fun h => h
          | 2, _ => exact fun h => h
          | 3, _ => exact fun h => h
          | 4, _ => exact fun h => h
          | 5, _ => exact fun h => h
          | 6, _ => exact fun h => h
          | 7, _ => exact fun h => h
          | 8, _ => exact fun h => h
          | 9, _ => exact fun h => h
          | 10, _ => exact fun h => h
          | 11, _ => exact fun h => h
          | 12, _ => exact fun h => h
          | 13, _ => exact fun h => h
          | 14, _ => exact fun h => h
          | 15, _ => exact fun h => h
          | 16, _ => exact fun h => h
          | 17, _ => exact fun h => h
          | 18, _ => exact fun h => h
          | 19, _ => exact fun h => h
          | 20, _ => exact fun h => h
          | 21, _ => exact fun h => h
          | 22, _ => exact fun h => h
          | 23, _ => exact fun h => h
          | 24, _ => exact fun h => h
          | 25, _ => exact fun h => h
          | n + 26, hn => exact absurd hn (by simp)
        case walk =>
          simp (maxSteps := 4000000) only [freeK, Nat.reduceAdd, Act.put, List.setIfInBounds_toArray, List.set_cons_succ, List.set_cons_zero]
          refine ⟨?_, ?_, ?_, ?_, ?_, ?_, ?_, ?_, ?_, ?_, ?_, ?_, ?_, ?_, ?_, ?_, ?_, ?_, ?_, ?_, ?_, ?_, ?_, ?_, ?_, ?_, ?_⟩
          · intro V L H wq hw hk hj hd
            clear hd
            go_wp2_with fail
            exact freePost _ rfl ⟨⟨WritesF.refl _ _, hj⟩, upd_self⟩
          · intro V L H wq hw hk hj hd
            obtain ⟨⟨hL0, hM0, hH0, hv0⟩, -⟩ := hd
            rw [hv0]
            have HV0 := Lib.hid hv0
            clear hv0
            have y6c := KY6.out wq (fun p hp => hk.cell (p := p) ⟨hp, fun h => h, trivial⟩ hp)
            go_wp2_with fail
            exact freePost _ rfl ⟨⟨WritesF.refl _ _, hj⟩, upd_self⟩
          · intro V L H wq hw hk hj hd
            obtain ⟨⟨hL1, hM1, hH1, hv1⟩, -⟩ := hd
            rw [hv1]
            have HV1 := Lib.hid hv1
            clear hv1
            go_wp2_with fail
            exact freePost _ rfl ⟨⟨WritesF.refl _ _, hj⟩, upd_self⟩
          · intro V L H wq hw hk hj hd
            obtain ⟨⟨hL2, hM2, hH2, hv2⟩, -⟩ := hd
            rw [hv2]
            have HV2 := Lib.hid hv2
            clear hv2
            go_wp2_with fail
            exact freePost _ rfl ⟨⟨WritesF.refl _ _, hj⟩, upd_self⟩
          · intro V L H wq hw hk hj hd
            obtain ⟨⟨hL3, hM3, hH3, hv3⟩, -⟩ := hd
            rw [hv3]
            have HV3 := Lib.hid hv3
            clear hv3
            go_wp2_with fail
            exact freePost _ rfl ⟨⟨WritesF.refl _ _, hj⟩, upd_self⟩
          · intro V L H wq hw hk hj hd
            obtain ⟨⟨hL4, hM4, hH4, hv4⟩, -⟩ := hd
            rw [hv4]
            have HV4 := Lib.hid hv4
            clear hv4
            obtain ⟨g0, g1⟩ := KG.out wq (fun p hp => hk.cell (p := p) ⟨hp, fun h => h, trivial⟩ hp)
            go_wp2_with fail
            exact freePost _ rfl ⟨⟨WritesF.refl _ _, hj⟩, upd_self⟩
          · intro V L H wq hw hk hj hd
            obtain ⟨⟨hL4, hM4, hH4, hv4⟩, -⟩ := hd
            rw [hv4]
            have HV4 := Lib.hid hv4
            clear hv4
            obtain ⟨r0, r1, r2, r3, r4, r5⟩ := KR.out wq (fun p hp => hk.cell (p := p) ⟨hp, fun h => h, trivial⟩ hp)
            go_wp2_with fail
            exact freePost _ rfl ⟨⟨WritesF.refl _ _, hj⟩, upd_self⟩
          · intro V L H wq hw hk hj hd
            obtain ⟨⟨hL4, hM4, hH4, hv4⟩, -⟩ := hd
            rw [hv4]
            have HV4 := Lib.hid hv4
            clear hv4
            go_wp2_with fail
            exact freePost _ rfl ⟨⟨WritesF.refl _ _, hj⟩, upd_self⟩
          · intro V L H wq hw hk hj hd
            obtain ⟨⟨hL4, hM4, hH4, hv4⟩, ⟨hL7, hM7, hH7, hv7⟩, -⟩ := hd
            rw [hv4, hv7]
            have HV4 := Lib.hid hv4
            have HV7 := Lib.hid hv7
            clear hv4 hv7
            have y6c := KY6.out wq (fun p hp => hk.cell (p := p) ⟨hp, fun h => h, trivial⟩ hp)
            go_wp2_with fail
            exact freePost _ rfl ⟨⟨WritesF.refl _ _, hj⟩, upd_self⟩
          · intro V L H wq hw hk hj hd
            obtain ⟨⟨hL4, hM4, hH4, hv4⟩, ⟨hL8, hM8, hH8, hv8⟩, -⟩ := hd
            rw [hv4, hv8]
            have HV4 := Lib.hid hv4
            have HV8 := Lib.hid hv8
            clear hv4 hv8
            go_wp2_with fail
            exact freePost _ rfl ⟨⟨WritesF.refl _ _, hj⟩, upd_self⟩
          · intro V L H wq hw hk hj hd
            obtain ⟨⟨hL4, hM4, hH4, hv4⟩, ⟨hL9, hM9, hH9, hv9⟩, -⟩ := hd
            rw [hv4, hv9]
            have HV4 := Lib.hid hv4
            have HV9 := Lib.hid hv9
            clear hv4 hv9
            obtain ⟨q0, q1, q2, q3, q4, q5, q6⟩ := KA0.out wq (fun p hp => hk.cell (p := p) ⟨hp, fun h => h, trivial⟩ hp)
            go_wp2_with fail
            exact freePost _ rfl ⟨⟨WritesF.refl _ _, hj⟩, upd_self⟩
          · intro V L H wq hw hk hj hd
            obtain ⟨⟨hL4, hM4, hH4, hv4⟩, ⟨hL5, hM5, hH5, hv5⟩, ⟨hL6, hM6, hH6, hv6⟩, ⟨hL10, hM10, hH10, hv10⟩, -⟩ := hd
            rw [hv4, hv5, hv6, hv10]
            have HV4 := Lib.hid hv4
            have HV5 := Lib.hid hv5
            have HV6 := Lib.hid hv6
            have HV10 := Lib.hid hv10
            clear hv4 hv5 hv6 hv10
            go_wp2_with fail
            refine (HM0.out wq (HB.out.trans ((fa_noneK hw).mono HB.out.size))).mono ?_
            rintro e w2 ⟨rfl, hb2⟩
            go_wp2_with fail
            exact freePost _ rfl ⟨⟨(WritesF.refl _ _).later hb2, trivial⟩, upd_self⟩
          · intro V L H wq hw hk hj hd
            obtain ⟨⟨hL4, hM4, hH4, hv4⟩, -⟩ := hd
            rw [hv4]
            have HV4 := Lib.hid hv4
            clear hv4
            go_wp2_with fail
            exact freePost _ rfl ⟨⟨WritesF.refl _ _, hj⟩, upd_self⟩
          · intro V L H wq hw hk hj hd
            obtain ⟨⟨hL4, hM4, hH4, hv4⟩, ⟨hL11, hM11, hH11, hv11⟩, ⟨hL12, hM12, hH12, hv12⟩, -⟩ := hd
            rw [hv4, hv11, hv12]
            have HV4 := Lib.hid hv4
            have HV11 := Lib.hid hv11
            have HV12 := Lib.hid hv12
            clear hv4 hv11 hv12
            go_wp2_with fail
            exact freePost _ rfl ⟨⟨WritesF.refl _ _, hj⟩, upd_self⟩
          · intro V L H wq hw hk hj hd
            obtain ⟨⟨hL4, hM4, hH4, hv4⟩, ⟨hL13, hM13, hH13, hv13⟩, -⟩ := hd
            rw [hv4, hv13]
            have HV4 := Lib.hid hv4
            have HV13 := Lib.hid hv13
            clear hv4 hv13
            go_wp2_with fail
            exact freePost _ rfl ⟨⟨WritesF.refl _ _, hj⟩, upd_self⟩
          · intro V L H wq hw hk hj hd
            obtain ⟨⟨hL14, hM14, hH14, hv14⟩, -⟩ := hd
            rw [hv14]
            have HV14 := Lib.hid hv14
            clear hv14
            go_wp2_with fail
            exact freePost _ rfl ⟨⟨WritesF.refl _ _, hj⟩, upd_self⟩
          · intro V L H wq hw hk hj hd
            obtain ⟨⟨hL15, hM15, hH15, hv15⟩, -⟩ := hd
            rw [hv15]
            have HV15 := Lib.hid hv15
            clear hv15
            obtain ⟨g0, g1⟩ := KG.out wq (fun p hp => hk.cell (p := p) ⟨hp, fun h => h, trivial⟩ hp)
            go_wp2_with fail
            exact freePost _ rfl ⟨⟨WritesF.refl _ _, hj⟩, upd_self⟩
          · intro V L H wq hw hk hj hd
            obtain ⟨⟨hL15, hM15, hH15, hv15⟩, -⟩ := hd
            rw [hv15]
            have HV15 := Lib.hid hv15
            clear hv15
            obtain ⟨r0, r1, r2, r3, r4, r5⟩ := KR.out wq (fun p hp => hk.cell (p := p) ⟨hp, fun h => h, trivial⟩ hp)
            go_wp2_with fail
            exact freePost _ rfl ⟨⟨WritesF.refl _ _, hj⟩, upd_self⟩
          · intro V L H wq hw hk hj hd
            obtain ⟨⟨hL15, hM15, hH15, hv15⟩, -⟩ := hd
            rw [hv15]
            have HV15 := Lib.hid hv15
            clear hv15
            go_wp2_with fail
            exact freePost _ rfl ⟨⟨WritesF.refl _ _, hj⟩, upd_self⟩
          · intro V L H wq hw hk hj hd
            obtain ⟨⟨hL15, hM15, hH15, hv15⟩, ⟨hL18, hM18, hH18, hv18⟩, -⟩ := hd
            rw [hv15, hv18]
            have HV15 := Lib.hid hv15
            have HV18 := Lib.hid hv18
            clear hv15 hv18
            have y6c := KY6.out wq (fun p hp => hk.cell (p := p) ⟨hp, fun h => h, trivial⟩ hp)
            go_wp2_with fail
            exact freePost _ rfl ⟨⟨WritesF.refl _ _, hj⟩, upd_self⟩
          · intro V L H wq hw hk hj hd
            obtain ⟨⟨hL15, hM15, hH15, hv15⟩, ⟨hL19, hM19, hH19, hv19⟩, -⟩ := hd
            rw [hv15, hv19]
            have HV15 := Lib.hid hv15
            have HV19 := Lib.hid hv19
            clear hv15 hv19
            go_wp2_with fail
            exact freePost _ rfl ⟨⟨WritesF.refl _ _, hj⟩, upd_self⟩
          · intro V L H wq hw hk hj hd
            obtain ⟨⟨hL15, hM15, hH15, hv15⟩, ⟨hL20, hM20, hH20, hv20⟩, -⟩ := hd
            rw [hv15, hv20]
            have HV15 := Lib.hid hv15
            have HV20 := Lib.hid hv20
            clear hv15 hv20
            obtain ⟨q0, q1, q2, q3, q4, q5, q6⟩ := KA1.out wq (fun p hp => hk.cell (p := p) ⟨hp, fun h => h, trivial⟩ hp)
            go_wp2_with fail
            exact freePost _ rfl ⟨⟨WritesF.refl _ _, hj⟩, upd_self⟩
          · intro V L H wq hw hk hj hd
            obtain ⟨⟨hL15, hM15, hH15, hv15⟩, ⟨hL16, hM16, hH16, hv16⟩, ⟨hL17, hM17, hH17, hv17⟩, ⟨hL21, hM21, hH21, hv21⟩, -⟩ := hd
            rw [hv15, hv16, hv17, hv21]
            have HV15 := Lib.hid hv15
            have HV16 := Lib.hid hv16
            have HV17 := Lib.hid hv17
            have HV21 := Lib.hid hv21
            clear hv15 hv16 hv17 hv21
            go_wp2_with fail
            refine (HM1.out wq (HB.out.trans ((fa_noneK hw).mono HB.out.size))).mono ?_
            rintro e w2 ⟨rfl, hb2⟩
            go_wp2_with fail
            exact freePost _ rfl ⟨⟨(WritesF.refl _ _).later hb2, trivial⟩, upd_self⟩
          · intro V L H wq hw hk hj hd
            obtain ⟨⟨hL15, hM15, hH15, hv15⟩, -⟩ := hd
            rw [hv15]
            have HV15 := Lib.hid hv15
            clear hv15
            go_wp2_with fail
            exact freePost _ rfl ⟨⟨WritesF.refl _ _, hj⟩, upd_self⟩
          · intro V L H wq hw hk hj hd
            obtain ⟨⟨hL15, hM15, hH15, hv15⟩, ⟨hL22, hM22, hH22, hv22⟩, ⟨hL23, hM23, hH23, hv23⟩, -⟩ := hd
            rw [hv15, hv22, hv23]
            have HV15 := Lib.hid hv15
            have HV22 := Lib.hid hv22
            have HV23 := Lib.hid hv23
            clear hv15 hv22 hv23
            go_wp2_with fail
            exact freePost _ rfl ⟨⟨WritesF.refl _ _, hj⟩, upd_self⟩
          · intro V L H wq hw hk hj hd
            obtain ⟨⟨hL15, hM15, hH15, hv15⟩, ⟨hL24, hM24, hH24, hv24⟩, -⟩ := hd
            rw [hv15, hv24]
            have HV15 := Lib.hid hv15
            have HV24 := Lib.hid hv24
            clear hv15 hv24
            go_wp2_with fail
            exact freePost _ rfl ⟨⟨WritesF.refl _ _, hj⟩, upd_self⟩
          · intro V L H wq hw hj hd hap hdead
            obtain ⟨⟨hL0, hM0, hH0, hv0⟩, ⟨hL1, hM1, hH1, hv1⟩, ⟨hL2, hM2, hH2, hv2⟩, ⟨hL3, hM3, hH3, hv3⟩, ⟨hL4, hM4, hH4, hv4⟩, ⟨hL5, hM5, hH5, hv5⟩, ⟨hL6, hM6, hH6, hv6⟩, ⟨hL7, hM7, hH7, hv7⟩, ⟨hL8, hM8, hH8, hv8⟩, ⟨hL9, hM9, hH9, hv9⟩, ⟨hL10, hM10, hH10, hv10⟩, ⟨hL11, hM11, hH11, hv11⟩, ⟨hL12, hM12, hH12, hv12⟩, ⟨hL13, hM13, hH13, hv13⟩, ⟨hL14, hM14, hH14, hv14⟩, ⟨hL15, hM15, hH15, hv15⟩, ⟨hL16, hM16, hH16, hv16⟩, ⟨hL17, hM17, hH17, hv17⟩, ⟨hL18, hM18, hH18, hv18⟩, ⟨hL19, hM19, hH19, hv19⟩, ⟨hL20, hM20, hH20, hv20⟩, ⟨hL21, hM21, hH21, hv21⟩, ⟨hL22, hM22, hH22, hv22⟩, ⟨hL23, hM23, hH23, hv23⟩, ⟨hL24, hM24, hH24, hv24⟩, ⟨hL25, hM25, hH25, hv25⟩, -⟩ := hd
            rw [hv0, hv1, hv2, hv3, hv4, hv5, hv6, hv7, hv8, hv9, hv10, hv11, hv12, hv13, hv14, hv15, hv16, hv17, hv18, hv19, hv20, hv21, hv22, hv23, hv24, hv25]
            clear hv0 hv1 hv2 hv3 hv4 hv5 hv6 hv7 hv8 hv9 hv10 hv11 hv12 hv13 hv14 hv15 hv16 hv17 hv18 hv19 hv20 hv21 hv22 hv23 hv24 hv25
            have HBN := Lib.hid (HB.out.trans ((fa_noneK hw).mono HB.out.size))
            clear hw hj hap hdead
            go_wp2
            go_ret
            exact ⟨rfl, HBN.out⟩
    · have e0 : (z0 != l1) = true := bne_iff_ne.2 h0
      rw [if_pos (.inl h0)]
      clear h0 HM1 KA1
      go_enter Try.func24, Try.ntmps24
      go_wp2_with fail
      refine (HP.out _).mono ?_
      rintro e w9 ⟨rfl, rfl⟩
      go_wp2_with fail
      rw [← HWE.out]
      clear HWE
      refine wp_region_freeK [([], .none, []), ([0], .none, []), ([1], .none, []), ([2], .none, []), ([3], .none, []), ([4], .none, []), ([4], .none, []), ([4], .none, []), ([4, 7], .none, []), ([4, 8], .none, []), ([4, 9], .none, []), ([4, 5, 6, 10], .none, []), ([4], .none, []), ([4, 11, 12], .none, []), ([4, 13], .none, []), ([14], .none, []), ([15], .none, []), ([15], .none, []), ([15], .none, []), ([15], .none, []), ([15], .none, []), ([15], .none, []), ([15], .none, []), ([15], .none, []), ([15], .none, []), ([15], .none, [])] [0, 1, 2, 3, 4, 5, 6, 7, 8, 9, 10, 11, 12, 13, 14, 15, 16, 17, 18, 19, 20, 21, 22, 23, 24, 25] [] (fun _ => False) (fun _ => True) (fun _ => 0) (fun jq9 V L H wx => match jq9 with | 0 => V 0 = .pointer (some ⟨w.heap.size + 2, 6, none⟩) | 1 => V 1 = .slice (some ⟨rb, ro, none⟩) 2 c6 | 2 => V 2 = .int .i64 2 | 3 => V 3 = .bool false | 4 => V 4 = .bool false | 5 => V 5 = .agg #[.slice a0 g.fSymbols.length c0_0, .slice a1 g.fRules.length c0_1] | 6 => V 6 = .agg #[.string x.fName, .string x.fLeft, .slice b2 x.fRight.length c1_0, .bool x.fLiteral, .slice b4 x.fEquations.length c1_1, .slice b5 x.fContributions.length c1_2] | 7 => V 7 = .pointer (some ⟨w.heap.size + 2, 6, none⟩) | 8 => V 8 = .slice (some ⟨rb, ro, none⟩) 2 c6 | 9 => V 9 = .pointer (some ⟨rb, ro, none⟩) | 10 => V 10 = .agg #[.int .i64 y0.fKind, .int .i64 y0.fN, .int .i64 y0.fPos, .int .i64 y0.fType, .string y0.fSymbol, .string y0.fName, .slice a0_ y0.fArgs.length c0_] | 11 => V 11 = .int .i64 z0 | 12 => V 12 = .int .i64 l1 | 13 => V 13 = .bool true | 14 => V 14 = .bool true | 15 => V 15 = .bool true | 16 => V 16 = undef | 17 => V 17 = undef | 18 => V 18 = undef | 19 => V 19 = undef | 20 => V 20 = undef | 21 => V 21 = undef | 22 => V 22 = undef | 23 => V 23 = undef | 24 => V 24 = undef | 25 => V 25 = .bool true | _ => True) (by kernel_rfl) (by kernel_rfl) ?obs (fun _ h => h.elim) trivial (fun _ _ _ _ _ => trivial) ?loc ?lasts ?walk
      case obs =>
        trivial
      case loc =>
        intro k V V' L H wx h0 h1 hG
        match k with
        | 0 =>
          try dsimp only at hG ⊢
          rw [← h0]
          exact hG
        | 1 =>
          try dsimp only at hG ⊢
          rw [← h0]
          exact hG
        | 2 =>
          try dsimp only at hG ⊢
          rw [← h0]
          exact hG
        | 3 =>
          try dsimp only at hG ⊢
          rw [← h0]
          exact hG
        | 4 =>
          try dsimp only at hG ⊢
          rw [← h0]
          exact hG
        | 5 =>
          try dsimp only at hG ⊢
          rw [← h0]
          exact hG
        | 6 =>
          try dsimp only at hG ⊢
          rw [← h0]
          exact hG
        | 7 =>
          try dsimp only at hG ⊢
          rw [← h0]
          exact hG
        | 8 =>
          try dsimp only at hG ⊢
          rw [← h0]
          exact hG
        | 9 =>
          try dsimp only at hG ⊢
          rw [← h0]
          exact hG
        | 10 =>
          try dsimp only at hG ⊢
          rw [← h0]
          exact hG
        | 11 =>
          try dsimp only at hG ⊢
          rw [← h0]
          exact hG
        | 12 =>
          try dsimp only at hG ⊢
          rw [← h0]
          exact hG
        | 13 =>
          try dsimp only at hG ⊢
          rw [← h0]
          exact hG
        | 14 =>
          try dsimp only at hG ⊢
          rw [← h0]
          exact hG
        | 15 =>
          try dsimp only at hG ⊢
          rw [← h0]
          exact hG
        | 16 =>
          try dsimp only at hG ⊢
          rw [← h0]
          exact hG
        | 17 =>
          try dsimp only at hG ⊢
          rw [← h0]
          exact hG
        | 18 =>
          try dsimp only at hG ⊢
          rw [← h0]
          exact hG
        | 19 =>
          try dsimp only at hG ⊢
          rw [← h0]
          exact hG
        | 20 =>
          try dsimp only at hG ⊢
          rw [← h0]
          exact hG
        | 21 =>
          try dsimp only at hG ⊢
          rw [← h0]
          exact hG
        | 22 =>
          try dsimp only at hG ⊢
          rw [← h0]
          exact hG
        | 23 =>
          try dsimp only at hG ⊢
          rw [← h0]
          exact hG
        | 24 =>
          try dsimp only at hG ⊢
          rw [← h0]
          exact hG
        | 25 =>
          try dsimp only at hG ⊢
          rw [← h0]
          exact hG
        | n + 26 => trivial
      case lasts =>
        intro i hi V L H wx wy hB hH hk
        match i, hi with
        | 0, _ => exact fun h => h
        | 1, _ => exact fun h => h
        | 2, _ => exact fun h => h
        | 3, _ => exact fun h => h
        | 4, _ => exact fun h => h
        | 5, _ => exact fun h => h
        | 6, _ => exact fun h => h
        | 7, _ => exact fun h => h
        | 8, _ => exact fun h => h
        | 9, _ => exact fun h => h
        | 10, _ => exact fun h => h
        | 11, _ => exact fun h => h
        | 12, _ => exact fun h => h
        | 13, _ => exact fun h => h
        | 14, _ => exact fun h => h
        | 15, _ => exact fun h => h
        | 16, _ => exact fun h => h
        | 17, _ => exact fun h => h
        | 18, _ => exact fun h => h
        | 19, _ => exact fun h => h
        | 20, _ => exact fun h => h
        | 21, _ => exact fun h => h
        | 22, _ => exact fun h => h
        | 23, _ => exact fun h => h
        | 24, _ => exact fun h => h
        | 25, _ => exact fun h => h
        | n + 26, hn => exact absurd hn (by simp)
      case walk =>
        simp (maxSteps := 4000000) only [freeK, Nat.reduceAdd, Act.put, List.setIfInBounds_toArray, List.set_cons_succ, List.set_cons_zero]
        refine ⟨?_, ?_, ?_, ?_, ?_, ?_, ?_, ?_, ?_, ?_, ?_, ?_, ?_, ?_, ?_, ?_, ?_, ?_, ?_, ?_, ?_, ?_, ?_, ?_, ?_, ?_, ?_⟩
        · intro V L H wq hw hk hj hd
          clear hd
          go_wp2_with fail
          exact freePost _ rfl ⟨⟨WritesF.refl _ _, hj⟩, upd_self⟩
        · intro V L H wq hw hk hj hd
          obtain ⟨⟨hL0, hM0, hH0, hv0⟩, -⟩ := hd
          rw [hv0]
          have HV0 := Lib.hid hv0
          clear hv0
          have y6c := KY6.out wq (fun p hp => hk.cell (p := p) ⟨hp, fun h => h, trivial⟩ hp)
          go_wp2_with fail
          exact freePost _ rfl ⟨⟨WritesF.refl _ _, hj⟩, upd_self⟩
        · intro V L H wq hw hk hj hd
          obtain ⟨⟨hL1, hM1, hH1, hv1⟩, -⟩ := hd
          rw [hv1]
          have HV1 := Lib.hid hv1
          clear hv1
          go_wp2_with fail
          exact freePost _ rfl ⟨⟨WritesF.refl _ _, hj⟩, upd_self⟩
        · intro V L H wq hw hk hj hd
          obtain ⟨⟨hL2, hM2, hH2, hv2⟩, -⟩ := hd
          rw [hv2]
          have HV2 := Lib.hid hv2
          clear hv2
          go_wp2_with fail
          exact freePost _ rfl ⟨⟨WritesF.refl _ _, hj⟩, upd_self⟩
        · intro V L H wq hw hk hj hd
          obtain ⟨⟨hL3, hM3, hH3, hv3⟩, -⟩ := hd
          rw [hv3]
          have HV3 := Lib.hid hv3
          clear hv3
          go_wp2_with fail
          exact freePost _ rfl ⟨⟨WritesF.refl _ _, hj⟩, upd_self⟩
        · intro V L H wq hw hk hj hd
          obtain ⟨⟨hL4, hM4, hH4, hv4⟩, -⟩ := hd
          rw [hv4]
          have HV4 := Lib.hid hv4
          clear hv4
          obtain ⟨g0, g1⟩ := KG.out wq (fun p hp => hk.cell (p := p) ⟨hp, fun h => h, trivial⟩ hp)
          go_wp2_with fail
          exact freePost _ rfl ⟨⟨WritesF.refl _ _, hj⟩, upd_self⟩
        · intro V L H wq hw hk hj hd
          obtain ⟨⟨hL4, hM4, hH4, hv4⟩, -⟩ := hd
          rw [hv4]
          have HV4 := Lib.hid hv4
          clear hv4
          obtain ⟨r0, r1, r2, r3, r4, r5⟩ := KR.out wq (fun p hp => hk.cell (p := p) ⟨hp, fun h => h, trivial⟩ hp)
          go_wp2_with fail
          exact freePost _ rfl ⟨⟨WritesF.refl _ _, hj⟩, upd_self⟩
        · intro V L H wq hw hk hj hd
          obtain ⟨⟨hL4, hM4, hH4, hv4⟩, -⟩ := hd
          rw [hv4]
          have HV4 := Lib.hid hv4
          clear hv4
          go_wp2_with fail
          exact freePost _ rfl ⟨⟨WritesF.refl _ _, hj⟩, upd_self⟩
        · intro V L H wq hw hk hj hd
          obtain ⟨⟨hL4, hM4, hH4, hv4⟩, ⟨hL7, hM7, hH7, hv7⟩, -⟩ := hd
          rw [hv4, hv7]
          have HV4 := Lib.hid hv4
          have HV7 := Lib.hid hv7
          clear hv4 hv7
          have y6c := KY6.out wq (fun p hp => hk.cell (p := p) ⟨hp, fun h => h, trivial⟩ hp)
          go_wp2_with fail
          exact freePost _ rfl ⟨⟨WritesF.refl _ _, hj⟩, upd_self⟩
        · intro V L H wq hw hk hj hd
          obtain ⟨⟨hL4, hM4, hH4, hv4⟩, ⟨hL8, hM8, hH8, hv8⟩, -⟩ := hd
          rw [hv4, hv8]
          have HV4 := Lib.hid hv4
          have HV8 := Lib.hid hv8
          clear hv4 hv8
          go_wp2_with fail
          exact freePost _ rfl ⟨⟨WritesF.refl _ _, hj⟩, upd_self⟩
        · intro V L H wq hw hk hj hd
          obtain ⟨⟨hL4, hM4, hH4, hv4⟩, ⟨hL9, hM9, hH9, hv9⟩, -⟩ := hd
          rw [hv4, hv9]
          have HV4 := Lib.hid hv4
          have HV9 := Lib.hid hv9
          clear hv4 hv9
          obtain ⟨q0, q1, q2, q3, q4, q5, q6⟩ := KA0.out wq (fun p hp => hk.cell (p := p) ⟨hp, fun h => h, trivial⟩ hp)
          go_wp2_with fail
          exact freePost _ rfl ⟨⟨WritesF.refl _ _, hj⟩, upd_self⟩
        · intro V L H wq hw hk hj hd
          obtain ⟨⟨hL4, hM4, hH4, hv4⟩, ⟨hL5, hM5, hH5, hv5⟩, ⟨hL6, hM6, hH6, hv6⟩, ⟨hL10, hM10, hH10, hv10⟩, -⟩ := hd
          rw [hv4, hv5, hv6, hv10]
          have HV4 := Lib.hid hv4
          have HV5 := Lib.hid hv5
          have HV6 := Lib.hid hv6
          have HV10 := Lib.hid hv10
          clear hv4 hv5 hv6 hv10
          go_wp2_with fail
          refine (HM0.out wq (HB.out.trans ((fa_noneK hw).mono HB.out.size))).mono ?_
          rintro e w2 ⟨rfl, hb2⟩
          go_wp2_with fail
          exact freePost _ rfl ⟨⟨(WritesF.refl _ _).later hb2, trivial⟩, upd_self⟩
        · intro V L H wq hw hk hj hd
          obtain ⟨⟨hL4, hM4, hH4, hv4⟩, -⟩ := hd
          rw [hv4]
          have HV4 := Lib.hid hv4
          clear hv4
          go_wp2_with fail
          exact freePost _ rfl ⟨⟨WritesF.refl _ _, hj⟩, upd_self⟩
        · intro V L H wq hw hk hj hd
          obtain ⟨⟨hL4, hM4, hH4, hv4⟩, ⟨hL11, hM11, hH11, hv11⟩, ⟨hL12, hM12, hH12, hv12⟩, -⟩ := hd
          rw [hv4, hv11, hv12]
          have HV4 := Lib.hid hv4
          have HV11 := Lib.hid hv11
          have HV12 := Lib.hid hv12
          clear hv4 hv11 hv12
          go_wp2_with fail
          exact freePost _ rfl ⟨⟨WritesF.refl _ _, hj⟩, upd_self⟩
        · intro V L H wq hw hk hj hd
          obtain ⟨⟨hL4, hM4, hH4, hv4⟩, ⟨hL13, hM13, hH13, hv13⟩, -⟩ := hd
          rw [hv4, hv13]
          have HV4 := Lib.hid hv4
          have HV13 := Lib.hid hv13
          clear hv4 hv13
          go_wp2_with fail
          exact freePost _ rfl ⟨⟨WritesF.refl _ _, hj⟩, upd_self⟩
        · intro V L H wq hw hk hj hd
          obtain ⟨⟨hL14, hM14, hH14, hv14⟩, -⟩ := hd
          rw [hv14]
          have HV14 := Lib.hid hv14
          clear hv14
          go_wp2_with fail
          exact freePost _ rfl ⟨⟨WritesF.refl _ _, hj⟩, upd_self⟩
        · intro V L H wq hw hk hj hd
          obtain ⟨⟨hL15, hM15, hH15, hv15⟩, -⟩ := hd
          rw [hv15]
          have HV15 := Lib.hid hv15
          clear hv15
          go_wp2_with fail
          exact freePost _ rfl ⟨⟨WritesF.refl _ _, hj⟩, upd_self⟩
        · intro V L H wq hw hk hj hd
          obtain ⟨⟨hL15, hM15, hH15, hv15⟩, -⟩ := hd
          rw [hv15]
          have HV15 := Lib.hid hv15
          clear hv15
          go_wp2_with fail
          exact freePost _ rfl ⟨⟨WritesF.refl _ _, hj⟩, upd_self⟩
        · intro V L H wq hw hk hj hd
          obtain ⟨⟨hL15, hM15, hH15, hv15⟩, -⟩ := hd
          rw [hv15]
          have HV15 := Lib.hid hv15
          clear hv15
          go_wp2_with fail
          exact freePost _ rfl ⟨⟨WritesF.refl _ _, hj⟩, upd_self⟩
        · intro V L H wq hw hk hj hd
          obtain ⟨⟨hL15, hM15, hH15, hv15⟩, -⟩ := hd
          rw [hv15]
          have HV15 := Lib.hid hv15
          clear hv15
          go_wp2_with fail
          exact freePost _ rfl ⟨⟨WritesF.refl _ _, hj⟩, upd_self⟩
        · intro V L H wq hw hk hj hd
          obtain ⟨⟨hL15, hM15, hH15, hv15⟩, -⟩ := hd
          rw [hv15]
          have HV15 := Lib.hid hv15
          clear hv15
          go_wp2_with fail
          exact freePost _ rfl ⟨⟨WritesF.refl _ _, hj⟩, upd_self⟩
        · intro V L H wq hw hk hj hd
          obtain ⟨⟨hL15, hM15, hH15, hv15⟩, -⟩ := hd
          rw [hv15]
          have HV15 := Lib.hid hv15
          clear hv15
          go_wp2_with fail
          exact freePost _ rfl ⟨⟨WritesF.refl _ _, hj⟩, upd_self⟩
        · intro V L H wq hw hk hj hd
          obtain ⟨⟨hL15, hM15, hH15, hv15⟩, -⟩ := hd
          rw [hv15]
          have HV15 := Lib.hid hv15
          clear hv15
          go_wp2_with fail
          exact freePost _ rfl ⟨⟨WritesF.refl _ _, hj⟩, upd_self⟩
        · intro V L H wq hw hk hj hd
          obtain ⟨⟨hL15, hM15, hH15, hv15⟩, -⟩ := hd
          rw [hv15]
          have HV15 := Lib.hid hv15
          clear hv15
          go_wp2_with fail
          exact freePost _ rfl ⟨⟨WritesF.refl _ _, hj⟩, upd_self⟩
        · intro V L H wq hw hk hj hd
          obtain ⟨⟨hL15, hM15, hH15, hv15⟩, -⟩ := hd
          rw [hv15]
          have HV15 := Lib.hid hv15
          clear hv15
          go_wp2_with fail
          exact freePost _ rfl ⟨⟨WritesF.refl _ _, hj⟩, upd_self⟩
        · intro V L H wq hw hk hj hd
          obtain ⟨⟨hL15, hM15, hH15, hv15⟩, -⟩ := hd
          rw [hv15]
          have HV15 := Lib.hid hv15
          clear hv15
          go_wp2_with fail
          exact freePost _ rfl ⟨⟨WritesF.refl _ _, hj⟩, upd_self⟩
        · intro V L H wq hw hj hd hap hdead
          obtain ⟨⟨hL0, hM0, hH0, hv0⟩, ⟨hL1, hM1, hH1, hv1⟩, ⟨hL2, hM2, hH2, hv2⟩, ⟨hL3, hM3, hH3, hv3⟩, ⟨hL4, hM4, hH4, hv4⟩, ⟨hL5, hM5, hH5, hv5⟩, ⟨hL6, hM6, hH6, hv6⟩, ⟨hL7, hM7, hH7, hv7⟩, ⟨hL8, hM8, hH8, hv8⟩, ⟨hL9, hM9, hH9, hv9⟩, ⟨hL10, hM10, hH10, hv10⟩, ⟨hL11, hM11, hH11, hv11⟩, ⟨hL12, hM12, hH12, hv12⟩, ⟨hL13, hM13, hH13, hv13⟩, ⟨hL14, hM14, hH14, hv14⟩, ⟨hL15, hM15, hH15, hv15⟩, ⟨hL16, hM16, hH16, hv16⟩, ⟨hL17, hM17, hH17, hv17⟩, ⟨hL18, hM18, hH18, hv18⟩, ⟨hL19, hM19, hH19, hv19⟩, ⟨hL20, hM20, hH20, hv20⟩, ⟨hL21, hM21, hH21, hv21⟩, ⟨hL22, hM22, hH22, hv22⟩, ⟨hL23, hM23, hH23, hv23⟩, ⟨hL24, hM24, hH24, hv24⟩, ⟨hL25, hM25, hH25, hv25⟩, -⟩ := hd
          rw [hv0, hv1, hv2, hv3, hv4, hv5, hv6, hv7, hv8, hv9, hv10, hv11, hv12, hv13, hv14, hv15, hv16, hv17, hv18, hv19, hv20, hv21, hv22, hv23, hv24, hv25]
          clear hv0 hv1 hv2 hv3 hv4 hv5 hv6 hv7 hv8 hv9 hv10 hv11 hv12 hv13 hv14 hv15 hv16 hv17 hv18 hv19 hv20 hv21 hv22 hv23 hv24 hv25
          have HBN := Lib.hid (HB.out.trans ((fa_noneK hw).mono HB.out.size))
          clear hw hj hap hdead
          go_wp2
          go_ret
          exact ⟨rfl, HBN.out⟩
  · rw [opT_no (by rw [List.length_map]; exact hn)]
    have qn : ((y.fArgs.length : Int) != 2) = true := bne_iff_ne.2 (by omega)
    clear ih oky hszy hhi hs0 hs2 hs4 hs5 hs6 hn
    have HB := Lib.hid ((((Below.refl w.heap.size w).alloc (Nat.le_refl _) (.cells #[.slice a0 g.fSymbols.length c0_0, .slice a1 g.fRules.length c0_1] 41)).alloc (by simp) (.cells #[.string x.fName, .string x.fLeft, .slice b2 x.fRight.length c1_0, .bool x.fLiteral, .slice b4 x.fEquations.length c1_1, .slice b5 x.fContributions.length c1_2] 46)).alloc (by simp <;> omega) (.cells #[.int .i64 y.fKind, .int .i64 y.fN, .int .i64 y.fPos, .int .i64 y.fType, .string y.fSymbol, .string y.fName, .slice a6 y.fArgs.length c6] 50))
    have HG0 := Lib.hid (show (((w.alloc (.cells #[.slice a0 g.fSymbols.length c0_0, .slice a1 g.fRules.length c0_1] 41)).alloc (.cells #[.string x.fName, .string x.fLeft, .slice b2 x.fRight.length c1_0, .bool x.fLiteral, .slice b4 x.fEquations.length c1_1, .slice b5 x.fContributions.length c1_2] 46)).alloc (.cells #[.int .i64 y.fKind, .int .i64 y.fN, .int .i64 y.fPos, .int .i64 y.fType, .string y.fSymbol, .string y.fName, .slice a6 y.fArgs.length c6] 50)).heap[w.heap.size]? = some (.cells #[.slice a0 g.fSymbols.length c0_0, .slice a1 g.fRules.length c0_1] 41) from blk_alloc (by simp <;> omega) (blk_alloc (by simp) (blk_new rfl)))
    have HR0 := Lib.hid (show (((w.alloc (.cells #[.slice a0 g.fSymbols.length c0_0, .slice a1 g.fRules.length c0_1] 41)).alloc (.cells #[.string x.fName, .string x.fLeft, .slice b2 x.fRight.length c1_0, .bool x.fLiteral, .slice b4 x.fEquations.length c1_1, .slice b5 x.fContributions.length c1_2] 46)).alloc (.cells #[.int .i64 y.fKind, .int .i64 y.fN, .int .i64 y.fPos, .int .i64 y.fType, .string y.fSymbol, .string y.fName, .slice a6 y.fArgs.length c6] 50)).heap[w.heap.size + 1]? = some (.cells #[.string x.fName, .string x.fLeft, .slice b2 x.fRight.length c1_0, .bool x.fLiteral, .slice b4 x.fEquations.length c1_1, .slice b5 x.fContributions.length c1_2] 46) from blk_alloc (by simp) (blk_new (by simp)))
    have HY0 := Lib.hid (show (((w.alloc (.cells #[.slice a0 g.fSymbols.length c0_0, .slice a1 g.fRules.length c0_1] 41)).alloc (.cells #[.string x.fName, .string x.fLeft, .slice b2 x.fRight.length c1_0, .bool x.fLiteral, .slice b4 x.fEquations.length c1_1, .slice b5 x.fContributions.length c1_2] 46)).alloc (.cells #[.int .i64 y.fKind, .int .i64 y.fN, .int .i64 y.fPos, .int .i64 y.fType, .string y.fSymbol, .string y.fName, .slice a6 y.fArgs.length c6] 50)).heap[w.heap.size + 2]? = some (.cells #[.int .i64 y.fKind, .int .i64 y.fN, .int .i64 y.fPos, .int .i64 y.fType, .string y.fSymbol, .string y.fName, .slice a6 y.fArgs.length c6] 50) from blk_new (by simp))
    have HSZ := Lib.hid (show (((w.alloc (.cells #[.slice a0 g.fSymbols.length c0_0, .slice a1 g.fRules.length c0_1] 41)).alloc (.cells #[.string x.fName, .string x.fLeft, .slice b2 x.fRight.length c1_0, .bool x.fLiteral, .slice b4 x.fEquations.length c1_1, .slice b5 x.fContributions.length c1_2] 46)).alloc (.cells #[.int .i64 y.fKind, .int .i64 y.fN, .int .i64 y.fPos, .int .i64 y.fType, .string y.fSymbol, .string y.fName, .slice a6 y.fArgs.length c6] 50)).heap.size = w.heap.size + 3 by simp)
    clear HG0 HR0 HY0 HSZ
    generalize y.fArgs.length = n at *
    go_enter Try.func24, Try.ntmps24
    go_wp2_with fail
    refine (HP.out _).mono ?_
    rintro e w9 ⟨rfl, rfl⟩
    go_wp2_with fail
    go_quiet (fail)
    go_wp2
    go_ret
    exact ⟨rfl, below_drewN HB.out _⟩

set_option maxHeartbeats 32000000 in
set_option maxRecDepth 100000 in
theorem spec_l12If {lo hi c0_0 c0_1 c1_0 c1_1 c1_2 c6 : Nat} {a0 a1 b2 b4 b5 a6 : Option Addr} (g : DGrammar) (x : DRule) (y : DExpr) (ih : ∀ a ∈ y.fArgs, SpecTy g x a) (oky : y.ok) (hszy : y.sz ≤ 1048576) (w : World) (hhi : hi ≤ w.heap.size) (hs0 : Sl lo hi w 2 g.fSymbols.length (fun k => DSymbol.ct (g.fSymbols.getD k default)) a0) (hs2 : Sl lo hi w 1 x.fRight.length (fun k => ictS (x.fRight.getD k default)) b2) (hs4 : Sl lo hi w 9 x.fEquations.length (fun k => DEquation.ct (x.fEquations.getD k default)) b4) (hs5 : Sl lo hi w 16 x.fContributions.length (fun k => DContribution.ct (x.fContributions.getD k default)) b5) (hs6 : Sl lo hi w 7 y.fArgs.length (ctE y.fArgs) a6) :
    Calls Try.prog 25 #[.agg #[.slice a0 g.fSymbols.length c0_0, .slice a1 g.fRules.length c0_1], .agg #[.string x.fName, .string x.fLeft, .slice b2 x.fRight.length c1_0, .bool x.fLiteral, .slice b4 x.fEquations.length c1_1, .slice b5 x.fContributions.length c1_2], .agg #[.int .i64 y.fKind, .int .i64 y.fN, .int .i64 y.fPos, .int .i64 y.fType, .string y.fSymbol, .string y.fName, .slice a6 y.fArgs.length c6]] w fun e w' => e = .returned (.int .i64 (ifT (y.fArgs.map (typeX g x)))) ∧ Below w.heap.size w w' := by
  by_cases hn : y.fArgs.length = 3
  · rw [ifT_map hn]
    have HHI := Lib.hid hhi
    have hszx := hszy
    rw [DExpr.sz_eq] at hszx
    have HL := Lib.hid (fun (W : World) (hW : Below w.heap.size w W) => (show Sl lo hi W 2 g.fSymbols.length (fun k => DSymbol.ct (g.fSymbols.getD k default)) a0 ∧ Sl lo hi W 1 x.fRight.length (fun k => ictS (x.fRight.getD k default)) b2 ∧ Sl lo hi W 9 x.fEquations.length (fun k => DEquation.ct (x.fEquations.getD k default)) b4 ∧ Sl lo hi W 16 x.fContributions.length (fun k => DContribution.ct (x.fContributions.getD k default)) b5 from ⟨hs0.later hW hhi, hs2.later hW hhi, hs4.later hW hhi, hs5.later hW hhi⟩))
    have hok := ((DExpr.ok_iff y).1 oky).2.2.2.2.2.2.2
    have HNL := Lib.hid hn
    have IH := Lib.hid ih
    clear ih hs0 hs2 hs4 hs5 oky hszy
    obtain ⟨rb, ro, rfl, _, hrb, _⟩ := hs6.at 0 (by omega)
    have HAT := Lib.hid (show ∀ k, k < y.fArgs.length → _ from fun k hk => by
      obtain ⟨b', o', e', _, _, hc⟩ := hs6.at k hk
      simp only [Option.some.injEq, Addr.mk.injEq, and_true] at e'
      obtain ⟨rfl, rfl⟩ := e'
      exact hc)
    have HRB := Lib.hid (show rb < w.heap.size from Nat.lt_of_lt_of_le hrb hhi)
    have hk0 : 0 < y.fArgs.length := by omega
    have ha0 := HAT.out 0 hk0
    rw [ctE_at hk0] at ha0
    obtain ⟨a0_, c0_, A00, A01, A02, A03, A04, A05, A06, S0_⟩ := DExpr.open ha0
    have Z0 := szle_at (f := DExpr.sz) y.fArgs 0 hk0
    have HM0 := Lib.hid (fun (W : World) (hW : Below w.heap.size w W) => IH.out _ (getD_memT y.fArgs 0 hk0) (lo := lo) (hi := hi) (c0_0 := c0_0) (c0_1 := c0_1) (c1_0 := c1_0) (c1_1 := c1_1) (c1_2 := c1_2) (c6 := c0_) (a0 := a0) (a1 := a1) (hok _ (getD_memT y.fArgs 0 hk0)) (by omega) W (Nat.le_trans HHI.out hW.size) (HL.out W hW).1 (HL.out W hW).2.1 (HL.out W hW).2.2.1 (HL.out W hW).2.2.2 (S0_.later hW HHI.out))
    have hk1 : 1 < y.fArgs.length := by omega
    have ha1 := HAT.out 1 hk1
    rw [ctE_at hk1] at ha1
    obtain ⟨a1_, c1_, A10, A11, A12, A13, A14, A15, A16, S1_⟩ := DExpr.open ha1
    have Z1 := szle_at (f := DExpr.sz) y.fArgs 1 hk1
    have HM1 := Lib.hid (fun (W : World) (hW : Below w.heap.size w W) => IH.out _ (getD_memT y.fArgs 1 hk1) (lo := lo) (hi := hi) (c0_0 := c0_0) (c0_1 := c0_1) (c1_0 := c1_0) (c1_1 := c1_1) (c1_2 := c1_2) (c6 := c1_) (a0 := a0) (a1 := a1) (hok _ (getD_memT y.fArgs 1 hk1)) (by omega) W (Nat.le_trans HHI.out hW.size) (HL.out W hW).1 (HL.out W hW).2.1 (HL.out W hW).2.2.1 (HL.out W hW).2.2.2 (S1_.later hW HHI.out))
    have hk2 : 2 < y.fArgs.length := by omega
    have ha2 := HAT.out 2 hk2
    rw [ctE_at hk2] at ha2
    obtain ⟨a2_, c2_, A20, A21, A22, A23, A24, A25, A26, S2_⟩ := DExpr.open ha2
    have Z2 := szle_at (f := DExpr.sz) y.fArgs 2 hk2
    have HM2 := Lib.hid (fun (W : World) (hW : Below w.heap.size w W) => IH.out _ (getD_memT y.fArgs 2 hk2) (lo := lo) (hi := hi) (c0_0 := c0_0) (c0_1 := c0_1) (c1_0 := c1_0) (c1_1 := c1_1) (c1_2 := c1_2) (c6 := c2_) (a0 := a0) (a1 := a1) (hok _ (getD_memT y.fArgs 2 hk2)) (by omega) W (Nat.le_trans HHI.out hW.size) (HL.out W hW).1 (HL.out W hW).2.1 (HL.out W hW).2.2.1 (HL.out W hW).2.2.2 (S2_.later hW HHI.out))
    clear hs6 HAT IH hok HL
    have C00 := Lib.hid (show w.cell? ⟨rb, ro, none⟩ = some (.int .i64 (y.fArgs.getD 0 default).fKind) from A00)
    have C01 := Lib.hid (show w.cell? ⟨rb, ro + 1, none⟩ = some (.int .i64 (y.fArgs.getD 0 default).fN) from A01)
    have C02 := Lib.hid (show w.cell? ⟨rb, ro + 2, none⟩ = some (.int .i64 (y.fArgs.getD 0 default).fPos) from A02)
    have C03 := Lib.hid (show w.cell? ⟨rb, ro + 3, none⟩ = some (.int .i64 (y.fArgs.getD 0 default).fType) from A03)
    have C04 := Lib.hid (show w.cell? ⟨rb, ro + 4, none⟩ = some (.string (y.fArgs.getD 0 default).fSymbol) from A04)
    have C05 := Lib.hid (show w.cell? ⟨rb, ro + 5, none⟩ = some (.string (y.fArgs.getD 0 default).fName) from A05)
    have C06 := Lib.hid (show w.cell? ⟨rb, ro + 6, none⟩ = some (.slice a0_ (y.fArgs.getD 0 default).fArgs.length c0_) from A06)
    clear ha0 A00 A01 A02 A03 A04 A05 A06 S0_ Z0 hk0
    generalize y.fArgs.getD 0 default = y0 at *
    generalize typeX g x y0 = z0 at *
    have C10 := Lib.hid (show w.cell? ⟨rb, ro + 7, none⟩ = some (.int .i64 (y.fArgs.getD 1 default).fKind) from A10)
    have C11 := Lib.hid (show w.cell? ⟨rb, ro + 8, none⟩ = some (.int .i64 (y.fArgs.getD 1 default).fN) from A11)
    have C12 := Lib.hid (show w.cell? ⟨rb, ro + 9, none⟩ = some (.int .i64 (y.fArgs.getD 1 default).fPos) from A12)
    have C13 := Lib.hid (show w.cell? ⟨rb, ro + 10, none⟩ = some (.int .i64 (y.fArgs.getD 1 default).fType) from A13)
    have C14 := Lib.hid (show w.cell? ⟨rb, ro + 11, none⟩ = some (.string (y.fArgs.getD 1 default).fSymbol) from A14)
    have C15 := Lib.hid (show w.cell? ⟨rb, ro + 12, none⟩ = some (.string (y.fArgs.getD 1 default).fName) from A15)
    have C16 := Lib.hid (show w.cell? ⟨rb, ro + 13, none⟩ = some (.slice a1_ (y.fArgs.getD 1 default).fArgs.length c1_) from A16)
    clear ha1 A10 A11 A12 A13 A14 A15 A16 S1_ Z1 hk1
    generalize y.fArgs.getD 1 default = y1 at *
    generalize typeX g x y1 = z1 at *
    have C20 := Lib.hid (show w.cell? ⟨rb, ro + 14, none⟩ = some (.int .i64 (y.fArgs.getD 2 default).fKind) from A20)
    have C21 := Lib.hid (show w.cell? ⟨rb, ro + 15, none⟩ = some (.int .i64 (y.fArgs.getD 2 default).fN) from A21)
    have C22 := Lib.hid (show w.cell? ⟨rb, ro + 16, none⟩ = some (.int .i64 (y.fArgs.getD 2 default).fPos) from A22)
    have C23 := Lib.hid (show w.cell? ⟨rb, ro + 17, none⟩ = some (.int .i64 (y.fArgs.getD 2 default).fType) from A23)
    have C24 := Lib.hid (show w.cell? ⟨rb, ro + 18, none⟩ = some (.string (y.fArgs.getD 2 default).fSymbol) from A24)
    have C25 := Lib.hid (show w.cell? ⟨rb, ro + 19, none⟩ = some (.string (y.fArgs.getD 2 default).fName) from A25)
    have C26 := Lib.hid (show w.cell? ⟨rb, ro + 20, none⟩ = some (.slice a2_ (y.fArgs.getD 2 default).fArgs.length c2_) from A26)
    clear ha2 A20 A21 A22 A23 A24 A25 A26 S2_ Z2 hk2
    generalize y.fArgs.getD 2 default = y2 at *
    generalize typeX g x y2 = z2 at *
    rw [hn]
    clear hszx hrb hn HNL
    have HB := Lib.hid ((((Below.refl w.heap.size w).alloc (Nat.le_refl _) (.cells #[.slice a0 g.fSymbols.length c0_0, .slice a1 g.fRules.length c0_1] 41)).alloc (by simp) (.cells #[.string x.fName, .string x.fLeft, .slice b2 x.fRight.length c1_0, .bool x.fLiteral, .slice b4 x.fEquations.length c1_1, .slice b5 x.fContributions.length c1_2] 46)).alloc (by simp <;> omega) (.cells #[.int .i64 y.fKind, .int .i64 y.fN, .int .i64 y.fPos, .int .i64 y.fType, .string y.fSymbol, .string y.fName, .slice (some ⟨rb, ro, none⟩) 3 c6] 50))
    have HG0 := Lib.hid (show (((w.alloc (.cells #[.slice a0 g.fSymbols.length c0_0, .slice a1 g.fRules.length c0_1] 41)).alloc (.cells #[.string x.fName, .string x.fLeft, .slice b2 x.fRight.length c1_0, .bool x.fLiteral, .slice b4 x.fEquations.length c1_1, .slice b5 x.fContributions.length c1_2] 46)).alloc (.cells #[.int .i64 y.fKind, .int .i64 y.fN, .int .i64 y.fPos, .int .i64 y.fType, .string y.fSymbol, .string y.fName, .slice (some ⟨rb, ro, none⟩) 3 c6] 50)).heap[w.heap.size]? = some (.cells #[.slice a0 g.fSymbols.length c0_0, .slice a1 g.fRules.length c0_1] 41) from blk_alloc (by simp <;> omega) (blk_alloc (by simp) (blk_new rfl)))
    have HR0 := Lib.hid (show (((w.alloc (.cells #[.slice a0 g.fSymbols.length c0_0, .slice a1 g.fRules.length c0_1] 41)).alloc (.cells #[.string x.fName, .string x.fLeft, .slice b2 x.fRight.length c1_0, .bool x.fLiteral, .slice b4 x.fEquations.length c1_1, .slice b5 x.fContributions.length c1_2] 46)).alloc (.cells #[.int .i64 y.fKind, .int .i64 y.fN, .int .i64 y.fPos, .int .i64 y.fType, .string y.fSymbol, .string y.fName, .slice (some ⟨rb, ro, none⟩) 3 c6] 50)).heap[w.heap.size + 1]? = some (.cells #[.string x.fName, .string x.fLeft, .slice b2 x.fRight.length c1_0, .bool x.fLiteral, .slice b4 x.fEquations.length c1_1, .slice b5 x.fContributions.length c1_2] 46) from blk_alloc (by simp) (blk_new (by simp)))
    have HY0 := Lib.hid (show (((w.alloc (.cells #[.slice a0 g.fSymbols.length c0_0, .slice a1 g.fRules.length c0_1] 41)).alloc (.cells #[.string x.fName, .string x.fLeft, .slice b2 x.fRight.length c1_0, .bool x.fLiteral, .slice b4 x.fEquations.length c1_1, .slice b5 x.fContributions.length c1_2] 46)).alloc (.cells #[.int .i64 y.fKind, .int .i64 y.fN, .int .i64 y.fPos, .int .i64 y.fType, .string y.fSymbol, .string y.fName, .slice (some ⟨rb, ro, none⟩) 3 c6] 50)).heap[w.heap.size + 2]? = some (.cells #[.int .i64 y.fKind, .int .i64 y.fN, .int .i64 y.fPos, .int .i64 y.fType, .string y.fSymbol, .string y.fName, .slice (some ⟨rb, ro, none⟩) 3 c6] 50) from blk_new (by simp))
    have HSZ := Lib.hid (show (((w.alloc (.cells #[.slice a0 g.fSymbols.length c0_0, .slice a1 g.fRules.length c0_1] 41)).alloc (.cells #[.string x.fName, .string x.fLeft, .slice b2 x.fRight.length c1_0, .bool x.fLiteral, .slice b4 x.fEquations.length c1_1, .slice b5 x.fContributions.length c1_2] 46)).alloc (.cells #[.int .i64 y.fKind, .int .i64 y.fN, .int .i64 y.fPos, .int .i64 y.fType, .string y.fSymbol, .string y.fName, .slice (some ⟨rb, ro, none⟩) 3 c6] 50)).heap.size = w.heap.size + 3 by simp)
    obtain ⟨w0, hw0⟩ : ∃ W : World, W = (((w.alloc (.cells #[.slice a0 g.fSymbols.length c0_0, .slice a1 g.fRules.length c0_1] 41)).alloc (.cells #[.string x.fName, .string x.fLeft, .slice b2 x.fRight.length c1_0, .bool x.fLiteral, .slice b4 x.fEquations.length c1_1, .slice b5 x.fContributions.length c1_2] 46)).alloc (.cells #[.int .i64 y.fKind, .int .i64 y.fN, .int .i64 y.fPos, .int .i64 y.fType, .string y.fSymbol, .string y.fName, .slice (some ⟨rb, ro, none⟩) 3 c6] 50)) := ⟨_, rfl⟩
    rw [← hw0] at HB HG0 HR0 HY0 HSZ
    have HWE := Lib.hid hw0
    clear hw0
    have ltg : w.heap.size < w0.heap.size := by have := HSZ.out; omega
    have ltr : w.heap.size + 1 < w0.heap.size := by have := HSZ.out; omega
    have lty : w.heap.size + 2 < w0.heap.size := by have := HSZ.out; omega
    have lta : rb < w0.heap.size := Nat.lt_of_lt_of_le HRB.out HB.out.size
    have KG := Lib.hid (show ∀ W : World, (∀ p : Addr, p.block < w0.heap.size → W.cell? p = w0.cell? p) → W.cell? ⟨w.heap.size, 0, none⟩ = some (.slice a0 g.fSymbols.length c0_0) ∧ W.cell? ⟨w.heap.size, 1, none⟩ = some (.slice a1 g.fRules.length c0_1) from fun W h => ⟨(h _ ltg).trans (pblk_cell HG0.out rfl), (h _ ltg).trans (pblk_cell HG0.out rfl)⟩)
    have KR := Lib.hid (show ∀ W : World, (∀ p : Addr, p.block < w0.heap.size → W.cell? p = w0.cell? p) → W.cell? ⟨w.heap.size + 1, 0, none⟩ = some (.string x.fName) ∧ W.cell? ⟨w.heap.size + 1, 1, none⟩ = some (.string x.fLeft) ∧ W.cell? ⟨w.heap.size + 1, 2, none⟩ = some (.slice b2 x.fRight.length c1_0) ∧ W.cell? ⟨w.heap.size + 1, 3, none⟩ = some (.bool x.fLiteral) ∧ W.cell? ⟨w.heap.size + 1, 4, none⟩ = some (.slice b4 x.fEquations.length c1_1) ∧ W.cell? ⟨w.heap.size + 1, 5, none⟩ = some (.slice b5 x.fContributions.length c1_2) from fun W h => ⟨(h _ ltr).trans (pblk_cell HR0.out rfl), (h _ ltr).trans (pblk_cell HR0.out rfl), (h _ ltr).trans (pblk_cell HR0.out rfl), (h _ ltr).trans (pblk_cell HR0.out rfl), (h _ ltr).trans (pblk_cell HR0.out rfl), (h _ ltr).trans (pblk_cell HR0.out rfl)⟩)
    have KY6 := Lib.hid (show ∀ W : World, (∀ p : Addr, p.block < w0.heap.size → W.cell? p = w0.cell? p) → W.cell? ⟨w.heap.size + 2, 6, none⟩ = some (.slice (some ⟨rb, ro, none⟩) 3 c6) from fun W h => (h _ lty).trans (pblk_cell HY0.out rfl))
    have KA0 := Lib.hid (show ∀ W : World, (∀ p : Addr, p.block < w0.heap.size → W.cell? p = w0.cell? p) → W.cell? ⟨rb, ro, none⟩ = some (.int .i64 y0.fKind) ∧ W.cell? ⟨rb, ro + 1, none⟩ = some (.int .i64 y0.fN) ∧ W.cell? ⟨rb, ro + 2, none⟩ = some (.int .i64 y0.fPos) ∧ W.cell? ⟨rb, ro + 3, none⟩ = some (.int .i64 y0.fType) ∧ W.cell? ⟨rb, ro + 4, none⟩ = some (.string y0.fSymbol) ∧ W.cell? ⟨rb, ro + 5, none⟩ = some (.string y0.fName) ∧ W.cell? ⟨rb, ro + 6, none⟩ = some (.slice a0_ y0.fArgs.length c0_) from fun W h => ⟨(h _ lta).trans ((HB.out.cell (p := ⟨rb, ro, none⟩) HRB.out).trans C00.out), (h _ lta).trans ((HB.out.cell (p := ⟨rb, ro + 1, none⟩) HRB.out).trans C01.out), (h _ lta).trans ((HB.out.cell (p := ⟨rb, ro + 2, none⟩) HRB.out).trans C02.out), (h _ lta).trans ((HB.out.cell (p := ⟨rb, ro + 3, none⟩) HRB.out).trans C03.out), (h _ lta).trans ((HB.out.cell (p := ⟨rb, ro + 4, none⟩) HRB.out).trans C04.out), (h _ lta).trans ((HB.out.cell (p := ⟨rb, ro + 5, none⟩) HRB.out).trans C05.out), (h _ lta).trans ((HB.out.cell (p := ⟨rb, ro + 6, none⟩) HRB.out).trans C06.out)⟩)
    have KA1 := Lib.hid (show ∀ W : World, (∀ p : Addr, p.block < w0.heap.size → W.cell? p = w0.cell? p) → W.cell? ⟨rb, ro + 7, none⟩ = some (.int .i64 y1.fKind) ∧ W.cell? ⟨rb, ro + 8, none⟩ = some (.int .i64 y1.fN) ∧ W.cell? ⟨rb, ro + 9, none⟩ = some (.int .i64 y1.fPos) ∧ W.cell? ⟨rb, ro + 10, none⟩ = some (.int .i64 y1.fType) ∧ W.cell? ⟨rb, ro + 11, none⟩ = some (.string y1.fSymbol) ∧ W.cell? ⟨rb, ro + 12, none⟩ = some (.string y1.fName) ∧ W.cell? ⟨rb, ro + 13, none⟩ = some (.slice a1_ y1.fArgs.length c1_) from fun W h => ⟨(h _ lta).trans ((HB.out.cell (p := ⟨rb, ro + 7, none⟩) HRB.out).trans C10.out), (h _ lta).trans ((HB.out.cell (p := ⟨rb, ro + 8, none⟩) HRB.out).trans C11.out), (h _ lta).trans ((HB.out.cell (p := ⟨rb, ro + 9, none⟩) HRB.out).trans C12.out), (h _ lta).trans ((HB.out.cell (p := ⟨rb, ro + 10, none⟩) HRB.out).trans C13.out), (h _ lta).trans ((HB.out.cell (p := ⟨rb, ro + 11, none⟩) HRB.out).trans C14.out), (h _ lta).trans ((HB.out.cell (p := ⟨rb, ro + 12, none⟩) HRB.out).trans C15.out), (h _ lta).trans ((HB.out.cell (p := ⟨rb, ro + 13, none⟩) HRB.out).trans C16.out)⟩)
    have KA2 := Lib.hid (show ∀ W : World, (∀ p : Addr, p.block < w0.heap.size → W.cell? p = w0.cell? p) → W.cell? ⟨rb, ro + 14, none⟩ = some (.int .i64 y2.fKind) ∧ W.cell? ⟨rb, ro + 15, none⟩ = some (.int .i64 y2.fN) ∧ W.cell? ⟨rb, ro + 16, none⟩ = some (.int .i64 y2.fPos) ∧ W.cell? ⟨rb, ro + 17, none⟩ = some (.int .i64 y2.fType) ∧ W.cell? ⟨rb, ro + 18, none⟩ = some (.string y2.fSymbol) ∧ W.cell? ⟨rb, ro + 19, none⟩ = some (.string y2.fName) ∧ W.cell? ⟨rb, ro + 20, none⟩ = some (.slice a2_ y2.fArgs.length c2_) from fun W h => ⟨(h _ lta).trans ((HB.out.cell (p := ⟨rb, ro + 14, none⟩) HRB.out).trans C20.out), (h _ lta).trans ((HB.out.cell (p := ⟨rb, ro + 15, none⟩) HRB.out).trans C21.out), (h _ lta).trans ((HB.out.cell (p := ⟨rb, ro + 16, none⟩) HRB.out).trans C22.out), (h _ lta).trans ((HB.out.cell (p := ⟨rb, ro + 17, none⟩) HRB.out).trans C23.out), (h _ lta).trans ((HB.out.cell (p := ⟨rb, ro + 18, none⟩) HRB.out).trans C24.out), (h _ lta).trans ((HB.out.cell (p := ⟨rb, ro + 19, none⟩) HRB.out).trans C25.out), (h _ lta).trans ((HB.out.cell (p := ⟨rb, ro + 20, none⟩) HRB.out).trans C26.out)⟩)
    clear ltg ltr lty lta HG0 HR0 HY0 C00 C01 C02 C03 C04 C05 C06 C10 C11 C12 C13 C14 C15 C16 C20 C21 C22 C23 C24 C25 C26
    by_cases h0 : z0 = 3
    · have e0 : (z0 != 3) = false := by simp [h0]
      by_cases h1 : z1 = z2
      · have e1 : (z1 != z2) = false := by simp [h1]
        rw [if_neg (by simp [h0, h1])]
        clear h0 h1
        go_enter Try.func25, Try.ntmps25
        go_wp2_with fail
        rw [← HWE.out]
        clear HWE
        refine wp_region_freeK [([], .none, []), ([0], .none, []), ([1], .none, []), ([2], .none, []), ([3], .none, []), ([4], .none, []), ([4], .none, []), ([4], .none, []), ([4, 7], .none, []), ([4, 8], .none, []), ([4, 9], .none, []), ([4, 5, 6, 10], .none, []), ([4, 11], .none, []), ([4, 12], .none, [])] [0, 1, 2, 3, 4, 5, 6, 7, 8, 9, 10, 11, 12, 13] [] (fun _ => False) (fun _ => True) (fun _ => 0) (fun jq9 V L H wx => match jq9 with | 0 => V 0 = .pointer (some ⟨w.heap.size + 2, 6, none⟩) | 1 => V 1 = .slice (some ⟨rb, ro, none⟩) 3 c6 | 2 => V 2 = .int .i64 3 | 3 => V 3 = .bool false | 4 => V 4 = .bool false | 5 => V 5 = .agg #[.slice a0 g.fSymbols.length c0_0, .slice a1 g.fRules.length c0_1] | 6 => V 6 = .agg #[.string x.fName, .string x.fLeft, .slice b2 x.fRight.length c1_0, .bool x.fLiteral, .slice b4 x.fEquations.length c1_1, .slice b5 x.fContributions.length c1_2] | 7 => V 7 = .pointer (some ⟨w.heap.size + 2, 6, none⟩) | 8 => V 8 = .slice (some ⟨rb, ro, none⟩) 3 c6 | 9 => V 9 = .pointer (some ⟨rb, ro, none⟩) | 10 => V 10 = .agg #[.int .i64 y0.fKind, .int .i64 y0.fN, .int .i64 y0.fPos, .int .i64 y0.fType, .string y0.fSymbol, .string y0.fName, .slice a0_ y0.fArgs.length c0_] | 11 => V 11 = .int .i64 z0 | 12 => V 12 = .bool false | 13 => V 13 = .bool false | _ => True) (by kernel_rfl) (by kernel_rfl) ?obs (fun _ h => h.elim) trivial (fun _ _ _ _ _ => trivial) ?loc ?lasts ?walk
        case obs =>
          trivial
        case loc =>
          intro k V V' L H wx h0 h1 hG
          match k with
          | 0 =>
            try dsimp only at hG ⊢
            rw [← h0]
            exact hG
          | 1 =>
            try dsimp only at hG ⊢
            rw [← h0]
            exact hG
          | 2 =>
            try dsimp only at hG ⊢
            rw [← h0]
            exact hG
          | 3 =>
            try dsimp only at hG ⊢
            rw [← h0]
            exact hG
          | 4 =>
            try dsimp only at hG ⊢
            rw [← h0]
            exact hG
          | 5 =>
            try dsimp only at hG ⊢
            rw [← h0]
            exact hG
          | 6 =>
            try dsimp only at hG ⊢
            rw [← h0]
            exact hG
          | 7 =>
            try dsimp only at hG ⊢
            rw [← h0]
            exact hG
          | 8 =>
            try dsimp only at hG ⊢
            rw [← h0]
            exact hG
          | 9 =>
            try dsimp only at hG ⊢
            rw [← h0]
            exact hG
          | 10 =>
            try dsimp only at hG ⊢
            rw [← h0]
            exact hG
          | 11 =>
            try dsimp only at hG ⊢
            rw [← h0]
            exact hG
          | 12 =>
            try dsimp only at hG ⊢
            rw [← h0]
            exact hG
          | 13 =>
            try dsimp only at hG ⊢
            rw [← h0]
            exact hG
          | n + 14 => trivial
        case lasts =>
          intro i hi V L H wx wy hB hH hk
          match i, hi with
          | 0, _ => exact fun h => h
          | 1, _ => exact fun h => h
          | 2, _ => exact fun h => h
          | 3, _ => exact fun h => h
          | 4, _ => exact fun h => h
          | 5, _ => exact fun h => h
          | 6, _ => exact fun h => h
          | 7, _ => exact fun h => h
          | 8, _ => exact fun h => h
          | 9, _ => exact fun h => h
          | 10, _ => exact fun h => h
          | 11, _ => exact fun h => h
          | 12, _ => exact fun h => h
          | 13, _ => exact fun h => h
          | n + 14, hn => exact absurd hn (by simp)
        case walk =>
          simp (maxSteps := 4000000) only [freeK, Nat.reduceAdd, Act.put, List.setIfInBounds_toArray, List.set_cons_succ, List.set_cons_zero]
          refine ⟨?_, ?_, ?_, ?_, ?_, ?_, ?_, ?_, ?_, ?_, ?_, ?_, ?_, ?_, ?_⟩
          · intro V L H wq hw hk hj hd
            clear hd
            go_wp2_with fail
            exact freePost _ rfl ⟨⟨WritesF.refl _ _, hj⟩, upd_self⟩
          · intro V L H wq hw hk hj hd
            obtain ⟨⟨hL0, hM0, hH0, hv0⟩, -⟩ := hd
            rw [hv0]
            have HV0 := Lib.hid hv0
            clear hv0
            have y6c := KY6.out wq (fun p hp => hk.cell (p := p) ⟨hp, fun h => h, trivial⟩ hp)
            go_wp2_with fail
            exact freePost _ rfl ⟨⟨WritesF.refl _ _, hj⟩, upd_self⟩
          · intro V L H wq hw hk hj hd
            obtain ⟨⟨hL1, hM1, hH1, hv1⟩, -⟩ := hd
            rw [hv1]
            have HV1 := Lib.hid hv1
            clear hv1
            go_wp2_with fail
            exact freePost _ rfl ⟨⟨WritesF.refl _ _, hj⟩, upd_self⟩
          · intro V L H wq hw hk hj hd
            obtain ⟨⟨hL2, hM2, hH2, hv2⟩, -⟩ := hd
            rw [hv2]
            have HV2 := Lib.hid hv2
            clear hv2
            go_wp2_with fail
            exact freePost _ rfl ⟨⟨WritesF.refl _ _, hj⟩, upd_self⟩
          · intro V L H wq hw hk hj hd
            obtain ⟨⟨hL3, hM3, hH3, hv3⟩, -⟩ := hd
            rw [hv3]
            have HV3 := Lib.hid hv3
            clear hv3
            go_wp2_with fail
            exact freePost _ rfl ⟨⟨WritesF.refl _ _, hj⟩, upd_self⟩
          · intro V L H wq hw hk hj hd
            obtain ⟨⟨hL4, hM4, hH4, hv4⟩, -⟩ := hd
            rw [hv4]
            have HV4 := Lib.hid hv4
            clear hv4
            obtain ⟨g0, g1⟩ := KG.out wq (fun p hp => hk.cell (p := p) ⟨hp, fun h => h, trivial⟩ hp)
            go_wp2_with fail
            exact freePost _ rfl ⟨⟨WritesF.refl _ _, hj⟩, upd_self⟩
          · intro V L H wq hw hk hj hd
            obtain ⟨⟨hL4, hM4, hH4, hv4⟩, -⟩ := hd
            rw [hv4]
            have HV4 := Lib.hid hv4
            clear hv4
            obtain ⟨r0, r1, r2, r3, r4, r5⟩ := KR.out wq (fun p hp => hk.cell (p := p) ⟨hp, fun h => h, trivial⟩ hp)
            go_wp2_with fail
            exact freePost _ rfl ⟨⟨WritesF.refl _ _, hj⟩, upd_self⟩
          · intro V L H wq hw hk hj hd
            obtain ⟨⟨hL4, hM4, hH4, hv4⟩, -⟩ := hd
            rw [hv4]
            have HV4 := Lib.hid hv4
            clear hv4
            go_wp2_with fail
            exact freePost _ rfl ⟨⟨WritesF.refl _ _, hj⟩, upd_self⟩
          · intro V L H wq hw hk hj hd
            obtain ⟨⟨hL4, hM4, hH4, hv4⟩, ⟨hL7, hM7, hH7, hv7⟩, -⟩ := hd
            rw [hv4, hv7]
            have HV4 := Lib.hid hv4
            have HV7 := Lib.hid hv7
            clear hv4 hv7
            have y6c := KY6.out wq (fun p hp => hk.cell (p := p) ⟨hp, fun h => h, trivial⟩ hp)
            go_wp2_with fail
            exact freePost _ rfl ⟨⟨WritesF.refl _ _, hj⟩, upd_self⟩
          · intro V L H wq hw hk hj hd
            obtain ⟨⟨hL4, hM4, hH4, hv4⟩, ⟨hL8, hM8, hH8, hv8⟩, -⟩ := hd
            rw [hv4, hv8]
            have HV4 := Lib.hid hv4
            have HV8 := Lib.hid hv8
            clear hv4 hv8
            go_wp2_with fail
            exact freePost _ rfl ⟨⟨WritesF.refl _ _, hj⟩, upd_self⟩
          · intro V L H wq hw hk hj hd
            obtain ⟨⟨hL4, hM4, hH4, hv4⟩, ⟨hL9, hM9, hH9, hv9⟩, -⟩ := hd
            rw [hv4, hv9]
            have HV4 := Lib.hid hv4
            have HV9 := Lib.hid hv9
            clear hv4 hv9
            obtain ⟨q0, q1, q2, q3, q4, q5, q6⟩ := KA0.out wq (fun p hp => hk.cell (p := p) ⟨hp, fun h => h, trivial⟩ hp)
            go_wp2_with fail
            exact freePost _ rfl ⟨⟨WritesF.refl _ _, hj⟩, upd_self⟩
          · intro V L H wq hw hk hj hd
            obtain ⟨⟨hL4, hM4, hH4, hv4⟩, ⟨hL5, hM5, hH5, hv5⟩, ⟨hL6, hM6, hH6, hv6⟩, ⟨hL10, hM10, hH10, hv10⟩, -⟩ := hd
            rw [hv4, hv5, hv6, hv10]
            have HV4 := Lib.hid hv4
            have HV5 := Lib.hid hv5
            have HV6 := Lib.hid hv6
            have HV10 := Lib.hid hv10
            clear hv4 hv5 hv6 hv10
            go_wp2_with fail
            refine (HM0.out wq (HB.out.trans ((fa_noneK hw).mono HB.out.size))).mono ?_
            rintro e w2 ⟨rfl, hb2⟩
            go_wp2_with fail
            exact freePost _ rfl ⟨⟨(WritesF.refl _ _).later hb2, trivial⟩, upd_self⟩
          · intro V L H wq hw hk hj hd
            obtain ⟨⟨hL4, hM4, hH4, hv4⟩, ⟨hL11, hM11, hH11, hv11⟩, -⟩ := hd
            rw [hv4, hv11]
            have HV4 := Lib.hid hv4
            have HV11 := Lib.hid hv11
            clear hv4 hv11
            go_wp2_with fail
            exact freePost _ rfl ⟨⟨WritesF.refl _ _, hj⟩, upd_self⟩
          · intro V L H wq hw hk hj hd
            obtain ⟨⟨hL4, hM4, hH4, hv4⟩, ⟨hL12, hM12, hH12, hv12⟩, -⟩ := hd
            rw [hv4, hv12]
            have HV4 := Lib.hid hv4
            have HV12 := Lib.hid hv12
            clear hv4 hv12
            go_wp2_with fail
            exact freePost _ rfl ⟨⟨WritesF.refl _ _, hj⟩, upd_self⟩
          · intro V L H wq hw hj hd hap hdead
            obtain ⟨⟨hL0, hM0, hH0, hv0⟩, ⟨hL1, hM1, hH1, hv1⟩, ⟨hL2, hM2, hH2, hv2⟩, ⟨hL3, hM3, hH3, hv3⟩, ⟨hL4, hM4, hH4, hv4⟩, ⟨hL5, hM5, hH5, hv5⟩, ⟨hL6, hM6, hH6, hv6⟩, ⟨hL7, hM7, hH7, hv7⟩, ⟨hL8, hM8, hH8, hv8⟩, ⟨hL9, hM9, hH9, hv9⟩, ⟨hL10, hM10, hH10, hv10⟩, ⟨hL11, hM11, hH11, hv11⟩, ⟨hL12, hM12, hH12, hv12⟩, ⟨hL13, hM13, hH13, hv13⟩, -⟩ := hd
            rw [hv0, hv1, hv2, hv3, hv4, hv5, hv6, hv7, hv8, hv9, hv10, hv11, hv12, hv13]
            clear hv0 hv1 hv2 hv3 hv4 hv5 hv6 hv7 hv8 hv9 hv10 hv11 hv12 hv13
            have HBW1 := Lib.hid (HB.out.trans ((fa_noneK hw).mono HB.out.size))
            have HBZ1 := Lib.hid (fa_noneK hw)
            clear hw hj hap hdead
            go_wp2_with fail
            obtain ⟨v1, hv_⟩ : ∃ v_ : World, v_ = wq := ⟨_, rfl⟩
            rw [← hv_] at HBW1 HBZ1 ⊢
            clear hv_
            refine wp_region_freeK [([], .none, []), ([], .none, []), ([], .none, []), ([2], .none, []), ([3], .none, []), ([4], .none, []), ([0, 1, 5], .none, []), ([6], .none, [])] [0, 1, 2, 3, 4, 5, 6, 7] [] (fun _ => False) (fun _ => True) (fun _ => 0) (fun jq9 V L H wx => match jq9 with | 0 => V 0 = .agg #[.slice a0 g.fSymbols.length c0_0, .slice a1 g.fRules.length c0_1] | 1 => V 1 = .agg #[.string x.fName, .string x.fLeft, .slice b2 x.fRight.length c1_0, .bool x.fLiteral, .slice b4 x.fEquations.length c1_1, .slice b5 x.fContributions.length c1_2] | 2 => V 2 = .pointer (some ⟨w.heap.size + 2, 6, none⟩) | 3 => V 3 = .slice (some ⟨rb, ro, none⟩) 3 c6 | 4 => V 4 = .pointer (some ⟨rb, ro + 7, none⟩) | 5 => V 5 = .agg #[.int .i64 y1.fKind, .int .i64 y1.fN, .int .i64 y1.fPos, .int .i64 y1.fType, .string y1.fSymbol, .string y1.fName, .slice a1_ y1.fArgs.length c1_] | 6 => V 6 = .int .i64 z1 | 7 => V 7 = .int .i64 z1 | _ => True) (by kernel_rfl) (by kernel_rfl) ?obs (fun _ h => h.elim) trivial (fun _ _ _ _ _ => trivial) ?loc ?lasts ?walk
            case obs =>
              trivial
            case loc =>
              intro k V V' L H wx h0 h1 hG
              match k with
              | 0 =>
                try dsimp only at hG ⊢
                rw [← h0]
                exact hG
              | 1 =>
                try dsimp only at hG ⊢
                rw [← h0]
                exact hG
              | 2 =>
                try dsimp only at hG ⊢
                rw [← h0]
                exact hG
              | 3 =>
                try dsimp only at hG ⊢
                rw [← h0]
                exact hG
              | 4 =>
                try dsimp only at hG ⊢
                rw [← h0]
                exact hG
              | 5 =>
                try dsimp only at hG ⊢
                rw [← h0]
                exact hG
              | 6 =>
                try dsimp only at hG ⊢
                rw [← h0]
                exact hG
              | 7 =>
                try dsimp only at hG ⊢
                rw [← h0]
                exact hG
              | n + 8 => trivial
            case lasts =>
              intro i hi V L H wx wy hB hH hk
              match i, hi with
              | 0, _ => exact fun h => h
              | 1, _ => exact fun h => h
              | 2, _ => exact fun h => h
              | 3, _ => exact fun h => h
              | 4, _ => exact fun h => h
              | 5, _ => exact fun h => h
              | 6, _ => exact fun h => h
              | 7, _ => exact fun h => h
              | n + 8, hn => exact absurd hn (by simp)
            case walk =>
              simp (maxSteps := 4000000) only [freeK, Nat.reduceAdd, Act.put, List.setIfInBounds_toArray, List.set_cons_succ, List.set_cons_zero]
              refine ⟨?_, ?_, ?_, ?_, ?_, ?_, ?_, ?_, ?_⟩
              · intro V L H wq hw hk hj hd
                clear hd
                obtain ⟨g0, g1⟩ := KG.out wq (fun p hp => (hk.cell (p := p) ⟨(Nat.lt_of_lt_of_le hp HBZ1.out.size), fun h => h, trivial⟩ (Nat.lt_of_lt_of_le hp HBZ1.out.size)).trans (HBZ1.out.cell hp))
                go_wp2_with fail
                exact freePost _ rfl ⟨⟨WritesF.refl _ _, hj⟩, upd_self⟩
              · intro V L H wq hw hk hj hd
                clear hd
                obtain ⟨r0, r1, r2, r3, r4, r5⟩ := KR.out wq (fun p hp => (hk.cell (p := p) ⟨(Nat.lt_of_lt_of_le hp HBZ1.out.size), fun h => h, trivial⟩ (Nat.lt_of_lt_of_le hp HBZ1.out.size)).trans (HBZ1.out.cell hp))
                go_wp2_with fail
                exact freePost _ rfl ⟨⟨WritesF.refl _ _, hj⟩, upd_self⟩
              · intro V L H wq hw hk hj hd
                clear hd
                go_wp2_with fail
                exact freePost _ rfl ⟨⟨WritesF.refl _ _, hj⟩, upd_self⟩
              · intro V L H wq hw hk hj hd
                obtain ⟨⟨hL2, hM2, hH2, hv2⟩, -⟩ := hd
                rw [hv2]
                have HV2 := Lib.hid hv2
                clear hv2
                have y6c := KY6.out wq (fun p hp => (hk.cell (p := p) ⟨(Nat.lt_of_lt_of_le hp HBZ1.out.size), fun h => h, trivial⟩ (Nat.lt_of_lt_of_le hp HBZ1.out.size)).trans (HBZ1.out.cell hp))
                go_wp2_with fail
                exact freePost _ rfl ⟨⟨WritesF.refl _ _, hj⟩, upd_self⟩
              · intro V L H wq hw hk hj hd
                obtain ⟨⟨hL3, hM3, hH3, hv3⟩, -⟩ := hd
                rw [hv3]
                have HV3 := Lib.hid hv3
                clear hv3
                go_wp2_with fail
                exact freePost _ rfl ⟨⟨WritesF.refl _ _, hj⟩, upd_self⟩
              · intro V L H wq hw hk hj hd
                obtain ⟨⟨hL4, hM4, hH4, hv4⟩, -⟩ := hd
                rw [hv4]
                have HV4 := Lib.hid hv4
                clear hv4
                obtain ⟨q0, q1, q2, q3, q4, q5, q6⟩ := KA1.out wq (fun p hp => (hk.cell (p := p) ⟨(Nat.lt_of_lt_of_le hp HBZ1.out.size), fun h => h, trivial⟩ (Nat.lt_of_lt_of_le hp HBZ1.out.size)).trans (HBZ1.out.cell hp))
                go_wp2_with fail
                exact freePost _ rfl ⟨⟨WritesF.refl _ _, hj⟩, upd_self⟩
              · intro V L H wq hw hk hj hd
                obtain ⟨⟨hL0, hM0, hH0, hv0⟩, ⟨hL1, hM1, hH1, hv1⟩, ⟨hL5, hM5, hH5, hv5⟩, -⟩ := hd
                rw [hv0, hv1, hv5]
                have HV0 := Lib.hid hv0
                have HV1 := Lib.hid hv1
                have HV5 := Lib.hid hv5
                clear hv0 hv1 hv5
                go_wp2_with fail
                refine (HM1.out wq (HBW1.out.trans ((fa_noneK hw).mono HBW1.out.size))).mono ?_
                rintro e w2 ⟨rfl, hb2⟩
                go_wp2_with fail
                exact freePost _ rfl ⟨⟨(WritesF.refl _ _).later hb2, trivial⟩, upd_self⟩
              · intro V L H wq hw hk hj hd
                obtain ⟨⟨hL6, hM6, hH6, hv6⟩, -⟩ := hd
                rw [hv6]
                have HV6 := Lib.hid hv6
                clear hv6
                go_wp2_with fail
                exact freePost _ rfl ⟨⟨WritesF.refl _ _, hj⟩, upd_self⟩
              · intro V L H wq hw hj hd hap hdead
                obtain ⟨⟨hL0, hM0, hH0, hv0⟩, ⟨hL1, hM1, hH1, hv1⟩, ⟨hL2, hM2, hH2, hv2⟩, ⟨hL3, hM3, hH3, hv3⟩, ⟨hL4, hM4, hH4, hv4⟩, ⟨hL5, hM5, hH5, hv5⟩, ⟨hL6, hM6, hH6, hv6⟩, ⟨hL7, hM7, hH7, hv7⟩, -⟩ := hd
                rw [hv0, hv1, hv2, hv3, hv4, hv5, hv6, hv7]
                clear hv0 hv1 hv2 hv3 hv4 hv5 hv6 hv7
                have HBW2 := Lib.hid (HBW1.out.trans ((fa_noneK hw).mono HBW1.out.size))
                have HBZ2 := Lib.hid (HBZ1.out.trans ((fa_noneK hw).mono HBZ1.out.size))
                clear hw hj hap hdead
                go_wp2_with fail
                obtain ⟨v2, hv_⟩ : ∃ v_ : World, v_ = wq := ⟨_, rfl⟩
                rw [← hv_] at HBW2 HBZ2 ⊢
                clear hv_
                refine wp_region_freeK [([], .none, []), ([], .none, []), ([], .none, []), ([], .none, []), ([3], .none, []), ([4], .none, []), ([5], .none, []), ([1, 2, 6], .none, []), ([0, 7], .none, [])] [0, 1, 2, 3, 4, 5, 6, 7, 8] [] (fun _ => False) (fun _ => True) (fun _ => 0) (fun jq9 V L H wx => match jq9 with | 0 => V 0 = .int .i64 z1 | 1 => V 1 = .agg #[.slice a0 g.fSymbols.length c0_0, .slice a1 g.fRules.length c0_1] | 2 => V 2 = .agg #[.string x.fName, .string x.fLeft, .slice b2 x.fRight.length c1_0, .bool x.fLiteral, .slice b4 x.fEquations.length c1_1, .slice b5 x.fContributions.length c1_2] | 3 => V 3 = .pointer (some ⟨w.heap.size + 2, 6, none⟩) | 4 => V 4 = .slice (some ⟨rb, ro, none⟩) 3 c6 | 5 => V 5 = .pointer (some ⟨rb, ro + 14, none⟩) | 6 => V 6 = .agg #[.int .i64 y2.fKind, .int .i64 y2.fN, .int .i64 y2.fPos, .int .i64 y2.fType, .string y2.fSymbol, .string y2.fName, .slice a2_ y2.fArgs.length c2_] | 7 => V 7 = .int .i64 z2 | 8 => V 8 = .bool false | _ => True) (by kernel_rfl) (by kernel_rfl) ?obs (fun _ h => h.elim) trivial (fun _ _ _ _ _ => trivial) ?loc ?lasts ?walk
                case obs =>
                  trivial
                case loc =>
                  intro k V V' L H wx h0 h1 hG
                  match k with
                  | 0 =>
                    try dsimp only at hG ⊢
                    rw [← h0]
                    exact hG
                  | 1 =>
                    try dsimp only at hG ⊢
                    rw [← h0]
                    exact hG
                  | 2 =>
                    try dsimp only at hG ⊢
                    rw [← h0]
                    exact hG
                  | 3 =>
                    try dsimp only at hG ⊢
                    rw [← h0]
                    exact hG
                  | 4 =>
                    try dsimp only at hG ⊢
                    rw [← h0]
                    exact hG
                  | 5 =>
                    try dsimp only at hG ⊢
                    rw [← h0]
                    exact hG
                  | 6 =>
                    try dsimp only at hG ⊢
                    rw [← h0]
                    exact hG
                  | 7 =>
                    try dsimp only at hG ⊢
                    rw [← h0]
                    exact hG
                  | 8 =>
                    try dsimp only at hG ⊢
                    rw [← h0]
                    exact hG
                  | n + 9 => trivial
                case lasts =>
                  intro i hi V L H wx wy hB hH hk
                  match i, hi with
                  | 0, _ => exact fun h => h
                  | 1, _ => exact fun h => h
                  | 2, _ => exact fun h => h
                  | 3, _ => exact fun h => h
                  | 4, _ => exact fun h => h
                  | 5, _ => exact fun h => h
                  | 6, _ => exact fun h => h
                  | 7, _ => exact fun h => h
                  | 8, _ => exact fun h => h
                  | n + 9, hn => exact absurd hn (by simp)
                case walk =>
                  simp (maxSteps := 4000000) only [freeK, Nat.reduceAdd, Act.put, List.setIfInBounds_toArray, List.set_cons_succ, List.set_cons_zero]
                  refine ⟨?_, ?_, ?_, ?_, ?_, ?_, ?_, ?_, ?_, ?_⟩
                  · intro V L H wq hw hk hj hd
                    clear hd
                    go_wp2_with fail
                    exact freePost _ rfl ⟨⟨WritesF.refl _ _, hj⟩, upd_self⟩
                  · intro V L H wq hw hk hj hd
                    clear hd
                    obtain ⟨g0, g1⟩ := KG.out wq (fun p hp => (hk.cell (p := p) ⟨(Nat.lt_of_lt_of_le hp HBZ2.out.size), fun h => h, trivial⟩ (Nat.lt_of_lt_of_le hp HBZ2.out.size)).trans (HBZ2.out.cell hp))
                    go_wp2_with fail
                    exact freePost _ rfl ⟨⟨WritesF.refl _ _, hj⟩, upd_self⟩
                  · intro V L H wq hw hk hj hd
                    clear hd
                    obtain ⟨r0, r1, r2, r3, r4, r5⟩ := KR.out wq (fun p hp => (hk.cell (p := p) ⟨(Nat.lt_of_lt_of_le hp HBZ2.out.size), fun h => h, trivial⟩ (Nat.lt_of_lt_of_le hp HBZ2.out.size)).trans (HBZ2.out.cell hp))
                    go_wp2_with fail
                    exact freePost _ rfl ⟨⟨WritesF.refl _ _, hj⟩, upd_self⟩
                  · intro V L H wq hw hk hj hd
                    clear hd
                    go_wp2_with fail
                    exact freePost _ rfl ⟨⟨WritesF.refl _ _, hj⟩, upd_self⟩
                  · intro V L H wq hw hk hj hd
                    obtain ⟨⟨hL3, hM3, hH3, hv3⟩, -⟩ := hd
                    rw [hv3]
                    have HV3 := Lib.hid hv3
                    clear hv3
                    have y6c := KY6.out wq (fun p hp => (hk.cell (p := p) ⟨(Nat.lt_of_lt_of_le hp HBZ2.out.size), fun h => h, trivial⟩ (Nat.lt_of_lt_of_le hp HBZ2.out.size)).trans (HBZ2.out.cell hp))
                    go_wp2_with fail
                    exact freePost _ rfl ⟨⟨WritesF.refl _ _, hj⟩, upd_self⟩
                  · intro V L H wq hw hk hj hd
                    obtain ⟨⟨hL4, hM4, hH4, hv4⟩, -⟩ := hd
                    rw [hv4]
                    have HV4 := Lib.hid hv4
                    clear hv4
                    go_wp2_with fail
                    exact freePost _ rfl ⟨⟨WritesF.refl _ _, hj⟩, upd_self⟩
                  · intro V L H wq hw hk hj hd
                    obtain ⟨⟨hL5, hM5, hH5, hv5⟩, -⟩ := hd
                    rw [hv5]
                    have HV5 := Lib.hid hv5
                    clear hv5
                    obtain ⟨q0, q1, q2, q3, q4, q5, q6⟩ := KA2.out wq (fun p hp => (hk.cell (p := p) ⟨(Nat.lt_of_lt_of_le hp HBZ2.out.size), fun h => h, trivial⟩ (Nat.lt_of_lt_of_le hp HBZ2.out.size)).trans (HBZ2.out.cell hp))
                    go_wp2_with fail
                    exact freePost _ rfl ⟨⟨WritesF.refl _ _, hj⟩, upd_self⟩
                  · intro V L H wq hw hk hj hd
                    obtain ⟨⟨hL1, hM1, hH1, hv1⟩, ⟨hL2, hM2, hH2, hv2⟩, ⟨hL6, hM6, hH6, hv6⟩, -⟩ := hd
                    rw [hv1, hv2, hv6]
                    have HV1 := Lib.hid hv1
                    have HV2 := Lib.hid hv2
                    have HV6 := Lib.hid hv6
                    clear hv1 hv2 hv6
                    go_wp2_with fail
                    refine (HM2.out wq (HBW2.out.trans ((fa_noneK hw).mono HBW2.out.size))).mono ?_
                    rintro e w2 ⟨rfl, hb2⟩
                    go_wp2_with fail
                    exact freePost _ rfl ⟨⟨(WritesF.refl _ _).later hb2, trivial⟩, upd_self⟩
                  · intro V L H wq hw hk hj hd
                    obtain ⟨⟨hL0, hM0, hH0, hv0⟩, ⟨hL7, hM7, hH7, hv7⟩, -⟩ := hd
                    rw [hv0, hv7]
                    have HV0 := Lib.hid hv0
                    have HV7 := Lib.hid hv7
                    clear hv0 hv7
                    go_wp2_with fail
                    exact freePost _ rfl ⟨⟨WritesF.refl _ _, hj⟩, upd_self⟩
                  · intro V L H wq hw hj hd hap hdead
                    obtain ⟨⟨hL0, hM0, hH0, hv0⟩, ⟨hL1, hM1, hH1, hv1⟩, ⟨hL2, hM2, hH2, hv2⟩, ⟨hL3, hM3, hH3, hv3⟩, ⟨hL4, hM4, hH4, hv4⟩, ⟨hL5, hM5, hH5, hv5⟩, ⟨hL6, hM6, hH6, hv6⟩, ⟨hL7, hM7, hH7, hv7⟩, ⟨hL8, hM8, hH8, hv8⟩, -⟩ := hd
                    rw [hv0, hv1, hv2, hv3, hv4, hv5, hv6, hv7, hv8]
                    clear hv0 hv1 hv2 hv3 hv4 hv5 hv6 hv7 hv8
                    have HBN := Lib.hid (HBW2.out.trans ((fa_noneK hw).mono HBW2.out.size))
                    clear hw hj hap hdead
                    go_wp2
                    go_ret
                    exact ⟨rfl, HBN.out⟩
      · have e1 : (z1 != z2) = true := bne_iff_ne.2 h1
        rw [if_pos (.inr h1)]
        clear h0 h1
        go_enter Try.func25, Try.ntmps25
        go_wp2_with fail
        rw [← HWE.out]
        clear HWE
        refine wp_region_freeK [([], .none, []), ([0], .none, []), ([1], .none, []), ([2], .none, []), ([3], .none, []), ([4], .none, []), ([4], .none, []), ([4], .none, []), ([4, 7], .none, []), ([4, 8], .none, []), ([4, 9], .none, []), ([4, 5, 6, 10], .none, []), ([4, 11], .none, []), ([4, 12], .none, [])] [0, 1, 2, 3, 4, 5, 6, 7, 8, 9, 10, 11, 12, 13] [] (fun _ => False) (fun _ => True) (fun _ => 0) (fun jq9 V L H wx => match jq9 with | 0 => V 0 = .pointer (some ⟨w.heap.size + 2, 6, none⟩) | 1 => V 1 = .slice (some ⟨rb, ro, none⟩) 3 c6 | 2 => V 2 = .int .i64 3 | 3 => V 3 = .bool false | 4 => V 4 = .bool false | 5 => V 5 = .agg #[.slice a0 g.fSymbols.length c0_0, .slice a1 g.fRules.length c0_1] | 6 => V 6 = .agg #[.string x.fName, .string x.fLeft, .slice b2 x.fRight.length c1_0, .bool x.fLiteral, .slice b4 x.fEquations.length c1_1, .slice b5 x.fContributions.length c1_2] | 7 => V 7 = .pointer (some ⟨w.heap.size + 2, 6, none⟩) | 8 => V 8 = .slice (some ⟨rb, ro, none⟩) 3 c6 | 9 => V 9 = .pointer (some ⟨rb, ro, none⟩) | 10 => V 10 = .agg #[.int .i64 y0.fKind, .int .i64 y0.fN, .int .i64 y0.fPos, .int .i64 y0.fType, .string y0.fSymbol, .string y0.fName, .slice a0_ y0.fArgs.length c0_] | 11 => V 11 = .int .i64 z0 | 12 => V 12 = .bool false | 13 => V 13 = .bool false | _ => True) (by kernel_rfl) (by kernel_rfl) ?obs (fun _ h => h.elim) trivial (fun _ _ _ _ _ => trivial) ?loc ?lasts ?walk
        case obs =>
          trivial
        case loc =>
          intro k V V' L H wx h0 h1 hG
          match k with
          | 0 =>
            try dsimp only at hG ⊢
            rw [← h0]
            exact hG
          | 1 =>
            try dsimp only at hG ⊢
            rw [← h0]
            exact hG
          | 2 =>
            try dsimp only at hG ⊢
            rw [← h0]
            exact hG
          | 3 =>
            try dsimp only at hG ⊢
            rw [← h0]
            exact hG
          | 4 =>
            try dsimp only at hG ⊢
            rw [← h0]
            exact hG
          | 5 =>
            try dsimp only at hG ⊢
            rw [← h0]
            exact hG
          | 6 =>
            try dsimp only at hG ⊢
            rw [← h0]
            exact hG
          | 7 =>
            try dsimp only at hG ⊢
            rw [← h0]
            exact hG
          | 8 =>
            try dsimp only at hG ⊢
            rw [← h0]
            exact hG
          | 9 =>
            try dsimp only at hG ⊢
            rw [← h0]
            exact hG
          | 10 =>
            try dsimp only at hG ⊢
            rw [← h0]
            exact hG
          | 11 =>
            try dsimp only at hG ⊢
            rw [← h0]
            exact hG
          | 12 =>
            try dsimp only at hG ⊢
            rw [← h0]
            exact hG
          | 13 =>
            try dsimp only at hG ⊢
            rw [← h0]
            exact hG
          | n + 14 => trivial
        case lasts =>
          intro i hi V L H wx wy hB hH hk
          match i, hi with
          | 0, _ => exact fun h => h
          | 1, _ => exact fun h => h
          | 2, _ => exact fun h => h
          | 3, _ => exact fun h => h
          | 4, _ => exact fun h => h
          | 5, _ => exact fun h => h
          | 6, _ => exact fun h => h
          | 7, _ => exact fun h => h
          | 8, _ => exact fun h => h
          | 9, _ => exact fun h => h
          | 10, _ => exact fun h => h
          | 11, _ => exact fun h => h
          | 12, _ => exact fun h => h
          | 13, _ => exact fun h => h
          | n + 14, hn => exact absurd hn (by simp)
        case walk =>
          simp (maxSteps := 4000000) only [freeK, Nat.reduceAdd, Act.put, List.setIfInBounds_toArray, List.set_cons_succ, List.set_cons_zero]
          refine ⟨?_, ?_, ?_, ?_, ?_, ?_, ?_, ?_, ?_, ?_, ?_, ?_, ?_, ?_, ?_⟩
          · intro V L H wq hw hk hj hd
            clear hd
            go_wp2_with fail
            exact freePost _ rfl ⟨⟨WritesF.refl _ _, hj⟩, upd_self⟩
          · intro V L H wq hw hk hj hd
            obtain ⟨⟨hL0, hM0, hH0, hv0⟩, -⟩ := hd
            rw [hv0]
            have HV0 := Lib.hid hv0
            clear hv0
            have y6c := KY6.out wq (fun p hp => hk.cell (p := p) ⟨hp, fun h => h, trivial⟩ hp)
            go_wp2_with fail
            exact freePost _ rfl ⟨⟨WritesF.refl _ _, hj⟩, upd_self⟩
          · intro V L H wq hw hk hj hd
            obtain ⟨⟨hL1, hM1, hH1, hv1⟩, -⟩ := hd
            rw [hv1]
            have HV1 := Lib.hid hv1
            clear hv1
            go_wp2_with fail
            exact freePost _ rfl ⟨⟨WritesF.refl _ _, hj⟩, upd_self⟩
          · intro V L H wq hw hk hj hd
            obtain ⟨⟨hL2, hM2, hH2, hv2⟩, -⟩ := hd
            rw [hv2]
            have HV2 := Lib.hid hv2
            clear hv2
            go_wp2_with fail
            exact freePost _ rfl ⟨⟨WritesF.refl _ _, hj⟩, upd_self⟩
          · intro V L H wq hw hk hj hd
            obtain ⟨⟨hL3, hM3, hH3, hv3⟩, -⟩ := hd
            rw [hv3]
            have HV3 := Lib.hid hv3
            clear hv3
            go_wp2_with fail
            exact freePost _ rfl ⟨⟨WritesF.refl _ _, hj⟩, upd_self⟩
          · intro V L H wq hw hk hj hd
            obtain ⟨⟨hL4, hM4, hH4, hv4⟩, -⟩ := hd
            rw [hv4]
            have HV4 := Lib.hid hv4
            clear hv4
            obtain ⟨g0, g1⟩ := KG.out wq (fun p hp => hk.cell (p := p) ⟨hp, fun h => h, trivial⟩ hp)
            go_wp2_with fail
            exact freePost _ rfl ⟨⟨WritesF.refl _ _, hj⟩, upd_self⟩
          · intro V L H wq hw hk hj hd
            obtain ⟨⟨hL4, hM4, hH4, hv4⟩, -⟩ := hd
            rw [hv4]
            have HV4 := Lib.hid hv4
            clear hv4
            obtain ⟨r0, r1, r2, r3, r4, r5⟩ := KR.out wq (fun p hp => hk.cell (p := p) ⟨hp, fun h => h, trivial⟩ hp)
            go_wp2_with fail
            exact freePost _ rfl ⟨⟨WritesF.refl _ _, hj⟩, upd_self⟩
          · intro V L H wq hw hk hj hd
            obtain ⟨⟨hL4, hM4, hH4, hv4⟩, -⟩ := hd
            rw [hv4]
            have HV4 := Lib.hid hv4
            clear hv4
            go_wp2_with fail
            exact freePost _ rfl ⟨⟨WritesF.refl _ _, hj⟩, upd_self⟩
          · intro V L H wq hw hk hj hd
            obtain ⟨⟨hL4, hM4, hH4, hv4⟩, ⟨hL7, hM7, hH7, hv7⟩, -⟩ := hd
            rw [hv4, hv7]
            have HV4 := Lib.hid hv4
            have HV7 := Lib.hid hv7
            clear hv4 hv7
            have y6c := KY6.out wq (fun p hp => hk.cell (p := p) ⟨hp, fun h => h, trivial⟩ hp)
            go_wp2_with fail
            exact freePost _ rfl ⟨⟨WritesF.refl _ _, hj⟩, upd_self⟩
          · intro V L H wq hw hk hj hd
            obtain ⟨⟨hL4, hM4, hH4, hv4⟩, ⟨hL8, hM8, hH8, hv8⟩, -⟩ := hd
            rw [hv4, hv8]
            have HV4 := Lib.hid hv4
            have HV8 := Lib.hid hv8
            clear hv4 hv8
            go_wp2_with fail
            exact freePost _ rfl ⟨⟨WritesF.refl _ _, hj⟩, upd_self⟩
          · intro V L H wq hw hk hj hd
            obtain ⟨⟨hL4, hM4, hH4, hv4⟩, ⟨hL9, hM9, hH9, hv9⟩, -⟩ := hd
            rw [hv4, hv9]
            have HV4 := Lib.hid hv4
            have HV9 := Lib.hid hv9
            clear hv4 hv9
            obtain ⟨q0, q1, q2, q3, q4, q5, q6⟩ := KA0.out wq (fun p hp => hk.cell (p := p) ⟨hp, fun h => h, trivial⟩ hp)
            go_wp2_with fail
            exact freePost _ rfl ⟨⟨WritesF.refl _ _, hj⟩, upd_self⟩
          · intro V L H wq hw hk hj hd
            obtain ⟨⟨hL4, hM4, hH4, hv4⟩, ⟨hL5, hM5, hH5, hv5⟩, ⟨hL6, hM6, hH6, hv6⟩, ⟨hL10, hM10, hH10, hv10⟩, -⟩ := hd
            rw [hv4, hv5, hv6, hv10]
            have HV4 := Lib.hid hv4
            have HV5 := Lib.hid hv5
            have HV6 := Lib.hid hv6
            have HV10 := Lib.hid hv10
            clear hv4 hv5 hv6 hv10
            go_wp2_with fail
            refine (HM0.out wq (HB.out.trans ((fa_noneK hw).mono HB.out.size))).mono ?_
            rintro e w2 ⟨rfl, hb2⟩
            go_wp2_with fail
            exact freePost _ rfl ⟨⟨(WritesF.refl _ _).later hb2, trivial⟩, upd_self⟩
          · intro V L H wq hw hk hj hd
            obtain ⟨⟨hL4, hM4, hH4, hv4⟩, ⟨hL11, hM11, hH11, hv11⟩, -⟩ := hd
            rw [hv4, hv11]
            have HV4 := Lib.hid hv4
            have HV11 := Lib.hid hv11
            clear hv4 hv11
            go_wp2_with fail
            exact freePost _ rfl ⟨⟨WritesF.refl _ _, hj⟩, upd_self⟩
          · intro V L H wq hw hk hj hd
            obtain ⟨⟨hL4, hM4, hH4, hv4⟩, ⟨hL12, hM12, hH12, hv12⟩, -⟩ := hd
            rw [hv4, hv12]
            have HV4 := Lib.hid hv4
            have HV12 := Lib.hid hv12
            clear hv4 hv12
            go_wp2_with fail
            exact freePost _ rfl ⟨⟨WritesF.refl _ _, hj⟩, upd_self⟩
          · intro V L H wq hw hj hd hap hdead
            obtain ⟨⟨hL0, hM0, hH0, hv0⟩, ⟨hL1, hM1, hH1, hv1⟩, ⟨hL2, hM2, hH2, hv2⟩, ⟨hL3, hM3, hH3, hv3⟩, ⟨hL4, hM4, hH4, hv4⟩, ⟨hL5, hM5, hH5, hv5⟩, ⟨hL6, hM6, hH6, hv6⟩, ⟨hL7, hM7, hH7, hv7⟩, ⟨hL8, hM8, hH8, hv8⟩, ⟨hL9, hM9, hH9, hv9⟩, ⟨hL10, hM10, hH10, hv10⟩, ⟨hL11, hM11, hH11, hv11⟩, ⟨hL12, hM12, hH12, hv12⟩, ⟨hL13, hM13, hH13, hv13⟩, -⟩ := hd
            rw [hv0, hv1, hv2, hv3, hv4, hv5, hv6, hv7, hv8, hv9, hv10, hv11, hv12, hv13]
            clear hv0 hv1 hv2 hv3 hv4 hv5 hv6 hv7 hv8 hv9 hv10 hv11 hv12 hv13
            have HBW1 := Lib.hid (HB.out.trans ((fa_noneK hw).mono HB.out.size))
            have HBZ1 := Lib.hid (fa_noneK hw)
            clear hw hj hap hdead
            go_wp2_with fail
            obtain ⟨v1, hv_⟩ : ∃ v_ : World, v_ = wq := ⟨_, rfl⟩
            rw [← hv_] at HBW1 HBZ1 ⊢
            clear hv_
            refine wp_region_freeK [([], .none, []), ([], .none, []), ([], .none, []), ([2], .none, []), ([3], .none, []), ([4], .none, []), ([0, 1, 5], .none, []), ([6], .none, [])] [0, 1, 2, 3, 4, 5, 6, 7] [] (fun _ => False) (fun _ => True) (fun _ => 0) (fun jq9 V L H wx => match jq9 with | 0 => V 0 = .agg #[.slice a0 g.fSymbols.length c0_0, .slice a1 g.fRules.length c0_1] | 1 => V 1 = .agg #[.string x.fName, .string x.fLeft, .slice b2 x.fRight.length c1_0, .bool x.fLiteral, .slice b4 x.fEquations.length c1_1, .slice b5 x.fContributions.length c1_2] | 2 => V 2 = .pointer (some ⟨w.heap.size + 2, 6, none⟩) | 3 => V 3 = .slice (some ⟨rb, ro, none⟩) 3 c6 | 4 => V 4 = .pointer (some ⟨rb, ro + 7, none⟩) | 5 => V 5 = .agg #[.int .i64 y1.fKind, .int .i64 y1.fN, .int .i64 y1.fPos, .int .i64 y1.fType, .string y1.fSymbol, .string y1.fName, .slice a1_ y1.fArgs.length c1_] | 6 => V 6 = .int .i64 z1 | 7 => V 7 = .int .i64 z1 | _ => True) (by kernel_rfl) (by kernel_rfl) ?obs (fun _ h => h.elim) trivial (fun _ _ _ _ _ => trivial) ?loc ?lasts ?walk
            case obs =>
              trivial
            case loc =>
              intro k V V' L H wx h0 h1 hG
              match k with
              | 0 =>
                try dsimp only at hG ⊢
                rw [← h0]
                exact hG
              | 1 =>
                try dsimp only at hG ⊢
                rw [← h0]
                exact hG
              | 2 =>
                try dsimp only at hG ⊢
                rw [← h0]
                exact hG
              | 3 =>
                try dsimp only at hG ⊢
                rw [← h0]
                exact hG
              | 4 =>
                try dsimp only at hG ⊢
                rw [← h0]
                exact hG
              | 5 =>
                try dsimp only at hG ⊢
                rw [← h0]
                exact hG
              | 6 =>
                try dsimp only at hG ⊢
                rw [← h0]
                exact hG
              | 7 =>
                try dsimp only at hG ⊢
                rw [← h0]
                exact hG
              | n + 8 => trivial
            case lasts =>
              intro i hi V L H wx wy hB hH hk
              match i, hi with
              | 0, _ => exact fun h => h
              | 1, _ => exact fun h => h
              | 2, _ => exact fun h => h
              | 3, _ => exact fun h => h
              | 4, _ => exact fun h => h
              | 5, _ => exact fun h => h
              | 6, _ => exact fun h => h
              | 7, _ => exact fun h => h
              | n + 8, hn => exact absurd hn (by simp)
            case walk =>
              simp (maxSteps := 4000000) only [freeK, Nat.reduceAdd, Act.put, List.setIfInBounds_toArray, List.set_cons_succ, List.set_cons_zero]
              refine ⟨?_, ?_, ?_, ?_, ?_, ?_, ?_, ?_, ?_⟩
              · intro V L H wq hw hk hj hd
                clear hd
                obtain ⟨g0, g1⟩ := KG.out wq (fun p hp => (hk.cell (p := p) ⟨(Nat.lt_of_lt_of_le hp HBZ1.out.size), fun h => h, trivial⟩ (Nat.lt_of_lt_of_le hp HBZ1.out.size)).trans (HBZ1.out.cell hp))
                go_wp2_with fail
                exact freePost _ rfl ⟨⟨WritesF.refl _ _, hj⟩, upd_self⟩
              · intro V L H wq hw hk hj hd
                clear hd
                obtain ⟨r0, r1, r2, r3, r4, r5⟩ := KR.out wq (fun p hp => (hk.cell (p := p) ⟨(Nat.lt_of_lt_of_le hp HBZ1.out.size), fun h => h, trivial⟩ (Nat.lt_of_lt_of_le hp HBZ1.out.size)).trans (HBZ1.out.cell hp))
                go_wp2_with fail
                exact freePost _ rfl ⟨⟨WritesF.refl _ _, hj⟩, upd_self⟩
              · intro V L H wq hw hk hj hd
                clear hd
                go_wp2_with fail
                exact freePost _ rfl ⟨⟨WritesF.refl _ _, hj⟩, upd_self⟩
              · intro V L H wq hw hk hj hd
                obtain ⟨⟨hL2, hM2, hH2, hv2⟩, -⟩ := hd
                rw [hv2]
                have HV2 := Lib.hid hv2
                clear hv2
                have y6c := KY6.out wq (fun p hp => (hk.cell (p := p) ⟨(Nat.lt_of_lt_of_le hp HBZ1.out.size), fun h => h, trivial⟩ (Nat.lt_of_lt_of_le hp HBZ1.out.size)).trans (HBZ1.out.cell hp))
                go_wp2_with fail
                exact freePost _ rfl ⟨⟨WritesF.refl _ _, hj⟩, upd_self⟩
              · intro V L H wq hw hk hj hd
                obtain ⟨⟨hL3, hM3, hH3, hv3⟩, -⟩ := hd
                rw [hv3]
                have HV3 := Lib.hid hv3
                clear hv3
                go_wp2_with fail
                exact freePost _ rfl ⟨⟨WritesF.refl _ _, hj⟩, upd_self⟩
              · intro V L H wq hw hk hj hd
                obtain ⟨⟨hL4, hM4, hH4, hv4⟩, -⟩ := hd
                rw [hv4]
                have HV4 := Lib.hid hv4
                clear hv4
                obtain ⟨q0, q1, q2, q3, q4, q5, q6⟩ := KA1.out wq (fun p hp => (hk.cell (p := p) ⟨(Nat.lt_of_lt_of_le hp HBZ1.out.size), fun h => h, trivial⟩ (Nat.lt_of_lt_of_le hp HBZ1.out.size)).trans (HBZ1.out.cell hp))
                go_wp2_with fail
                exact freePost _ rfl ⟨⟨WritesF.refl _ _, hj⟩, upd_self⟩
              · intro V L H wq hw hk hj hd
                obtain ⟨⟨hL0, hM0, hH0, hv0⟩, ⟨hL1, hM1, hH1, hv1⟩, ⟨hL5, hM5, hH5, hv5⟩, -⟩ := hd
                rw [hv0, hv1, hv5]
                have HV0 := Lib.hid hv0
                have HV1 := Lib.hid hv1
                have HV5 := Lib.hid hv5
                clear hv0 hv1 hv5
                go_wp2_with fail
                refine (HM1.out wq (HBW1.out.trans ((fa_noneK hw).mono HBW1.out.size))).mono ?_
                rintro e w2 ⟨rfl, hb2⟩
                go_wp2_with fail
                exact freePost _ rfl ⟨⟨(WritesF.refl _ _).later hb2, trivial⟩, upd_self⟩
              · intro V L H wq hw hk hj hd
                obtain ⟨⟨hL6, hM6, hH6, hv6⟩, -⟩ := hd
                rw [hv6]
                have HV6 := Lib.hid hv6
                clear hv6
                go_wp2_with fail
                exact freePost _ rfl ⟨⟨WritesF.refl _ _, hj⟩, upd_self⟩
              · intro V L H wq hw hj hd hap hdead
                obtain ⟨⟨hL0, hM0, hH0, hv0⟩, ⟨hL1, hM1, hH1, hv1⟩, ⟨hL2, hM2, hH2, hv2⟩, ⟨hL3, hM3, hH3, hv3⟩, ⟨hL4, hM4, hH4, hv4⟩, ⟨hL5, hM5, hH5, hv5⟩, ⟨hL6, hM6, hH6, hv6⟩, ⟨hL7, hM7, hH7, hv7⟩, -⟩ := hd
                rw [hv0, hv1, hv2, hv3, hv4, hv5, hv6, hv7]
                clear hv0 hv1 hv2 hv3 hv4 hv5 hv6 hv7
                have HBW2 := Lib.hid (HBW1.out.trans ((fa_noneK hw).mono HBW1.out.size))
                have HBZ2 := Lib.hid (HBZ1.out.trans ((fa_noneK hw).mono HBZ1.out.size))
                clear hw hj hap hdead
                go_wp2_with fail
                obtain ⟨v2, hv_⟩ : ∃ v_ : World, v_ = wq := ⟨_, rfl⟩
                rw [← hv_] at HBW2 HBZ2 ⊢
                clear hv_
                refine wp_region_freeK [([], .none, []), ([], .none, []), ([], .none, []), ([], .none, []), ([3], .none, []), ([4], .none, []), ([5], .none, []), ([1, 2, 6], .none, []), ([0, 7], .none, [])] [0, 1, 2, 3, 4, 5, 6, 7, 8] [] (fun _ => False) (fun _ => True) (fun _ => 0) (fun jq9 V L H wx => match jq9 with | 0 => V 0 = .int .i64 z1 | 1 => V 1 = .agg #[.slice a0 g.fSymbols.length c0_0, .slice a1 g.fRules.length c0_1] | 2 => V 2 = .agg #[.string x.fName, .string x.fLeft, .slice b2 x.fRight.length c1_0, .bool x.fLiteral, .slice b4 x.fEquations.length c1_1, .slice b5 x.fContributions.length c1_2] | 3 => V 3 = .pointer (some ⟨w.heap.size + 2, 6, none⟩) | 4 => V 4 = .slice (some ⟨rb, ro, none⟩) 3 c6 | 5 => V 5 = .pointer (some ⟨rb, ro + 14, none⟩) | 6 => V 6 = .agg #[.int .i64 y2.fKind, .int .i64 y2.fN, .int .i64 y2.fPos, .int .i64 y2.fType, .string y2.fSymbol, .string y2.fName, .slice a2_ y2.fArgs.length c2_] | 7 => V 7 = .int .i64 z2 | 8 => V 8 = .bool true | _ => True) (by kernel_rfl) (by kernel_rfl) ?obs (fun _ h => h.elim) trivial (fun _ _ _ _ _ => trivial) ?loc ?lasts ?walk
                case obs =>
                  trivial
                case loc =>
                  intro k V V' L H wx h0 h1 hG
                  match k with
                  | 0 =>
                    try dsimp only at hG ⊢
                    rw [← h0]
                    exact hG
                  | 1 =>
                    try dsimp only at hG ⊢
                    rw [← h0]
                    exact hG
                  | 2 =>
                    try dsimp only at hG ⊢
                    rw [← h0]
                    exact hG
                  | 3 =>
                    try dsimp only at hG ⊢
                    rw [← h0]
                    exact hG
                  | 4 =>
                    try dsimp only at hG ⊢
                    rw [← h0]
                    exact hG
                  | 5 =>
                    try dsimp only at hG ⊢
                    rw [← h0]
                    exact hG
                  | 6 =>
                    try dsimp only at hG ⊢
                    rw [← h0]
                    exact hG
                  | 7 =>
                    try dsimp only at hG ⊢
                    rw [← h0]
                    exact hG
                  | 8 =>
                    try dsimp only at hG ⊢
                    rw [← h0]
                    exact hG
                  | n + 9 => trivial
                case lasts =>
                  intro i hi V L H wx wy hB hH hk
                  match i, hi with
                  | 0, _ => exact fun h => h
                  | 1, _ => exact fun h => h
                  | 2, _ => exact fun h => h
                  | 3, _ => exact fun h => h
                  | 4, _ => exact fun h => h
                  | 5, _ => exact fun h => h
                  | 6, _ => exact fun h => h
                  | 7, _ => exact fun h => h
                  | 8, _ => exact fun h => h
                  | n + 9, hn => exact absurd hn (by simp)
                case walk =>
                  simp (maxSteps := 4000000) only [freeK, Nat.reduceAdd, Act.put, List.setIfInBounds_toArray, List.set_cons_succ, List.set_cons_zero]
                  refine ⟨?_, ?_, ?_, ?_, ?_, ?_, ?_, ?_, ?_, ?_⟩
                  · intro V L H wq hw hk hj hd
                    clear hd
                    go_wp2_with fail
                    exact freePost _ rfl ⟨⟨WritesF.refl _ _, hj⟩, upd_self⟩
                  · intro V L H wq hw hk hj hd
                    clear hd
                    obtain ⟨g0, g1⟩ := KG.out wq (fun p hp => (hk.cell (p := p) ⟨(Nat.lt_of_lt_of_le hp HBZ2.out.size), fun h => h, trivial⟩ (Nat.lt_of_lt_of_le hp HBZ2.out.size)).trans (HBZ2.out.cell hp))
                    go_wp2_with fail
                    exact freePost _ rfl ⟨⟨WritesF.refl _ _, hj⟩, upd_self⟩
                  · intro V L H wq hw hk hj hd
                    clear hd
                    obtain ⟨r0, r1, r2, r3, r4, r5⟩ := KR.out wq (fun p hp => (hk.cell (p := p) ⟨(Nat.lt_of_lt_of_le hp HBZ2.out.size), fun h => h, trivial⟩ (Nat.lt_of_lt_of_le hp HBZ2.out.size)).trans (HBZ2.out.cell hp))
                    go_wp2_with fail
                    exact freePost _ rfl ⟨⟨WritesF.refl _ _, hj⟩, upd_self⟩
                  · intro V L H wq hw hk hj hd
                    clear hd
                    go_wp2_with fail
                    exact freePost _ rfl ⟨⟨WritesF.refl _ _, hj⟩, upd_self⟩
                  · intro V L H wq hw hk hj hd
                    obtain ⟨⟨hL3, hM3, hH3, hv3⟩, -⟩ := hd
                    rw [hv3]
                    have HV3 := Lib.hid hv3
                    clear hv3
                    have y6c := KY6.out wq (fun p hp => (hk.cell (p := p) ⟨(Nat.lt_of_lt_of_le hp HBZ2.out.size), fun h => h, trivial⟩ (Nat.lt_of_lt_of_le hp HBZ2.out.size)).trans (HBZ2.out.cell hp))
                    go_wp2_with fail
                    exact freePost _ rfl ⟨⟨WritesF.refl _ _, hj⟩, upd_self⟩
                  · intro V L H wq hw hk hj hd
                    obtain ⟨⟨hL4, hM4, hH4, hv4⟩, -⟩ := hd
                    rw [hv4]
                    have HV4 := Lib.hid hv4
                    clear hv4
                    go_wp2_with fail
                    exact freePost _ rfl ⟨⟨WritesF.refl _ _, hj⟩, upd_self⟩
                  · intro V L H wq hw hk hj hd
                    obtain ⟨⟨hL5, hM5, hH5, hv5⟩, -⟩ := hd
                    rw [hv5]
                    have HV5 := Lib.hid hv5
                    clear hv5
                    obtain ⟨q0, q1, q2, q3, q4, q5, q6⟩ := KA2.out wq (fun p hp => (hk.cell (p := p) ⟨(Nat.lt_of_lt_of_le hp HBZ2.out.size), fun h => h, trivial⟩ (Nat.lt_of_lt_of_le hp HBZ2.out.size)).trans (HBZ2.out.cell hp))
                    go_wp2_with fail
                    exact freePost _ rfl ⟨⟨WritesF.refl _ _, hj⟩, upd_self⟩
                  · intro V L H wq hw hk hj hd
                    obtain ⟨⟨hL1, hM1, hH1, hv1⟩, ⟨hL2, hM2, hH2, hv2⟩, ⟨hL6, hM6, hH6, hv6⟩, -⟩ := hd
                    rw [hv1, hv2, hv6]
                    have HV1 := Lib.hid hv1
                    have HV2 := Lib.hid hv2
                    have HV6 := Lib.hid hv6
                    clear hv1 hv2 hv6
                    go_wp2_with fail
                    refine (HM2.out wq (HBW2.out.trans ((fa_noneK hw).mono HBW2.out.size))).mono ?_
                    rintro e w2 ⟨rfl, hb2⟩
                    go_wp2_with fail
                    exact freePost _ rfl ⟨⟨(WritesF.refl _ _).later hb2, trivial⟩, upd_self⟩
                  · intro V L H wq hw hk hj hd
                    obtain ⟨⟨hL0, hM0, hH0, hv0⟩, ⟨hL7, hM7, hH7, hv7⟩, -⟩ := hd
                    rw [hv0, hv7]
                    have HV0 := Lib.hid hv0
                    have HV7 := Lib.hid hv7
                    clear hv0 hv7
                    go_wp2_with fail
                    exact freePost _ rfl ⟨⟨WritesF.refl _ _, hj⟩, upd_self⟩
                  · intro V L H wq hw hj hd hap hdead
                    obtain ⟨⟨hL0, hM0, hH0, hv0⟩, ⟨hL1, hM1, hH1, hv1⟩, ⟨hL2, hM2, hH2, hv2⟩, ⟨hL3, hM3, hH3, hv3⟩, ⟨hL4, hM4, hH4, hv4⟩, ⟨hL5, hM5, hH5, hv5⟩, ⟨hL6, hM6, hH6, hv6⟩, ⟨hL7, hM7, hH7, hv7⟩, ⟨hL8, hM8, hH8, hv8⟩, -⟩ := hd
                    rw [hv0, hv1, hv2, hv3, hv4, hv5, hv6, hv7, hv8]
                    clear hv0 hv1 hv2 hv3 hv4 hv5 hv6 hv7 hv8
                    have HBN := Lib.hid (HBW2.out.trans ((fa_noneK hw).mono HBW2.out.size))
                    clear hw hj hap hdead
                    go_wp2
                    go_ret
                    exact ⟨rfl, HBN.out⟩
    · have e0 : (z0 != 3) = true := bne_iff_ne.2 h0
      rw [if_pos (.inl h0)]
      clear h0 HM1 HM2 KA1 KA2
      go_enter Try.func25, Try.ntmps25
      go_wp2_with fail
      rw [← HWE.out]
      clear HWE
      refine wp_region_freeK [([], .none, []), ([0], .none, []), ([1], .none, []), ([2], .none, []), ([3], .none, []), ([4], .none, []), ([4], .none, []), ([4], .none, []), ([4, 7], .none, []), ([4, 8], .none, []), ([4, 9], .none, []), ([4, 5, 6, 10], .none, []), ([4, 11], .none, []), ([4, 12], .none, [])] [0, 1, 2, 3, 4, 5, 6, 7, 8, 9, 10, 11, 12, 13] [] (fun _ => False) (fun _ => True) (fun _ => 0) (fun jq9 V L H wx => match jq9 with | 0 => V 0 = .pointer (some ⟨w.heap.size + 2, 6, none⟩) | 1 => V 1 = .slice (some ⟨rb, ro, none⟩) 3 c6 | 2 => V 2 = .int .i64 3 | 3 => V 3 = .bool false | 4 => V 4 = .bool false | 5 => V 5 = .agg #[.slice a0 g.fSymbols.length c0_0, .slice a1 g.fRules.length c0_1] | 6 => V 6 = .agg #[.string x.fName, .string x.fLeft, .slice b2 x.fRight.length c1_0, .bool x.fLiteral, .slice b4 x.fEquations.length c1_1, .slice b5 x.fContributions.length c1_2] | 7 => V 7 = .pointer (some ⟨w.heap.size + 2, 6, none⟩) | 8 => V 8 = .slice (some ⟨rb, ro, none⟩) 3 c6 | 9 => V 9 = .pointer (some ⟨rb, ro, none⟩) | 10 => V 10 = .agg #[.int .i64 y0.fKind, .int .i64 y0.fN, .int .i64 y0.fPos, .int .i64 y0.fType, .string y0.fSymbol, .string y0.fName, .slice a0_ y0.fArgs.length c0_] | 11 => V 11 = .int .i64 z0 | 12 => V 12 = .bool true | 13 => V 13 = .bool true | _ => True) (by kernel_rfl) (by kernel_rfl) ?obs (fun _ h => h.elim) trivial (fun _ _ _ _ _ => trivial) ?loc ?lasts ?walk
      case obs =>
        trivial
      case loc =>
        intro k V V' L H wx h0 h1 hG
        match k with
        | 0 =>
          try dsimp only at hG ⊢
          rw [← h0]
          exact hG
        | 1 =>
          try dsimp only at hG ⊢
          rw [← h0]
          exact hG
        | 2 =>
          try dsimp only at hG ⊢
          rw [← h0]
          exact hG
        | 3 =>
          try dsimp only at hG ⊢
          rw [← h0]
          exact hG
        | 4 =>
          try dsimp only at hG ⊢
          rw [← h0]
          exact hG
        | 5 =>
          try dsimp only at hG ⊢
          rw [← h0]
          exact hG
        | 6 =>
          try dsimp only at hG ⊢
          rw [← h0]
          exact hG
        | 7 =>
          try dsimp only at hG ⊢
          rw [← h0]
          exact hG
        | 8 =>
          try dsimp only at hG ⊢
          rw [← h0]
          exact hG
        | 9 =>
          try dsimp only at hG ⊢
          rw [← h0]
          exact hG
        | 10 =>
          try dsimp only at hG ⊢
          rw [← h0]
          exact hG
        | 11 =>
          try dsimp only at hG ⊢
          rw [← h0]
          exact hG
        | 12 =>
          try dsimp only at hG ⊢
          rw [← h0]
          exact hG
        | 13 =>
          try dsimp only at hG ⊢
          rw [← h0]
          exact hG
        | n + 14 => trivial
      case lasts =>
        intro i hi V L H wx wy hB hH hk
        match i, hi with
        | 0, _ => exact fun h => h
        | 1, _ => exact fun h => h
        | 2, _ => exact fun h => h
        | 3, _ => exact fun h => h
        | 4, _ => exact fun h => h
        | 5, _ => exact fun h => h
        | 6, _ => exact fun h => h
        | 7, _ => exact fun h => h
        | 8, _ => exact fun h => h
        | 9, _ => exact fun h => h
        | 10, _ => exact fun h => h
        | 11, _ => exact fun h => h
        | 12, _ => exact fun h => h
        | 13, _ => exact fun h => h
        | n + 14, hn => exact absurd hn (by simp)
      case walk =>
        simp (maxSteps := 4000000) only [freeK, Nat.reduceAdd, Act.put, List.setIfInBounds_toArray, List.set_cons_succ, List.set_cons_zero]
        refine ⟨?_, ?_, ?_, ?_, ?_, ?_, ?_, ?_, ?_, ?_, ?_, ?_, ?_, ?_, ?_⟩
        · intro V L H wq hw hk hj hd
          clear hd
          go_wp2_with fail
          exact freePost _ rfl ⟨⟨WritesF.refl _ _, hj⟩, upd_self⟩
        · intro V L H wq hw hk hj hd
          obtain ⟨⟨hL0, hM0, hH0, hv0⟩, -⟩ := hd
          rw [hv0]
          have HV0 := Lib.hid hv0
          clear hv0
          have y6c := KY6.out wq (fun p hp => hk.cell (p := p) ⟨hp, fun h => h, trivial⟩ hp)
          go_wp2_with fail
          exact freePost _ rfl ⟨⟨WritesF.refl _ _, hj⟩, upd_self⟩
        · intro V L H wq hw hk hj hd
          obtain ⟨⟨hL1, hM1, hH1, hv1⟩, -⟩ := hd
          rw [hv1]
          have HV1 := Lib.hid hv1
          clear hv1
          go_wp2_with fail
          exact freePost _ rfl ⟨⟨WritesF.refl _ _, hj⟩, upd_self⟩
        · intro V L H wq hw hk hj hd
          obtain ⟨⟨hL2, hM2, hH2, hv2⟩, -⟩ := hd
          rw [hv2]
          have HV2 := Lib.hid hv2
          clear hv2
          go_wp2_with fail
          exact freePost _ rfl ⟨⟨WritesF.refl _ _, hj⟩, upd_self⟩
        · intro V L H wq hw hk hj hd
          obtain ⟨⟨hL3, hM3, hH3, hv3⟩, -⟩ := hd
          rw [hv3]
          have HV3 := Lib.hid hv3
          clear hv3
          go_wp2_with fail
          exact freePost _ rfl ⟨⟨WritesF.refl _ _, hj⟩, upd_self⟩
        · intro V L H wq hw hk hj hd
          obtain ⟨⟨hL4, hM4, hH4, hv4⟩, -⟩ := hd
          rw [hv4]
          have HV4 := Lib.hid hv4
          clear hv4
          obtain ⟨g0, g1⟩ := KG.out wq (fun p hp => hk.cell (p := p) ⟨hp, fun h => h, trivial⟩ hp)
          go_wp2_with fail
          exact freePost _ rfl ⟨⟨WritesF.refl _ _, hj⟩, upd_self⟩
        · intro V L H wq hw hk hj hd
          obtain ⟨⟨hL4, hM4, hH4, hv4⟩, -⟩ := hd
          rw [hv4]
          have HV4 := Lib.hid hv4
          clear hv4
          obtain ⟨r0, r1, r2, r3, r4, r5⟩ := KR.out wq (fun p hp => hk.cell (p := p) ⟨hp, fun h => h, trivial⟩ hp)
          go_wp2_with fail
          exact freePost _ rfl ⟨⟨WritesF.refl _ _, hj⟩, upd_self⟩
        · intro V L H wq hw hk hj hd
          obtain ⟨⟨hL4, hM4, hH4, hv4⟩, -⟩ := hd
          rw [hv4]
          have HV4 := Lib.hid hv4
          clear hv4
          go_wp2_with fail
          exact freePost _ rfl ⟨⟨WritesF.refl _ _, hj⟩, upd_self⟩
        · intro V L H wq hw hk hj hd
          obtain ⟨⟨hL4, hM4, hH4, hv4⟩, ⟨hL7, hM7, hH7, hv7⟩, -⟩ := hd
          rw [hv4, hv7]
          have HV4 := Lib.hid hv4
          have HV7 := Lib.hid hv7
          clear hv4 hv7
          have y6c := KY6.out wq (fun p hp => hk.cell (p := p) ⟨hp, fun h => h, trivial⟩ hp)
          go_wp2_with fail
          exact freePost _ rfl ⟨⟨WritesF.refl _ _, hj⟩, upd_self⟩
        · intro V L H wq hw hk hj hd
          obtain ⟨⟨hL4, hM4, hH4, hv4⟩, ⟨hL8, hM8, hH8, hv8⟩, -⟩ := hd
          rw [hv4, hv8]
          have HV4 := Lib.hid hv4
          have HV8 := Lib.hid hv8
          clear hv4 hv8
          go_wp2_with fail
          exact freePost _ rfl ⟨⟨WritesF.refl _ _, hj⟩, upd_self⟩
        · intro V L H wq hw hk hj hd
          obtain ⟨⟨hL4, hM4, hH4, hv4⟩, ⟨hL9, hM9, hH9, hv9⟩, -⟩ := hd
          rw [hv4, hv9]
          have HV4 := Lib.hid hv4
          have HV9 := Lib.hid hv9
          clear hv4 hv9
          obtain ⟨q0, q1, q2, q3, q4, q5, q6⟩ := KA0.out wq (fun p hp => hk.cell (p := p) ⟨hp, fun h => h, trivial⟩ hp)
          go_wp2_with fail
          exact freePost _ rfl ⟨⟨WritesF.refl _ _, hj⟩, upd_self⟩
        · intro V L H wq hw hk hj hd
          obtain ⟨⟨hL4, hM4, hH4, hv4⟩, ⟨hL5, hM5, hH5, hv5⟩, ⟨hL6, hM6, hH6, hv6⟩, ⟨hL10, hM10, hH10, hv10⟩, -⟩ := hd
          rw [hv4, hv5, hv6, hv10]
          have HV4 := Lib.hid hv4
          have HV5 := Lib.hid hv5
          have HV6 := Lib.hid hv6
          have HV10 := Lib.hid hv10
          clear hv4 hv5 hv6 hv10
          go_wp2_with fail
          refine (HM0.out wq (HB.out.trans ((fa_noneK hw).mono HB.out.size))).mono ?_
          rintro e w2 ⟨rfl, hb2⟩
          go_wp2_with fail
          exact freePost _ rfl ⟨⟨(WritesF.refl _ _).later hb2, trivial⟩, upd_self⟩
        · intro V L H wq hw hk hj hd
          obtain ⟨⟨hL4, hM4, hH4, hv4⟩, ⟨hL11, hM11, hH11, hv11⟩, -⟩ := hd
          rw [hv4, hv11]
          have HV4 := Lib.hid hv4
          have HV11 := Lib.hid hv11
          clear hv4 hv11
          go_wp2_with fail
          exact freePost _ rfl ⟨⟨WritesF.refl _ _, hj⟩, upd_self⟩
        · intro V L H wq hw hk hj hd
          obtain ⟨⟨hL4, hM4, hH4, hv4⟩, ⟨hL12, hM12, hH12, hv12⟩, -⟩ := hd
          rw [hv4, hv12]
          have HV4 := Lib.hid hv4
          have HV12 := Lib.hid hv12
          clear hv4 hv12
          go_wp2_with fail
          exact freePost _ rfl ⟨⟨WritesF.refl _ _, hj⟩, upd_self⟩
        · intro V L H wq hw hj hd hap hdead
          obtain ⟨⟨hL0, hM0, hH0, hv0⟩, ⟨hL1, hM1, hH1, hv1⟩, ⟨hL2, hM2, hH2, hv2⟩, ⟨hL3, hM3, hH3, hv3⟩, ⟨hL4, hM4, hH4, hv4⟩, ⟨hL5, hM5, hH5, hv5⟩, ⟨hL6, hM6, hH6, hv6⟩, ⟨hL7, hM7, hH7, hv7⟩, ⟨hL8, hM8, hH8, hv8⟩, ⟨hL9, hM9, hH9, hv9⟩, ⟨hL10, hM10, hH10, hv10⟩, ⟨hL11, hM11, hH11, hv11⟩, ⟨hL12, hM12, hH12, hv12⟩, ⟨hL13, hM13, hH13, hv13⟩, -⟩ := hd
          rw [hv0, hv1, hv2, hv3, hv4, hv5, hv6, hv7, hv8, hv9, hv10, hv11, hv12, hv13]
          clear hv0 hv1 hv2 hv3 hv4 hv5 hv6 hv7 hv8 hv9 hv10 hv11 hv12 hv13
          have HBN := Lib.hid (HB.out.trans ((fa_noneK hw).mono HB.out.size))
          clear hw hj hap hdead
          go_wp2
          go_ret
          exact ⟨rfl, HBN.out⟩
  · rw [ifT_no (by rw [List.length_map]; exact hn)]
    have qn : ((y.fArgs.length : Int) != 3) = true := bne_iff_ne.2 (by omega)
    clear ih oky hszy hhi hs0 hs2 hs4 hs5 hs6 hn
    have HB := Lib.hid ((((Below.refl w.heap.size w).alloc (Nat.le_refl _) (.cells #[.slice a0 g.fSymbols.length c0_0, .slice a1 g.fRules.length c0_1] 41)).alloc (by simp) (.cells #[.string x.fName, .string x.fLeft, .slice b2 x.fRight.length c1_0, .bool x.fLiteral, .slice b4 x.fEquations.length c1_1, .slice b5 x.fContributions.length c1_2] 46)).alloc (by simp <;> omega) (.cells #[.int .i64 y.fKind, .int .i64 y.fN, .int .i64 y.fPos, .int .i64 y.fType, .string y.fSymbol, .string y.fName, .slice a6 y.fArgs.length c6] 50))
    have HG0 := Lib.hid (show (((w.alloc (.cells #[.slice a0 g.fSymbols.length c0_0, .slice a1 g.fRules.length c0_1] 41)).alloc (.cells #[.string x.fName, .string x.fLeft, .slice b2 x.fRight.length c1_0, .bool x.fLiteral, .slice b4 x.fEquations.length c1_1, .slice b5 x.fContributions.length c1_2] 46)).alloc (.cells #[.int .i64 y.fKind, .int .i64 y.fN, .int .i64 y.fPos, .int .i64 y.fType, .string y.fSymbol, .string y.fName, .slice a6 y.fArgs.length c6] 50)).heap[w.heap.size]? = some (.cells #[.slice a0 g.fSymbols.length c0_0, .slice a1 g.fRules.length c0_1] 41) from blk_alloc (by simp <;> omega) (blk_alloc (by simp) (blk_new rfl)))
    have HR0 := Lib.hid (show (((w.alloc (.cells #[.slice a0 g.fSymbols.length c0_0, .slice a1 g.fRules.length c0_1] 41)).alloc (.cells #[.string x.fName, .string x.fLeft, .slice b2 x.fRight.length c1_0, .bool x.fLiteral, .slice b4 x.fEquations.length c1_1, .slice b5 x.fContributions.length c1_2] 46)).alloc (.cells #[.int .i64 y.fKind, .int .i64 y.fN, .int .i64 y.fPos, .int .i64 y.fType, .string y.fSymbol, .string y.fName, .slice a6 y.fArgs.length c6] 50)).heap[w.heap.size + 1]? = some (.cells #[.string x.fName, .string x.fLeft, .slice b2 x.fRight.length c1_0, .bool x.fLiteral, .slice b4 x.fEquations.length c1_1, .slice b5 x.fContributions.length c1_2] 46) from blk_alloc (by simp) (blk_new (by simp)))
    have HY0 := Lib.hid (show (((w.alloc (.cells #[.slice a0 g.fSymbols.length c0_0, .slice a1 g.fRules.length c0_1] 41)).alloc (.cells #[.string x.fName, .string x.fLeft, .slice b2 x.fRight.length c1_0, .bool x.fLiteral, .slice b4 x.fEquations.length c1_1, .slice b5 x.fContributions.length c1_2] 46)).alloc (.cells #[.int .i64 y.fKind, .int .i64 y.fN, .int .i64 y.fPos, .int .i64 y.fType, .string y.fSymbol, .string y.fName, .slice a6 y.fArgs.length c6] 50)).heap[w.heap.size + 2]? = some (.cells #[.int .i64 y.fKind, .int .i64 y.fN, .int .i64 y.fPos, .int .i64 y.fType, .string y.fSymbol, .string y.fName, .slice a6 y.fArgs.length c6] 50) from blk_new (by simp))
    have HSZ := Lib.hid (show (((w.alloc (.cells #[.slice a0 g.fSymbols.length c0_0, .slice a1 g.fRules.length c0_1] 41)).alloc (.cells #[.string x.fName, .string x.fLeft, .slice b2 x.fRight.length c1_0, .bool x.fLiteral, .slice b4 x.fEquations.length c1_1, .slice b5 x.fContributions.length c1_2] 46)).alloc (.cells #[.int .i64 y.fKind, .int .i64 y.fN, .int .i64 y.fPos, .int .i64 y.fType, .string y.fSymbol, .string y.fName, .slice a6 y.fArgs.length c6] 50)).heap.size = w.heap.size + 3 by simp)
    clear HG0 HR0 HY0 HSZ
    generalize y.fArgs.length = n at *
    go_enter Try.func25, Try.ntmps25
    go_wp2_with fail
    go_quiet (fail)
    go_wp2
    go_ret
    exact ⟨rfl, below_drewN HB.out _⟩

set_option maxHeartbeats 32000000 in
set_option maxRecDepth 100000 in
theorem specTy_1 (g : DGrammar) (x : DRule) (y : DExpr) (hk : y.fKind = 1) : SpecTy g x y := by
  intro lo hi c0_0 c0_1 c1_0 c1_1 c1_2 c6 a0 a1 b2 b4 b5 a6 oky hszy w hhi hs0 hs2 hs4 hs5 hs6
  have FIN : typeX g x y = y.fType := by rw [typeX_eq, combT_1 (show (nodeOfX y 0).fKind = 1 from hk)] <;> rfl
  rw [FIN, hk]
  clear FIN hk oky hszy hhi hs0 hs2 hs4 hs5 hs6
  have HB := Lib.hid ((((Below.refl w.heap.size w).alloc (Nat.le_refl _) (.cells #[.slice a0 g.fSymbols.length c0_0, .slice a1 g.fRules.length c0_1] 41)).alloc (by simp) (.cells #[.string x.fName, .string x.fLeft, .slice b2 x.fRight.length c1_0, .bool x.fLiteral, .slice b4 x.fEquations.length c1_1, .slice b5 x.fContributions.length c1_2] 46)).alloc (by simp <;> omega) (.cells #[.int .i64 1, .int .i64 y.fN, .int .i64 y.fPos, .int .i64 y.fType, .string y.fSymbol, .string y.fName, .slice a6 y.fArgs.length c6] 50))
  have HG0 := Lib.hid (show (((w.alloc (.cells #[.slice a0 g.fSymbols.length c0_0, .slice a1 g.fRules.length c0_1] 41)).alloc (.cells #[.string x.fName, .string x.fLeft, .slice b2 x.fRight.length c1_0, .bool x.fLiteral, .slice b4 x.fEquations.length c1_1, .slice b5 x.fContributions.length c1_2] 46)).alloc (.cells #[.int .i64 1, .int .i64 y.fN, .int .i64 y.fPos, .int .i64 y.fType, .string y.fSymbol, .string y.fName, .slice a6 y.fArgs.length c6] 50)).heap[w.heap.size]? = some (.cells #[.slice a0 g.fSymbols.length c0_0, .slice a1 g.fRules.length c0_1] 41) from blk_alloc (by simp <;> omega) (blk_alloc (by simp) (blk_new rfl)))
  have HR0 := Lib.hid (show (((w.alloc (.cells #[.slice a0 g.fSymbols.length c0_0, .slice a1 g.fRules.length c0_1] 41)).alloc (.cells #[.string x.fName, .string x.fLeft, .slice b2 x.fRight.length c1_0, .bool x.fLiteral, .slice b4 x.fEquations.length c1_1, .slice b5 x.fContributions.length c1_2] 46)).alloc (.cells #[.int .i64 1, .int .i64 y.fN, .int .i64 y.fPos, .int .i64 y.fType, .string y.fSymbol, .string y.fName, .slice a6 y.fArgs.length c6] 50)).heap[w.heap.size + 1]? = some (.cells #[.string x.fName, .string x.fLeft, .slice b2 x.fRight.length c1_0, .bool x.fLiteral, .slice b4 x.fEquations.length c1_1, .slice b5 x.fContributions.length c1_2] 46) from blk_alloc (by simp) (blk_new (by simp)))
  have HY0 := Lib.hid (show (((w.alloc (.cells #[.slice a0 g.fSymbols.length c0_0, .slice a1 g.fRules.length c0_1] 41)).alloc (.cells #[.string x.fName, .string x.fLeft, .slice b2 x.fRight.length c1_0, .bool x.fLiteral, .slice b4 x.fEquations.length c1_1, .slice b5 x.fContributions.length c1_2] 46)).alloc (.cells #[.int .i64 1, .int .i64 y.fN, .int .i64 y.fPos, .int .i64 y.fType, .string y.fSymbol, .string y.fName, .slice a6 y.fArgs.length c6] 50)).heap[w.heap.size + 2]? = some (.cells #[.int .i64 1, .int .i64 y.fN, .int .i64 y.fPos, .int .i64 y.fType, .string y.fSymbol, .string y.fName, .slice a6 y.fArgs.length c6] 50) from blk_new (by simp))
  have HSZ := Lib.hid (show (((w.alloc (.cells #[.slice a0 g.fSymbols.length c0_0, .slice a1 g.fRules.length c0_1] 41)).alloc (.cells #[.string x.fName, .string x.fLeft, .slice b2 x.fRight.length c1_0, .bool x.fLiteral, .slice b4 x.fEquations.length c1_1, .slice b5 x.fContributions.length c1_2] 46)).alloc (.cells #[.int .i64 1, .int .i64 y.fN, .int .i64 y.fPos, .int .i64 y.fType, .string y.fSymbol, .string y.fName, .slice a6 y.fArgs.length c6] 50)).heap.size = w.heap.size + 3 by simp)
  clear HG0 HR0 HY0 HSZ
  go_enter Try.func7, Try.ntmps7
  go_wp2
  go_ret
  exact ⟨rfl, HB.out⟩

set_option maxHeartbeats 32000000 in
set_option maxRecDepth 100000 in
theorem specTy_7 (g : DGrammar) (x : DRule) (y : DExpr) (hk : y.fKind = 7) : SpecTy g x y := by
  intro lo hi c0_0 c0_1 c1_0 c1_1 c1_2 c6 a0 a1 b2 b4 b5 a6 oky hszy w hhi hs0 hs2 hs4 hs5 hs6
  have FIN : typeX g x y = 4 := by rw [typeX_eq, combT_7 (show (nodeOfX y 0).fKind = 7 from hk)] <;> rfl
  rw [FIN, hk]
  clear FIN hk oky hszy hhi hs0 hs2 hs4 hs5 hs6
  have HB := Lib.hid ((((Below.refl w.heap.size w).alloc (Nat.le_refl _) (.cells #[.slice a0 g.fSymbols.length c0_0, .slice a1 g.fRules.length c0_1] 41)).alloc (by simp) (.cells #[.string x.fName, .string x.fLeft, .slice b2 x.fRight.length c1_0, .bool x.fLiteral, .slice b4 x.fEquations.length c1_1, .slice b5 x.fContributions.length c1_2] 46)).alloc (by simp <;> omega) (.cells #[.int .i64 7, .int .i64 y.fN, .int .i64 y.fPos, .int .i64 y.fType, .string y.fSymbol, .string y.fName, .slice a6 y.fArgs.length c6] 50))
  have HG0 := Lib.hid (show (((w.alloc (.cells #[.slice a0 g.fSymbols.length c0_0, .slice a1 g.fRules.length c0_1] 41)).alloc (.cells #[.string x.fName, .string x.fLeft, .slice b2 x.fRight.length c1_0, .bool x.fLiteral, .slice b4 x.fEquations.length c1_1, .slice b5 x.fContributions.length c1_2] 46)).alloc (.cells #[.int .i64 7, .int .i64 y.fN, .int .i64 y.fPos, .int .i64 y.fType, .string y.fSymbol, .string y.fName, .slice a6 y.fArgs.length c6] 50)).heap[w.heap.size]? = some (.cells #[.slice a0 g.fSymbols.length c0_0, .slice a1 g.fRules.length c0_1] 41) from blk_alloc (by simp <;> omega) (blk_alloc (by simp) (blk_new rfl)))
  have HR0 := Lib.hid (show (((w.alloc (.cells #[.slice a0 g.fSymbols.length c0_0, .slice a1 g.fRules.length c0_1] 41)).alloc (.cells #[.string x.fName, .string x.fLeft, .slice b2 x.fRight.length c1_0, .bool x.fLiteral, .slice b4 x.fEquations.length c1_1, .slice b5 x.fContributions.length c1_2] 46)).alloc (.cells #[.int .i64 7, .int .i64 y.fN, .int .i64 y.fPos, .int .i64 y.fType, .string y.fSymbol, .string y.fName, .slice a6 y.fArgs.length c6] 50)).heap[w.heap.size + 1]? = some (.cells #[.string x.fName, .string x.fLeft, .slice b2 x.fRight.length c1_0, .bool x.fLiteral, .slice b4 x.fEquations.length c1_1, .slice b5 x.fContributions.length c1_2] 46) from blk_alloc (by simp) (blk_new (by simp)))
  have HY0 := Lib.hid (show (((w.alloc (.cells #[.slice a0 g.fSymbols.length c0_0, .slice a1 g.fRules.length c0_1] 41)).alloc (.cells #[.string x.fName, .string x.fLeft, .slice b2 x.fRight.length c1_0, .bool x.fLiteral, .slice b4 x.fEquations.length c1_1, .slice b5 x.fContributions.length c1_2] 46)).alloc (.cells #[.int .i64 7, .int .i64 y.fN, .int .i64 y.fPos, .int .i64 y.fType, .string y.fSymbol, .string y.fName, .slice a6 y.fArgs.length c6] 50)).heap[w.heap.size + 2]? = some (.cells #[.int .i64 7, .int .i64 y.fN, .int .i64 y.fPos, .int .i64 y.fType, .string y.fSymbol, .string y.fName, .slice a6 y.fArgs.length c6] 50) from blk_new (by simp))
  have HSZ := Lib.hid (show (((w.alloc (.cells #[.slice a0 g.fSymbols.length c0_0, .slice a1 g.fRules.length c0_1] 41)).alloc (.cells #[.string x.fName, .string x.fLeft, .slice b2 x.fRight.length c1_0, .bool x.fLiteral, .slice b4 x.fEquations.length c1_1, .slice b5 x.fContributions.length c1_2] 46)).alloc (.cells #[.int .i64 7, .int .i64 y.fN, .int .i64 y.fPos, .int .i64 y.fType, .string y.fSymbol, .string y.fName, .slice a6 y.fArgs.length c6] 50)).heap.size = w.heap.size + 3 by simp)
  clear HG0 HR0 HY0 HSZ
  go_enter Try.func7, Try.ntmps7
  go_wp2
  go_ret
  exact ⟨rfl, HB.out⟩

set_option maxHeartbeats 32000000 in
set_option maxRecDepth 100000 in
theorem specTy_2 (g : DGrammar) (x : DRule) (y : DExpr) (hk : y.fKind = 2) : SpecTy g x y := by
  intro lo hi c0_0 c0_1 c1_0 c1_1 c1_2 c6 a0 a1 b2 b4 b5 a6 oky hszy w hhi hs0 hs2 hs4 hs5 hs6
  have FIN : typeX g x y = (if x.fLiteral = true then 1 else 0) := by rw [typeX_eq, combT_2 (show (nodeOfX y 0).fKind = 2 from hk)] <;> rfl
  rw [FIN, hk]
  clear FIN hk oky hszy hhi hs0 hs2 hs4 hs5 hs6
  have HB := Lib.hid ((((Below.refl w.heap.size w).alloc (Nat.le_refl _) (.cells #[.slice a0 g.fSymbols.length c0_0, .slice a1 g.fRules.length c0_1] 41)).alloc (by simp) (.cells #[.string x.fName, .string x.fLeft, .slice b2 x.fRight.length c1_0, .bool x.fLiteral, .slice b4 x.fEquations.length c1_1, .slice b5 x.fContributions.length c1_2] 46)).alloc (by simp <;> omega) (.cells #[.int .i64 2, .int .i64 y.fN, .int .i64 y.fPos, .int .i64 y.fType, .string y.fSymbol, .string y.fName, .slice a6 y.fArgs.length c6] 50))
  have HG0 := Lib.hid (show (((w.alloc (.cells #[.slice a0 g.fSymbols.length c0_0, .slice a1 g.fRules.length c0_1] 41)).alloc (.cells #[.string x.fName, .string x.fLeft, .slice b2 x.fRight.length c1_0, .bool x.fLiteral, .slice b4 x.fEquations.length c1_1, .slice b5 x.fContributions.length c1_2] 46)).alloc (.cells #[.int .i64 2, .int .i64 y.fN, .int .i64 y.fPos, .int .i64 y.fType, .string y.fSymbol, .string y.fName, .slice a6 y.fArgs.length c6] 50)).heap[w.heap.size]? = some (.cells #[.slice a0 g.fSymbols.length c0_0, .slice a1 g.fRules.length c0_1] 41) from blk_alloc (by simp <;> omega) (blk_alloc (by simp) (blk_new rfl)))
  have HR0 := Lib.hid (show (((w.alloc (.cells #[.slice a0 g.fSymbols.length c0_0, .slice a1 g.fRules.length c0_1] 41)).alloc (.cells #[.string x.fName, .string x.fLeft, .slice b2 x.fRight.length c1_0, .bool x.fLiteral, .slice b4 x.fEquations.length c1_1, .slice b5 x.fContributions.length c1_2] 46)).alloc (.cells #[.int .i64 2, .int .i64 y.fN, .int .i64 y.fPos, .int .i64 y.fType, .string y.fSymbol, .string y.fName, .slice a6 y.fArgs.length c6] 50)).heap[w.heap.size + 1]? = some (.cells #[.string x.fName, .string x.fLeft, .slice b2 x.fRight.length c1_0, .bool x.fLiteral, .slice b4 x.fEquations.length c1_1, .slice b5 x.fContributions.length c1_2] 46) from blk_alloc (by simp) (blk_new (by simp)))
  have HY0 := Lib.hid (show (((w.alloc (.cells #[.slice a0 g.fSymbols.length c0_0, .slice a1 g.fRules.length c0_1] 41)).alloc (.cells #[.string x.fName, .string x.fLeft, .slice b2 x.fRight.length c1_0, .bool x.fLiteral, .slice b4 x.fEquations.length c1_1, .slice b5 x.fContributions.length c1_2] 46)).alloc (.cells #[.int .i64 2, .int .i64 y.fN, .int .i64 y.fPos, .int .i64 y.fType, .string y.fSymbol, .string y.fName, .slice a6 y.fArgs.length c6] 50)).heap[w.heap.size + 2]? = some (.cells #[.int .i64 2, .int .i64 y.fN, .int .i64 y.fPos, .int .i64 y.fType, .string y.fSymbol, .string y.fName, .slice a6 y.fArgs.length c6] 50) from blk_new (by simp))
  have HSZ := Lib.hid (show (((w.alloc (.cells #[.slice a0 g.fSymbols.length c0_0, .slice a1 g.fRules.length c0_1] 41)).alloc (.cells #[.string x.fName, .string x.fLeft, .slice b2 x.fRight.length c1_0, .bool x.fLiteral, .slice b4 x.fEquations.length c1_1, .slice b5 x.fContributions.length c1_2] 46)).alloc (.cells #[.int .i64 2, .int .i64 y.fN, .int .i64 y.fPos, .int .i64 y.fType, .string y.fSymbol, .string y.fName, .slice a6 y.fArgs.length c6] 50)).heap.size = w.heap.size + 3 by simp)
  clear HG0 HR0 HY0 HSZ
  generalize x.fLiteral = lit at *
  cases lit
  · skip
    go_enter Try.func7, Try.ntmps7
    go_wp2
    go_ret
    exact ⟨rfl, HB.out⟩
  · skip
    go_enter Try.func7, Try.ntmps7
    go_wp2
    go_ret
    exact ⟨rfl, HB.out⟩

set_option maxHeartbeats 32000000 in
set_option maxRecDepth 100000 in
theorem specTy_0 (g : DGrammar) (x : DRule) (y : DExpr) (hk : y.fKind < 1 ∨ 8 < y.fKind) : SpecTy g x y := by
  intro lo hi c0_0 c0_1 c1_0 c1_1 c1_2 c6 a0 a1 b2 b4 b5 a6 oky hszy w hhi hs0 hs2 hs4 hs5 hs6
  have FIN : typeX g x y = 0 := by rw [typeX_eq, combT_0 (show (nodeOfX y 0).fKind < 1 ∨ 8 < (nodeOfX y 0).fKind from hk)]
  rw [FIN]
  clear FIN oky hszy hhi hs0 hs2 hs4 hs5 hs6
  have n1 : (y.fKind == 1) = false := beq_eq_false_iff_ne.2 (by omega)
  have n2 : (y.fKind == 2) = false := beq_eq_false_iff_ne.2 (by omega)
  have n3 : (y.fKind == 3) = false := beq_eq_false_iff_ne.2 (by omega)
  have n4 : (y.fKind == 4) = false := beq_eq_false_iff_ne.2 (by omega)
  have n5 : (y.fKind == 5) = false := beq_eq_false_iff_ne.2 (by omega)
  have n6 : (y.fKind == 6) = false := beq_eq_false_iff_ne.2 (by omega)
  have n7 : (y.fKind == 7) = false := beq_eq_false_iff_ne.2 (by omega)
  have n8 : (y.fKind == 8) = false := beq_eq_false_iff_ne.2 (by omega)
  have HB := Lib.hid ((((Below.refl w.heap.size w).alloc (Nat.le_refl _) (.cells #[.slice a0 g.fSymbols.length c0_0, .slice a1 g.fRules.length c0_1] 41)).alloc (by simp) (.cells #[.string x.fName, .string x.fLeft, .slice b2 x.fRight.length c1_0, .bool x.fLiteral, .slice b4 x.fEquations.length c1_1, .slice b5 x.fContributions.length c1_2] 46)).alloc (by simp <;> omega) (.cells #[.int .i64 y.fKind, .int .i64 y.fN, .int .i64 y.fPos, .int .i64 y.fType, .string y.fSymbol, .string y.fName, .slice a6 y.fArgs.length c6] 50))
  have HG0 := Lib.hid (show (((w.alloc (.cells #[.slice a0 g.fSymbols.length c0_0, .slice a1 g.fRules.length c0_1] 41)).alloc (.cells #[.string x.fName, .string x.fLeft, .slice b2 x.fRight.length c1_0, .bool x.fLiteral, .slice b4 x.fEquations.length c1_1, .slice b5 x.fContributions.length c1_2] 46)).alloc (.cells #[.int .i64 y.fKind, .int .i64 y.fN, .int .i64 y.fPos, .int .i64 y.fType, .string y.fSymbol, .string y.fName, .slice a6 y.fArgs.length c6] 50)).heap[w.heap.size]? = some (.cells #[.slice a0 g.fSymbols.length c0_0, .slice a1 g.fRules.length c0_1] 41) from blk_alloc (by simp <;> omega) (blk_alloc (by simp) (blk_new rfl)))
  have HR0 := Lib.hid (show (((w.alloc (.cells #[.slice a0 g.fSymbols.length c0_0, .slice a1 g.fRules.length c0_1] 41)).alloc (.cells #[.string x.fName, .string x.fLeft, .slice b2 x.fRight.length c1_0, .bool x.fLiteral, .slice b4 x.fEquations.length c1_1, .slice b5 x.fContributions.length c1_2] 46)).alloc (.cells #[.int .i64 y.fKind, .int .i64 y.fN, .int .i64 y.fPos, .int .i64 y.fType, .string y.fSymbol, .string y.fName, .slice a6 y.fArgs.length c6] 50)).heap[w.heap.size + 1]? = some (.cells #[.string x.fName, .string x.fLeft, .slice b2 x.fRight.length c1_0, .bool x.fLiteral, .slice b4 x.fEquations.length c1_1, .slice b5 x.fContributions.length c1_2] 46) from blk_alloc (by simp) (blk_new (by simp)))
  have HY0 := Lib.hid (show (((w.alloc (.cells #[.slice a0 g.fSymbols.length c0_0, .slice a1 g.fRules.length c0_1] 41)).alloc (.cells #[.string x.fName, .string x.fLeft, .slice b2 x.fRight.length c1_0, .bool x.fLiteral, .slice b4 x.fEquations.length c1_1, .slice b5 x.fContributions.length c1_2] 46)).alloc (.cells #[.int .i64 y.fKind, .int .i64 y.fN, .int .i64 y.fPos, .int .i64 y.fType, .string y.fSymbol, .string y.fName, .slice a6 y.fArgs.length c6] 50)).heap[w.heap.size + 2]? = some (.cells #[.int .i64 y.fKind, .int .i64 y.fN, .int .i64 y.fPos, .int .i64 y.fType, .string y.fSymbol, .string y.fName, .slice a6 y.fArgs.length c6] 50) from blk_new (by simp))
  have HSZ := Lib.hid (show (((w.alloc (.cells #[.slice a0 g.fSymbols.length c0_0, .slice a1 g.fRules.length c0_1] 41)).alloc (.cells #[.string x.fName, .string x.fLeft, .slice b2 x.fRight.length c1_0, .bool x.fLiteral, .slice b4 x.fEquations.length c1_1, .slice b5 x.fContributions.length c1_2] 46)).alloc (.cells #[.int .i64 y.fKind, .int .i64 y.fN, .int .i64 y.fPos, .int .i64 y.fType, .string y.fSymbol, .string y.fName, .slice a6 y.fArgs.length c6] 50)).heap.size = w.heap.size + 3 by simp)
  clear HG0 HR0 HY0 HSZ hk
  generalize y.fKind = yk at *
  go_enter Try.func7, Try.ntmps7
  go_wp2
  go_ret
  exact ⟨rfl, HB.out⟩

set_option maxHeartbeats 32000000 in
set_option maxRecDepth 100000 in
theorem specTy_6 (g : DGrammar) (x : DRule) (y : DExpr) (hk : y.fKind = 6) : SpecTy g x y := by
  intro lo hi c0_0 c0_1 c1_0 c1_1 c1_2 c6 a0 a1 b2 b4 b5 a6 oky hszy w hhi hs0 hs2 hs4 hs5 hs6
  have FIN : typeX g x y = (if inR y.fPos 0 x.fRight.length = true then 4 else 0) := by rw [typeX_eq, combT_6 (show (nodeOfX y 0).fKind = 6 from hk)] <;> rfl
  rw [FIN, hk]
  clear FIN hk oky hszy hhi hs0 hs2 hs4 hs5 hs6
  have HB := Lib.hid ((((Below.refl w.heap.size w).alloc (Nat.le_refl _) (.cells #[.slice a0 g.fSymbols.length c0_0, .slice a1 g.fRules.length c0_1] 41)).alloc (by simp) (.cells #[.string x.fName, .string x.fLeft, .slice b2 x.fRight.length c1_0, .bool x.fLiteral, .slice b4 x.fEquations.length c1_1, .slice b5 x.fContributions.length c1_2] 46)).alloc (by simp <;> omega) (.cells #[.int .i64 6, .int .i64 y.fN, .int .i64 y.fPos, .int .i64 y.fType, .string y.fSymbol, .string y.fName, .slice a6 y.fArgs.length c6] 50))
  have HG0 := Lib.hid (show (((w.alloc (.cells #[.slice a0 g.fSymbols.length c0_0, .slice a1 g.fRules.length c0_1] 41)).alloc (.cells #[.string x.fName, .string x.fLeft, .slice b2 x.fRight.length c1_0, .bool x.fLiteral, .slice b4 x.fEquations.length c1_1, .slice b5 x.fContributions.length c1_2] 46)).alloc (.cells #[.int .i64 6, .int .i64 y.fN, .int .i64 y.fPos, .int .i64 y.fType, .string y.fSymbol, .string y.fName, .slice a6 y.fArgs.length c6] 50)).heap[w.heap.size]? = some (.cells #[.slice a0 g.fSymbols.length c0_0, .slice a1 g.fRules.length c0_1] 41) from blk_alloc (by simp <;> omega) (blk_alloc (by simp) (blk_new rfl)))
  have HR0 := Lib.hid (show (((w.alloc (.cells #[.slice a0 g.fSymbols.length c0_0, .slice a1 g.fRules.length c0_1] 41)).alloc (.cells #[.string x.fName, .string x.fLeft, .slice b2 x.fRight.length c1_0, .bool x.fLiteral, .slice b4 x.fEquations.length c1_1, .slice b5 x.fContributions.length c1_2] 46)).alloc (.cells #[.int .i64 6, .int .i64 y.fN, .int .i64 y.fPos, .int .i64 y.fType, .string y.fSymbol, .string y.fName, .slice a6 y.fArgs.length c6] 50)).heap[w.heap.size + 1]? = some (.cells #[.string x.fName, .string x.fLeft, .slice b2 x.fRight.length c1_0, .bool x.fLiteral, .slice b4 x.fEquations.length c1_1, .slice b5 x.fContributions.length c1_2] 46) from blk_alloc (by simp) (blk_new (by simp)))
  have HY0 := Lib.hid (show (((w.alloc (.cells #[.slice a0 g.fSymbols.length c0_0, .slice a1 g.fRules.length c0_1] 41)).alloc (.cells #[.string x.fName, .string x.fLeft, .slice b2 x.fRight.length c1_0, .bool x.fLiteral, .slice b4 x.fEquations.length c1_1, .slice b5 x.fContributions.length c1_2] 46)).alloc (.cells #[.int .i64 6, .int .i64 y.fN, .int .i64 y.fPos, .int .i64 y.fType, .string y.fSymbol, .string y.fName, .slice a6 y.fArgs.length c6] 50)).heap[w.heap.size + 2]? = some (.cells #[.int .i64 6, .int .i64 y.fN, .int .i64 y.fPos, .int .i64 y.fType, .string y.fSymbol, .string y.fName, .slice a6 y.fArgs.length c6] 50) from blk_new (by simp))
  have HSZ := Lib.hid (show (((w.alloc (.cells #[.slice a0 g.fSymbols.length c0_0, .slice a1 g.fRules.length c0_1] 41)).alloc (.cells #[.string x.fName, .string x.fLeft, .slice b2 x.fRight.length c1_0, .bool x.fLiteral, .slice b4 x.fEquations.length c1_1, .slice b5 x.fContributions.length c1_2] 46)).alloc (.cells #[.int .i64 6, .int .i64 y.fN, .int .i64 y.fPos, .int .i64 y.fType, .string y.fSymbol, .string y.fName, .slice a6 y.fArgs.length c6] 50)).heap.size = w.heap.size + 3 by simp)
  clear HG0 HR0 HY0 HSZ
  have HI := Lib.hid (fun (W : World) => spec_l1In y.fPos 0 (x.fRight.length : Int) W)
  generalize inR y.fPos 0 x.fRight.length = b at *
  cases b
  · skip
    go_enter Try.func7, Try.ntmps7
    go_wp2_with fail
    refine (HI.out _).mono ?_
    rintro e w9 ⟨rfl, rfl⟩
    go_wp2
    go_ret
    exact ⟨rfl, HB.out⟩
  · skip
    go_enter Try.func7, Try.ntmps7
    go_wp2_with fail
    refine (HI.out _).mono ?_
    rintro e w9 ⟨rfl, rfl⟩
    go_wp2
    go_ret
    exact ⟨rfl, HB.out⟩

set_option maxHeartbeats 32000000 in
set_option maxRecDepth 100000 in
theorem specTy_4 (g : DGrammar) (x : DRule) (y : DExpr) (hk : y.fKind = 4) (ih : ∀ a ∈ y.fArgs, SpecTy g x a) : SpecTy g x y := by
  intro lo hi c0_0 c0_1 c1_0 c1_1 c1_2 c6 a0 a1 b2 b4 b5 a6 oky hszy w hhi hs0 hs2 hs4 hs5 hs6
  have FIN : typeX g x y = opT y.fN (y.fArgs.map (typeX g x)) := by rw [typeX_eq, combT_4 (show (nodeOfX y 0).fKind = 4 from hk)] <;> rfl
  rw [FIN, hk]
  have HO := Lib.hid (fun (W : World) (hW : Below w.heap.size w W) => spec_l12Op (lo := lo) (hi := hi) (c0_0 := c0_0) (c0_1 := c0_1) (c1_0 := c1_0) (c1_1 := c1_1) (c1_2 := c1_2) (c6 := c6) (a0 := a0) (a1 := a1) (b2 := b2) (b4 := b4) (b5 := b5) (a6 := a6) g x y ih oky hszy W (Nat.le_trans hhi hW.size) (hs0.later hW hhi) (hs2.later hW hhi) (hs4.later hW hhi) (hs5.later hW hhi) (hs6.later hW hhi))
  rw [hk] at HO
  generalize opT y.fN (y.fArgs.map (typeX g x)) = v at *
  clear FIN hk ih oky hszy hhi hs0 hs2 hs4 hs5 hs6
  have HB := Lib.hid ((((Below.refl w.heap.size w).alloc (Nat.le_refl _) (.cells #[.slice a0 g.fSymbols.length c0_0, .slice a1 g.fRules.length c0_1] 41)).alloc (by simp) (.cells #[.string x.fName, .string x.fLeft, .slice b2 x.fRight.length c1_0, .bool x.fLiteral, .slice b4 x.fEquations.length c1_1, .slice b5 x.fContributions.length c1_2] 46)).alloc (by simp <;> omega) (.cells #[.int .i64 4, .int .i64 y.fN, .int .i64 y.fPos, .int .i64 y.fType, .string y.fSymbol, .string y.fName, .slice a6 y.fArgs.length c6] 50))
  have HG0 := Lib.hid (show (((w.alloc (.cells #[.slice a0 g.fSymbols.length c0_0, .slice a1 g.fRules.length c0_1] 41)).alloc (.cells #[.string x.fName, .string x.fLeft, .slice b2 x.fRight.length c1_0, .bool x.fLiteral, .slice b4 x.fEquations.length c1_1, .slice b5 x.fContributions.length c1_2] 46)).alloc (.cells #[.int .i64 4, .int .i64 y.fN, .int .i64 y.fPos, .int .i64 y.fType, .string y.fSymbol, .string y.fName, .slice a6 y.fArgs.length c6] 50)).heap[w.heap.size]? = some (.cells #[.slice a0 g.fSymbols.length c0_0, .slice a1 g.fRules.length c0_1] 41) from blk_alloc (by simp <;> omega) (blk_alloc (by simp) (blk_new rfl)))
  have HR0 := Lib.hid (show (((w.alloc (.cells #[.slice a0 g.fSymbols.length c0_0, .slice a1 g.fRules.length c0_1] 41)).alloc (.cells #[.string x.fName, .string x.fLeft, .slice b2 x.fRight.length c1_0, .bool x.fLiteral, .slice b4 x.fEquations.length c1_1, .slice b5 x.fContributions.length c1_2] 46)).alloc (.cells #[.int .i64 4, .int .i64 y.fN, .int .i64 y.fPos, .int .i64 y.fType, .string y.fSymbol, .string y.fName, .slice a6 y.fArgs.length c6] 50)).heap[w.heap.size + 1]? = some (.cells #[.string x.fName, .string x.fLeft, .slice b2 x.fRight.length c1_0, .bool x.fLiteral, .slice b4 x.fEquations.length c1_1, .slice b5 x.fContributions.length c1_2] 46) from blk_alloc (by simp) (blk_new (by simp)))
  have HY0 := Lib.hid (show (((w.alloc (.cells #[.slice a0 g.fSymbols.length c0_0, .slice a1 g.fRules.length c0_1] 41)).alloc (.cells #[.string x.fName, .string x.fLeft, .slice b2 x.fRight.length c1_0, .bool x.fLiteral, .slice b4 x.fEquations.length c1_1, .slice b5 x.fContributions.length c1_2] 46)).alloc (.cells #[.int .i64 4, .int .i64 y.fN, .int .i64 y.fPos, .int .i64 y.fType, .string y.fSymbol, .string y.fName, .slice a6 y.fArgs.length c6] 50)).heap[w.heap.size + 2]? = some (.cells #[.int .i64 4, .int .i64 y.fN, .int .i64 y.fPos, .int .i64 y.fType, .string y.fSymbol, .string y.fName, .slice a6 y.fArgs.length c6] 50) from blk_new (by simp))
  have HSZ := Lib.hid (show (((w.alloc (.cells #[.slice a0 g.fSymbols.length c0_0, .slice a1 g.fRules.length c0_1] 41)).alloc (.cells #[.string x.fName, .string x.fLeft, .slice b2 x.fRight.length c1_0, .bool x.fLiteral, .slice b4 x.fEquations.length c1_1, .slice b5 x.fContributions.length c1_2] 46)).alloc (.cells #[.int .i64 4, .int .i64 y.fN, .int .i64 y.fPos, .int .i64 y.fType, .string y.fSymbol, .string y.fName, .slice a6 y.fArgs.length c6] 50)).heap.size = w.heap.size + 3 by simp)
  clear HG0 HR0 HY0 HSZ
  go_enter Try.func7, Try.ntmps7
  go_wp2_with fail
  refine (HO.out _ HB.out).mono ?_
  rintro e w1 ⟨rfl, hb1⟩
  have HB1 := Lib.hid (HB.out.trans (hb1.mono HB.out.size))
  clear hb1
  go_wp2
  go_ret
  exact ⟨rfl, HB1.out⟩

set_option maxHeartbeats 32000000 in
set_option maxRecDepth 100000 in
theorem specTy_5 (g : DGrammar) (x : DRule) (y : DExpr) (hk : y.fKind = 5) (ih : ∀ a ∈ y.fArgs, SpecTy g x a) : SpecTy g x y := by
  intro lo hi c0_0 c0_1 c1_0 c1_1 c1_2 c6 a0 a1 b2 b4 b5 a6 oky hszy w hhi hs0 hs2 hs4 hs5 hs6
  have FIN : typeX g x y = ifT (y.fArgs.map (typeX g x)) := by rw [typeX_eq, combT_5 (show (nodeOfX y 0).fKind = 5 from hk)] <;> rfl
  rw [FIN, hk]
  have HO := Lib.hid (fun (W : World) (hW : Below w.heap.size w W) => spec_l12If (lo := lo) (hi := hi) (c0_0 := c0_0) (c0_1 := c0_1) (c1_0 := c1_0) (c1_1 := c1_1) (c1_2 := c1_2) (c6 := c6) (a0 := a0) (a1 := a1) (b2 := b2) (b4 := b4) (b5 := b5) (a6 := a6) g x y ih oky hszy W (Nat.le_trans hhi hW.size) (hs0.later hW hhi) (hs2.later hW hhi) (hs4.later hW hhi) (hs5.later hW hhi) (hs6.later hW hhi))
  rw [hk] at HO
  generalize ifT (y.fArgs.map (typeX g x)) = v at *
  clear FIN hk ih oky hszy hhi hs0 hs2 hs4 hs5 hs6
  have HB := Lib.hid ((((Below.refl w.heap.size w).alloc (Nat.le_refl _) (.cells #[.slice a0 g.fSymbols.length c0_0, .slice a1 g.fRules.length c0_1] 41)).alloc (by simp) (.cells #[.string x.fName, .string x.fLeft, .slice b2 x.fRight.length c1_0, .bool x.fLiteral, .slice b4 x.fEquations.length c1_1, .slice b5 x.fContributions.length c1_2] 46)).alloc (by simp <;> omega) (.cells #[.int .i64 5, .int .i64 y.fN, .int .i64 y.fPos, .int .i64 y.fType, .string y.fSymbol, .string y.fName, .slice a6 y.fArgs.length c6] 50))
  have HG0 := Lib.hid (show (((w.alloc (.cells #[.slice a0 g.fSymbols.length c0_0, .slice a1 g.fRules.length c0_1] 41)).alloc (.cells #[.string x.fName, .string x.fLeft, .slice b2 x.fRight.length c1_0, .bool x.fLiteral, .slice b4 x.fEquations.length c1_1, .slice b5 x.fContributions.length c1_2] 46)).alloc (.cells #[.int .i64 5, .int .i64 y.fN, .int .i64 y.fPos, .int .i64 y.fType, .string y.fSymbol, .string y.fName, .slice a6 y.fArgs.length c6] 50)).heap[w.heap.size]? = some (.cells #[.slice a0 g.fSymbols.length c0_0, .slice a1 g.fRules.length c0_1] 41) from blk_alloc (by simp <;> omega) (blk_alloc (by simp) (blk_new rfl)))
  have HR0 := Lib.hid (show (((w.alloc (.cells #[.slice a0 g.fSymbols.length c0_0, .slice a1 g.fRules.length c0_1] 41)).alloc (.cells #[.string x.fName, .string x.fLeft, .slice b2 x.fRight.length c1_0, .bool x.fLiteral, .slice b4 x.fEquations.length c1_1, .slice b5 x.fContributions.length c1_2] 46)).alloc (.cells #[.int .i64 5, .int .i64 y.fN, .int .i64 y.fPos, .int .i64 y.fType, .string y.fSymbol, .string y.fName, .slice a6 y.fArgs.length c6] 50)).heap[w.heap.size + 1]? = some (.cells #[.string x.fName, .string x.fLeft, .slice b2 x.fRight.length c1_0, .bool x.fLiteral, .slice b4 x.fEquations.length c1_1, .slice b5 x.fContributions.length c1_2] 46) from blk_alloc (by simp) (blk_new (by simp)))
  have HY0 := Lib.hid (show (((w.alloc (.cells #[.slice a0 g.fSymbols.length c0_0, .slice a1 g.fRules.length c0_1] 41)).alloc (.cells #[.string x.fName, .string x.fLeft, .slice b2 x.fRight.length c1_0, .bool x.fLiteral, .slice b4 x.fEquations.length c1_1, .slice b5 x.fContributions.length c1_2] 46)).alloc (.cells #[.int .i64 5, .int .i64 y.fN, .int .i64 y.fPos, .int .i64 y.fType, .string y.fSymbol, .string y.fName, .slice a6 y.fArgs.length c6] 50)).heap[w.heap.size + 2]? = some (.cells #[.int .i64 5, .int .i64 y.fN, .int .i64 y.fPos, .int .i64 y.fType, .string y.fSymbol, .string y.fName, .slice a6 y.fArgs.length c6] 50) from blk_new (by simp))
  have HSZ := Lib.hid (show (((w.alloc (.cells #[.slice a0 g.fSymbols.length c0_0, .slice a1 g.fRules.length c0_1] 41)).alloc (.cells #[.string x.fName, .string x.fLeft, .slice b2 x.fRight.length c1_0, .bool x.fLiteral, .slice b4 x.fEquations.length c1_1, .slice b5 x.fContributions.length c1_2] 46)).alloc (.cells #[.int .i64 5, .int .i64 y.fN, .int .i64 y.fPos, .int .i64 y.fType, .string y.fSymbol, .string y.fName, .slice a6 y.fArgs.length c6] 50)).heap.size = w.heap.size + 3 by simp)
  clear HG0 HR0 HY0 HSZ
  go_enter Try.func7, Try.ntmps7
  go_wp2_with fail
  refine (HO.out _ HB.out).mono ?_
  rintro e w1 ⟨rfl, hb1⟩
  have HB1 := Lib.hid (HB.out.trans (hb1.mono HB.out.size))
  clear hb1
  go_wp2
  go_ret
  exact ⟨rfl, HB1.out⟩

set_option maxHeartbeats 32000000 in
set_option maxRecDepth 100000 in
theorem specTy_3 (g : DGrammar) (x : DRule) (y : DExpr) (hk : y.fKind = 3) (okx : x.ok) (hszx : x.sz ≤ 1048576) (hzs : lsz DSymbol.sz g.fSymbols ≤ 1048576) : SpecTy g x y := by
  intro lo hi c0_0 c0_1 c1_0 c1_1 c1_2 c6 a0 a1 b2 b4 b5 a6 oky hszy w hhi hs0 hs2 hs4 hs5 hs6
  have FIN : typeX g x y = (attAt g x ⟨y.fPos, y.fName⟩).1.fType := by rw [typeX_eq, combT_3 (show (nodeOfX y 0).fKind = 3 from hk)] <;> rfl
  rw [FIN, hk]
  have okp := ((DExpr.ok_iff y).1 oky).2.2.1
  have HI := Lib.hid (fun (W : World) => spec_l1In y.fPos 0 (x.fRight.length : Int) W)
  have HA := Lib.hid (fun (W : World) (hW : Below w.heap.size w W) => spec_l12Attribute (lo := lo) (hi := hi) (n1 := g.fRules.length) (c0 := c0_0) (c1 := c0_1) (a0 := a0) (a1 := a1) g.fSymbols hzs (symbolAt x y.fPos) y.fName W (Nat.le_trans hhi hW.size) (hs0.later hW hhi))
  have HS := Lib.hid (fun (W : World) (hW : Below w.heap.size w W) => spec_SymbolAt (lo := lo) (hi := hi) (c0_0 := c1_0) (c0_1 := c1_1) (c0_2 := c1_2) x okx hszx y.fPos okp W (Nat.le_trans hhi hW.size) (hs2.later hW hhi) (hs4.later hW hhi) (hs5.later hW hhi))
  cases hb : inR y.fPos 0 x.fRight.length
  · rw [attAt_no (show inR (DOccurrence.mk y.fPos y.fName).fPos 0 x.fRight.length = false from hb)]
    show Calls _ _ _ _ fun e w' => e = .returned (.int .i64 0) ∧ _
    rw [hb] at HI
    clear FIN hk hb HA HS okp okx hszx hzs oky hszy hhi hs0 hs2 hs4 hs5 hs6
    have HB := Lib.hid ((((Below.refl w.heap.size w).alloc (Nat.le_refl _) (.cells #[.slice a0 g.fSymbols.length c0_0, .slice a1 g.fRules.length c0_1] 41)).alloc (by simp) (.cells #[.string x.fName, .string x.fLeft, .slice b2 x.fRight.length c1_0, .bool x.fLiteral, .slice b4 x.fEquations.length c1_1, .slice b5 x.fContributions.length c1_2] 46)).alloc (by simp <;> omega) (.cells #[.int .i64 3, .int .i64 y.fN, .int .i64 y.fPos, .int .i64 y.fType, .string y.fSymbol, .string y.fName, .slice a6 y.fArgs.length c6] 50))
    have HG0 := Lib.hid (show (((w.alloc (.cells #[.slice a0 g.fSymbols.length c0_0, .slice a1 g.fRules.length c0_1] 41)).alloc (.cells #[.string x.fName, .string x.fLeft, .slice b2 x.fRight.length c1_0, .bool x.fLiteral, .slice b4 x.fEquations.length c1_1, .slice b5 x.fContributions.length c1_2] 46)).alloc (.cells #[.int .i64 3, .int .i64 y.fN, .int .i64 y.fPos, .int .i64 y.fType, .string y.fSymbol, .string y.fName, .slice a6 y.fArgs.length c6] 50)).heap[w.heap.size]? = some (.cells #[.slice a0 g.fSymbols.length c0_0, .slice a1 g.fRules.length c0_1] 41) from blk_alloc (by simp <;> omega) (blk_alloc (by simp) (blk_new rfl)))
    have HR0 := Lib.hid (show (((w.alloc (.cells #[.slice a0 g.fSymbols.length c0_0, .slice a1 g.fRules.length c0_1] 41)).alloc (.cells #[.string x.fName, .string x.fLeft, .slice b2 x.fRight.length c1_0, .bool x.fLiteral, .slice b4 x.fEquations.length c1_1, .slice b5 x.fContributions.length c1_2] 46)).alloc (.cells #[.int .i64 3, .int .i64 y.fN, .int .i64 y.fPos, .int .i64 y.fType, .string y.fSymbol, .string y.fName, .slice a6 y.fArgs.length c6] 50)).heap[w.heap.size + 1]? = some (.cells #[.string x.fName, .string x.fLeft, .slice b2 x.fRight.length c1_0, .bool x.fLiteral, .slice b4 x.fEquations.length c1_1, .slice b5 x.fContributions.length c1_2] 46) from blk_alloc (by simp) (blk_new (by simp)))
    have HY0 := Lib.hid (show (((w.alloc (.cells #[.slice a0 g.fSymbols.length c0_0, .slice a1 g.fRules.length c0_1] 41)).alloc (.cells #[.string x.fName, .string x.fLeft, .slice b2 x.fRight.length c1_0, .bool x.fLiteral, .slice b4 x.fEquations.length c1_1, .slice b5 x.fContributions.length c1_2] 46)).alloc (.cells #[.int .i64 3, .int .i64 y.fN, .int .i64 y.fPos, .int .i64 y.fType, .string y.fSymbol, .string y.fName, .slice a6 y.fArgs.length c6] 50)).heap[w.heap.size + 2]? = some (.cells #[.int .i64 3, .int .i64 y.fN, .int .i64 y.fPos, .int .i64 y.fType, .string y.fSymbol, .string y.fName, .slice a6 y.fArgs.length c6] 50) from blk_new (by simp))
    have HSZ := Lib.hid (show (((w.alloc (.cells #[.slice a0 g.fSymbols.length c0_0, .slice a1 g.fRules.length c0_1] 41)).alloc (.cells #[.string x.fName, .string x.fLeft, .slice b2 x.fRight.length c1_0, .bool x.fLiteral, .slice b4 x.fEquations.length c1_1, .slice b5 x.fContributions.length c1_2] 46)).alloc (.cells #[.int .i64 3, .int .i64 y.fN, .int .i64 y.fPos, .int .i64 y.fType, .string y.fSymbol, .string y.fName, .slice a6 y.fArgs.length c6] 50)).heap.size = w.heap.size + 3 by simp)
    clear HG0 HR0 HY0 HSZ
    go_enter Try.func7, Try.ntmps7
    go_wp2_with fail
    refine (HI.out _).mono ?_
    rintro e w9 ⟨rfl, rfl⟩
    go_wp2
    go_ret
    exact ⟨rfl, HB.out⟩
  · rw [attAt_yes (show inR (DOccurrence.mk y.fPos y.fName).fPos 0 x.fRight.length = true from hb)]
    dsimp only
    rw [hb] at HI
    clear FIN hk hb okp okx hszx hzs oky hszy hhi hs0 hs2 hs4 hs5 hs6
    generalize (findAttr (symS g.fSymbols (symbolAt x y.fPos)) y.fName).1.fType = v at *
    generalize symbolAt x y.fPos = sy at *
    have HB := Lib.hid ((((Below.refl w.heap.size w).alloc (Nat.le_refl _) (.cells #[.slice a0 g.fSymbols.length c0_0, .slice a1 g.fRules.length c0_1] 41)).alloc (by simp) (.cells #[.string x.fName, .string x.fLeft, .slice b2 x.fRight.length c1_0, .bool x.fLiteral, .slice b4 x.fEquations.length c1_1, .slice b5 x.fContributions.length c1_2] 46)).alloc (by simp <;> omega) (.cells #[.int .i64 3, .int .i64 y.fN, .int .i64 y.fPos, .int .i64 y.fType, .string y.fSymbol, .string y.fName, .slice a6 y.fArgs.length c6] 50))
    have HG0 := Lib.hid (show (((w.alloc (.cells #[.slice a0 g.fSymbols.length c0_0, .slice a1 g.fRules.length c0_1] 41)).alloc (.cells #[.string x.fName, .string x.fLeft, .slice b2 x.fRight.length c1_0, .bool x.fLiteral, .slice b4 x.fEquations.length c1_1, .slice b5 x.fContributions.length c1_2] 46)).alloc (.cells #[.int .i64 3, .int .i64 y.fN, .int .i64 y.fPos, .int .i64 y.fType, .string y.fSymbol, .string y.fName, .slice a6 y.fArgs.length c6] 50)).heap[w.heap.size]? = some (.cells #[.slice a0 g.fSymbols.length c0_0, .slice a1 g.fRules.length c0_1] 41) from blk_alloc (by simp <;> omega) (blk_alloc (by simp) (blk_new rfl)))
    have HR0 := Lib.hid (show (((w.alloc (.cells #[.slice a0 g.fSymbols.length c0_0, .slice a1 g.fRules.length c0_1] 41)).alloc (.cells #[.string x.fName, .string x.fLeft, .slice b2 x.fRight.length c1_0, .bool x.fLiteral, .slice b4 x.fEquations.length c1_1, .slice b5 x.fContributions.length c1_2] 46)).alloc (.cells #[.int .i64 3, .int .i64 y.fN, .int .i64 y.fPos, .int .i64 y.fType, .string y.fSymbol, .string y.fName, .slice a6 y.fArgs.length c6] 50)).heap[w.heap.size + 1]? = some (.cells #[.string x.fName, .string x.fLeft, .slice b2 x.fRight.length c1_0, .bool x.fLiteral, .slice b4 x.fEquations.length c1_1, .slice b5 x.fContributions.length c1_2] 46) from blk_alloc (by simp) (blk_new (by simp)))
    have HY0 := Lib.hid (show (((w.alloc (.cells #[.slice a0 g.fSymbols.length c0_0, .slice a1 g.fRules.length c0_1] 41)).alloc (.cells #[.string x.fName, .string x.fLeft, .slice b2 x.fRight.length c1_0, .bool x.fLiteral, .slice b4 x.fEquations.length c1_1, .slice b5 x.fContributions.length c1_2] 46)).alloc (.cells #[.int .i64 3, .int .i64 y.fN, .int .i64 y.fPos, .int .i64 y.fType, .string y.fSymbol, .string y.fName, .slice a6 y.fArgs.length c6] 50)).heap[w.heap.size + 2]? = some (.cells #[.int .i64 3, .int .i64 y.fN, .int .i64 y.fPos, .int .i64 y.fType, .string y.fSymbol, .string y.fName, .slice a6 y.fArgs.length c6] 50) from blk_new (by simp))
    have HSZ := Lib.hid (show (((w.alloc (.cells #[.slice a0 g.fSymbols.length c0_0, .slice a1 g.fRules.length c0_1] 41)).alloc (.cells #[.string x.fName, .string x.fLeft, .slice b2 x.fRight.length c1_0, .bool x.fLiteral, .slice b4 x.fEquations.length c1_1, .slice b5 x.fContributions.length c1_2] 46)).alloc (.cells #[.int .i64 3, .int .i64 y.fN, .int .i64 y.fPos, .int .i64 y.fType, .string y.fSymbol, .string y.fName, .slice a6 y.fArgs.length c6] 50)).heap.size = w.heap.size + 3 by simp)
    obtain ⟨w0, hw0⟩ : ∃ W : World, W = (((w.alloc (.cells #[.slice a0 g.fSymbols.length c0_0, .slice a1 g.fRules.length c0_1] 41)).alloc (.cells #[.string x.fName, .string x.fLeft, .slice b2 x.fRight.length c1_0, .bool x.fLiteral, .slice b4 x.fEquations.length c1_1, .slice b5 x.fContributions.length c1_2] 46)).alloc (.cells #[.int .i64 3, .int .i64 y.fN, .int .i64 y.fPos, .int .i64 y.fType, .string y.fSymbol, .string y.fName, .slice a6 y.fArgs.length c6] 50)) := ⟨_, rfl⟩
    rw [← hw0] at HB HG0 HR0 HY0 HSZ
    have HWE := Lib.hid hw0
    clear hw0
    have ltg : w.heap.size < w0.heap.size := by have := HSZ.out; omega
    have ltr : w.heap.size + 1 < w0.heap.size := by have := HSZ.out; omega
    have lty : w.heap.size + 2 < w0.heap.size := by have := HSZ.out; omega
    have KG := Lib.hid (show ∀ W : World, (∀ p : Addr, p.block < w0.heap.size → W.cell? p = w0.cell? p) → W.cell? ⟨w.heap.size, 0, none⟩ = some (.slice a0 g.fSymbols.length c0_0) ∧ W.cell? ⟨w.heap.size, 1, none⟩ = some (.slice a1 g.fRules.length c0_1) from fun W h => ⟨(h _ ltg).trans (pblk_cell HG0.out rfl), (h _ ltg).trans (pblk_cell HG0.out rfl)⟩)
    have KR := Lib.hid (show ∀ W : World, (∀ p : Addr, p.block < w0.heap.size → W.cell? p = w0.cell? p) → W.cell? ⟨w.heap.size + 1, 0, none⟩ = some (.string x.fName) ∧ W.cell? ⟨w.heap.size + 1, 1, none⟩ = some (.string x.fLeft) ∧ W.cell? ⟨w.heap.size + 1, 2, none⟩ = some (.slice b2 x.fRight.length c1_0) ∧ W.cell? ⟨w.heap.size + 1, 3, none⟩ = some (.bool x.fLiteral) ∧ W.cell? ⟨w.heap.size + 1, 4, none⟩ = some (.slice b4 x.fEquations.length c1_1) ∧ W.cell? ⟨w.heap.size + 1, 5, none⟩ = some (.slice b5 x.fContributions.length c1_2) from fun W h => ⟨(h _ ltr).trans (pblk_cell HR0.out rfl), (h _ ltr).trans (pblk_cell HR0.out rfl), (h _ ltr).trans (pblk_cell HR0.out rfl), (h _ ltr).trans (pblk_cell HR0.out rfl), (h _ ltr).trans (pblk_cell HR0.out rfl), (h _ ltr).trans (pblk_cell HR0.out rfl)⟩)
    have KY2 := Lib.hid (show ∀ W : World, (∀ p : Addr, p.block < w0.heap.size → W.cell? p = w0.cell? p) → W.cell? ⟨w.heap.size + 2, 2, none⟩ = some (.int .i64 y.fPos) from fun W h => (h _ lty).trans (pblk_cell HY0.out rfl))
    have KY5 := Lib.hid (show ∀ W : World, (∀ p : Addr, p.block < w0.heap.size → W.cell? p = w0.cell? p) → W.cell? ⟨w.heap.size + 2, 5, none⟩ = some (.string y.fName) from fun W h => (h _ lty).trans (pblk_cell HY0.out rfl))
    clear ltg ltr lty HG0 HR0 HY0
    go_enter Try.func7, Try.ntmps7
    go_wp2_with fail
    refine (HI.out _).mono ?_
    rintro e w9 ⟨rfl, rfl⟩
    go_wp2_with fail
    rw [← HWE.out]
    clear HWE
    refine wp_region_freeK [([], .none, []), ([], .none, []), ([], .none, []), ([2], .none, []), ([1, 3], .none, []), ([], .none, []), ([5], .none, []), ([0, 4, 6], .none, []), ([7], .none, [])] [0, 1, 2, 3, 4, 5, 6, 7, 8] [] (fun _ => False) (fun _ => True) (fun _ => 0) (fun jq9 V L H wx => match jq9 with | 0 => V 0 = .agg #[.slice a0 g.fSymbols.length c0_0, .slice a1 g.fRules.length c0_1] | 1 => V 1 = .agg #[.string x.fName, .string x.fLeft, .slice b2 x.fRight.length c1_0, .bool x.fLiteral, .slice b4 x.fEquations.length c1_1, .slice b5 x.fContributions.length c1_2] | 2 => V 2 = .pointer (some ⟨w.heap.size + 2, 2, none⟩) | 3 => V 3 = .int .i64 y.fPos | 4 => V 4 = .string sy | 5 => V 5 = .pointer (some ⟨w.heap.size + 2, 5, none⟩) | 6 => V 6 = .string y.fName | 7 => V 7 = .int .i64 v | 8 => V 8 = .int .i64 v | _ => True) (by kernel_rfl) (by kernel_rfl) ?obs (fun _ h => h.elim) trivial (fun _ _ _ _ _ => trivial) ?loc ?lasts ?walk
    case obs =>
      trivial
    case loc =>
      intro k V V' L H wx h0 h1 hG
      match k with
      | 0 =>
        try dsimp only at hG ⊢
        rw [← h0]
        exact hG
      | 1 =>
        try dsimp only at hG ⊢
        rw [← h0]
        exact hG
      | 2 =>
        try dsimp only at hG ⊢
        rw [← h0]
        exact hG
      | 3 =>
        try dsimp only at hG ⊢
        rw [← h0]
        exact hG
      | 4 =>
        try dsimp only at hG ⊢
        rw [← h0]
        exact hG
      | 5 =>
        try dsimp only at hG ⊢
        rw [← h0]
        exact hG
      | 6 =>
        try dsimp only at hG ⊢
        rw [← h0]
        exact hG
      | 7 =>
        try dsimp only at hG ⊢
        rw [← h0]
        exact hG
      | 8 =>
        try dsimp only at hG ⊢
        rw [← h0]
        exact hG
      | n + 9 => trivial
    case lasts =>
      intro i hi V L H wx wy hB hH hk
      match i, hi with
      | 0, _ => exact fun h => h
      | 1, _ => exact fun h => h
      | 2, _ => exact fun h => h
      | 3, _ => exact fun h => h
      | 4, _ => exact fun h => h
      | 5, _ => exact fun h => h
      | 6, _ => exact fun h => h
      | 7, _ => exact fun h => h
      | 8, _ => exact fun h => h
      | n + 9, hn => exact absurd hn (by simp)
    case walk =>
      simp (maxSteps := 4000000) only [freeK, Nat.reduceAdd, Act.put, List.setIfInBounds_toArray, List.set_cons_succ, List.set_cons_zero]
      refine ⟨?_, ?_, ?_, ?_, ?_, ?_, ?_, ?_, ?_, ?_⟩
      · intro V L H wq hw hk hj hd
        clear hd
        obtain ⟨g0, g1⟩ := KG.out wq (fun p hp => hk.cell (p := p) ⟨hp, fun h => h, trivial⟩ hp)
        go_wp2_with fail
        exact freePost _ rfl ⟨⟨WritesF.refl _ _, hj⟩, upd_self⟩
      · intro V L H wq hw hk hj hd
        clear hd
        obtain ⟨r0, r1, r2, r3, r4, r5⟩ := KR.out wq (fun p hp => hk.cell (p := p) ⟨hp, fun h => h, trivial⟩ hp)
        go_wp2_with fail
        exact freePost _ rfl ⟨⟨WritesF.refl _ _, hj⟩, upd_self⟩
      · intro V L H wq hw hk hj hd
        clear hd
        go_wp2_with fail
        exact freePost _ rfl ⟨⟨WritesF.refl _ _, hj⟩, upd_self⟩
      · intro V L H wq hw hk hj hd
        obtain ⟨⟨hL2, hM2, hH2, hv2⟩, -⟩ := hd
        rw [hv2]
        have HV2 := Lib.hid hv2
        clear hv2
        have y2c := KY2.out wq (fun p hp => hk.cell (p := p) ⟨hp, fun h => h, trivial⟩ hp)
        go_wp2_with fail
        exact freePost _ rfl ⟨⟨WritesF.refl _ _, hj⟩, upd_self⟩
      · intro V L H wq hw hk hj hd
        obtain ⟨⟨hL1, hM1, hH1, hv1⟩, ⟨hL3, hM3, hH3, hv3⟩, -⟩ := hd
        rw [hv1, hv3]
        have HV1 := Lib.hid hv1
        have HV3 := Lib.hid hv3
        clear hv1 hv3
        go_wp2_with fail
        refine (HS.out wq (HB.out.trans ((fa_noneK hw).mono HB.out.size))).mono ?_
        rintro e w2 ⟨rfl, hb2⟩
        go_wp2_with fail
        exact freePost _ rfl ⟨⟨(WritesF.refl _ _).later hb2, trivial⟩, upd_self⟩
      · intro V L H wq hw hk hj hd
        clear hd
        go_wp2_with fail
        exact freePost _ rfl ⟨⟨WritesF.refl _ _, hj⟩, upd_self⟩
      · intro V L H wq hw hk hj hd
        obtain ⟨⟨hL5, hM5, hH5, hv5⟩, -⟩ := hd
        rw [hv5]
        have HV5 := Lib.hid hv5
        clear hv5
        have y5c := KY5.out wq (fun p hp => hk.cell (p := p) ⟨hp, fun h => h, trivial⟩ hp)
        go_wp2_with fail
        exact freePost _ rfl ⟨⟨WritesF.refl _ _, hj⟩, upd_self⟩
      · intro V L H wq hw hk hj hd
        obtain ⟨⟨hL0, hM0, hH0, hv0⟩, ⟨hL4, hM4, hH4, hv4⟩, ⟨hL6, hM6, hH6, hv6⟩, -⟩ := hd
        rw [hv0, hv4, hv6]
        have HV0 := Lib.hid hv0
        have HV4 := Lib.hid hv4
        have HV6 := Lib.hid hv6
        clear hv0 hv4 hv6
        go_wp2_with fail
        refine (HA.out wq (HB.out.trans ((fa_noneK hw).mono HB.out.size))).mono ?_
        rintro e w2 ⟨rfl, hb2⟩
        go_wp2_with fail
        exact freePost _ rfl ⟨⟨(WritesF.refl _ _).later hb2, trivial⟩, upd_self⟩
      · intro V L H wq hw hk hj hd
        obtain ⟨⟨hL7, hM7, hH7, hv7⟩, -⟩ := hd
        rw [hv7]
        have HV7 := Lib.hid hv7
        clear hv7
        go_wp2_with fail
        exact freePost _ rfl ⟨⟨WritesF.refl _ _, hj⟩, upd_self⟩
      · intro V L H wq hw hj hd hap hdead
        obtain ⟨⟨hL0, hM0, hH0, hv0⟩, ⟨hL1, hM1, hH1, hv1⟩, ⟨hL2, hM2, hH2, hv2⟩, ⟨hL3, hM3, hH3, hv3⟩, ⟨hL4, hM4, hH4, hv4⟩, ⟨hL5, hM5, hH5, hv5⟩, ⟨hL6, hM6, hH6, hv6⟩, ⟨hL7, hM7, hH7, hv7⟩, ⟨hL8, hM8, hH8, hv8⟩, -⟩ := hd
        rw [hv0, hv1, hv2, hv3, hv4, hv5, hv6, hv7, hv8]
        clear hv0 hv1 hv2 hv3 hv4 hv5 hv6 hv7 hv8
        have HBN := Lib.hid (HB.out.trans ((fa_noneK hw).mono HB.out.size))
        clear hw hj hap hdead
        go_wp2
        go_ret
        exact ⟨rfl, HBN.out⟩

set_option maxHeartbeats 32000000 in
set_option maxRecDepth 100000 in
theorem specTy_8 (g : DGrammar) (x : DRule) (y : DExpr) (hk : y.fKind = 8) (ih : ∀ a ∈ y.fArgs, SpecTy g x a) (hzs : lsz DSymbol.sz g.fSymbols ≤ 1048576) : SpecTy g x y := by
  intro lo hi c0_0 c0_1 c1_0 c1_1 c1_2 c6 a0 a1 b2 b4 b5 a6 oky hszy w hhi hs0 hs2 hs4 hs5 hs6
  have FIN : typeX g x y = remT g y.fSymbol y.fName (y.fArgs.map (typeX g x)) := by rw [typeX_eq, combT_8 (show (nodeOfX y 0).fKind = 8 from hk)] <;> rfl
  rw [FIN, hk]
  have HA := Lib.hid (fun (W : World) (hW : Below w.heap.size w W) => spec_l12Attribute (lo := lo) (hi := hi) (n1 := g.fRules.length) (c0 := c0_0) (c1 := c0_1) (a0 := a0) (a1 := a1) g.fSymbols hzs y.fSymbol y.fName W (Nat.le_trans hhi hW.size) (hs0.later hW hhi))
  clear FIN hk
  by_cases hn : y.fArgs.length = 1
  · rw [remT_map hn]
    have HHI := Lib.hid hhi
    have hszx := hszy
    rw [DExpr.sz_eq] at hszx
    have HL := Lib.hid (fun (W : World) (hW : Below w.heap.size w W) => (show Sl lo hi W 2 g.fSymbols.length (fun k => DSymbol.ct (g.fSymbols.getD k default)) a0 ∧ Sl lo hi W 1 x.fRight.length (fun k => ictS (x.fRight.getD k default)) b2 ∧ Sl lo hi W 9 x.fEquations.length (fun k => DEquation.ct (x.fEquations.getD k default)) b4 ∧ Sl lo hi W 16 x.fContributions.length (fun k => DContribution.ct (x.fContributions.getD k default)) b5 from ⟨hs0.later hW hhi, hs2.later hW hhi, hs4.later hW hhi, hs5.later hW hhi⟩))
    have hok := ((DExpr.ok_iff y).1 oky).2.2.2.2.2.2.2
    have HNL := Lib.hid hn
    have IH := Lib.hid ih
    clear ih hs0 hs2 hs4 hs5 oky hszy
    obtain ⟨rb, ro, rfl, _, hrb, _⟩ := hs6.at 0 (by omega)
    have HAT := Lib.hid (show ∀ k, k < y.fArgs.length → _ from fun k hk => by
      obtain ⟨b', o', e', _, _, hc⟩ := hs6.at k hk
      simp only [Option.some.injEq, Addr.mk.injEq, and_true] at e'
      obtain ⟨rfl, rfl⟩ := e'
      exact hc)
    have HRB := Lib.hid (show rb < w.heap.size from Nat.lt_of_lt_of_le hrb hhi)
    have hk0 : 0 < y.fArgs.length := by omega
    have ha0 := HAT.out 0 hk0
    rw [ctE_at hk0] at ha0
    obtain ⟨a0_, c0_, A00, A01, A02, A03, A04, A05, A06, S0_⟩ := DExpr.open ha0
    have Z0 := szle_at (f := DExpr.sz) y.fArgs 0 hk0
    have HM0 := Lib.hid (fun (W : World) (hW : Below w.heap.size w W) => IH.out _ (getD_memT y.fArgs 0 hk0) (lo := lo) (hi := hi) (c0_0 := c0_0) (c0_1 := c0_1) (c1_0 := c1_0) (c1_1 := c1_1) (c1_2 := c1_2) (c6 := c0_) (a0 := a0) (a1 := a1) (hok _ (getD_memT y.fArgs 0 hk0)) (by omega) W (Nat.le_trans HHI.out hW.size) (HL.out W hW).1 (HL.out W hW).2.1 (HL.out W hW).2.2.1 (HL.out W hW).2.2.2 (S0_.later hW HHI.out))
    clear hs6 HAT IH hok HL
    have C00 := Lib.hid (show w.cell? ⟨rb, ro, none⟩ = some (.int .i64 (y.fArgs.getD 0 default).fKind) from A00)
    have C01 := Lib.hid (show w.cell? ⟨rb, ro + 1, none⟩ = some (.int .i64 (y.fArgs.getD 0 default).fN) from A01)
    have C02 := Lib.hid (show w.cell? ⟨rb, ro + 2, none⟩ = some (.int .i64 (y.fArgs.getD 0 default).fPos) from A02)
    have C03 := Lib.hid (show w.cell? ⟨rb, ro + 3, none⟩ = some (.int .i64 (y.fArgs.getD 0 default).fType) from A03)
    have C04 := Lib.hid (show w.cell? ⟨rb, ro + 4, none⟩ = some (.string (y.fArgs.getD 0 default).fSymbol) from A04)
    have C05 := Lib.hid (show w.cell? ⟨rb, ro + 5, none⟩ = some (.string (y.fArgs.getD 0 default).fName) from A05)
    have C06 := Lib.hid (show w.cell? ⟨rb, ro + 6, none⟩ = some (.slice a0_ (y.fArgs.getD 0 default).fArgs.length c0_) from A06)
    clear ha0 A00 A01 A02 A03 A04 A05 A06 S0_ Z0 hk0
    generalize y.fArgs.getD 0 default = y0 at *
    generalize typeX g x y0 = z0 at *
    rw [hn]
    clear hszx hrb hn HNL
    generalize (findAttr (symS g.fSymbols y.fSymbol) y.fName).1.fType = v at *
    clear hzs
    have HB := Lib.hid ((((Below.refl w.heap.size w).alloc (Nat.le_refl _) (.cells #[.slice a0 g.fSymbols.length c0_0, .slice a1 g.fRules.length c0_1] 41)).alloc (by simp) (.cells #[.string x.fName, .string x.fLeft, .slice b2 x.fRight.length c1_0, .bool x.fLiteral, .slice b4 x.fEquations.length c1_1, .slice b5 x.fContributions.length c1_2] 46)).alloc (by simp <;> omega) (.cells #[.int .i64 8, .int .i64 y.fN, .int .i64 y.fPos, .int .i64 y.fType, .string y.fSymbol, .string y.fName, .slice (some ⟨rb, ro, none⟩) 1 c6] 50))
    have HG0 := Lib.hid (show (((w.alloc (.cells #[.slice a0 g.fSymbols.length c0_0, .slice a1 g.fRules.length c0_1] 41)).alloc (.cells #[.string x.fName, .string x.fLeft, .slice b2 x.fRight.length c1_0, .bool x.fLiteral, .slice b4 x.fEquations.length c1_1, .slice b5 x.fContributions.length c1_2] 46)).alloc (.cells #[.int .i64 8, .int .i64 y.fN, .int .i64 y.fPos, .int .i64 y.fType, .string y.fSymbol, .string y.fName, .slice (some ⟨rb, ro, none⟩) 1 c6] 50)).heap[w.heap.size]? = some (.cells #[.slice a0 g.fSymbols.length c0_0, .slice a1 g.fRules.length c0_1] 41) from blk_alloc (by simp <;> omega) (blk_alloc (by simp) (blk_new rfl)))
    have HR0 := Lib.hid (show (((w.alloc (.cells #[.slice a0 g.fSymbols.length c0_0, .slice a1 g.fRules.length c0_1] 41)).alloc (.cells #[.string x.fName, .string x.fLeft, .slice b2 x.fRight.length c1_0, .bool x.fLiteral, .slice b4 x.fEquations.length c1_1, .slice b5 x.fContributions.length c1_2] 46)).alloc (.cells #[.int .i64 8, .int .i64 y.fN, .int .i64 y.fPos, .int .i64 y.fType, .string y.fSymbol, .string y.fName, .slice (some ⟨rb, ro, none⟩) 1 c6] 50)).heap[w.heap.size + 1]? = some (.cells #[.string x.fName, .string x.fLeft, .slice b2 x.fRight.length c1_0, .bool x.fLiteral, .slice b4 x.fEquations.length c1_1, .slice b5 x.fContributions.length c1_2] 46) from blk_alloc (by simp) (blk_new (by simp)))
    have HY0 := Lib.hid (show (((w.alloc (.cells #[.slice a0 g.fSymbols.length c0_0, .slice a1 g.fRules.length c0_1] 41)).alloc (.cells #[.string x.fName, .string x.fLeft, .slice b2 x.fRight.length c1_0, .bool x.fLiteral, .slice b4 x.fEquations.length c1_1, .slice b5 x.fContributions.length c1_2] 46)).alloc (.cells #[.int .i64 8, .int .i64 y.fN, .int .i64 y.fPos, .int .i64 y.fType, .string y.fSymbol, .string y.fName, .slice (some ⟨rb, ro, none⟩) 1 c6] 50)).heap[w.heap.size + 2]? = some (.cells #[.int .i64 8, .int .i64 y.fN, .int .i64 y.fPos, .int .i64 y.fType, .string y.fSymbol, .string y.fName, .slice (some ⟨rb, ro, none⟩) 1 c6] 50) from blk_new (by simp))
    have HSZ := Lib.hid (show (((w.alloc (.cells #[.slice a0 g.fSymbols.length c0_0, .slice a1 g.fRules.length c0_1] 41)).alloc (.cells #[.string x.fName, .string x.fLeft, .slice b2 x.fRight.length c1_0, .bool x.fLiteral, .slice b4 x.fEquations.length c1_1, .slice b5 x.fContributions.length c1_2] 46)).alloc (.cells #[.int .i64 8, .int .i64 y.fN, .int .i64 y.fPos, .int .i64 y.fType, .string y.fSymbol, .string y.fName, .slice (some ⟨rb, ro, none⟩) 1 c6] 50)).heap.size = w.heap.size + 3 by simp)
    obtain ⟨w0, hw0⟩ : ∃ W : World, W = (((w.alloc (.cells #[.slice a0 g.fSymbols.length c0_0, .slice a1 g.fRules.length c0_1] 41)).alloc (.cells #[.string x.fName, .string x.fLeft, .slice b2 x.fRight.length c1_0, .bool x.fLiteral, .slice b4 x.fEquations.length c1_1, .slice b5 x.fContributions.length c1_2] 46)).alloc (.cells #[.int .i64 8, .int .i64 y.fN, .int .i64 y.fPos, .int .i64 y.fType, .string y.fSymbol, .string y.fName, .slice (some ⟨rb, ro, none⟩) 1 c6] 50)) := ⟨_, rfl⟩
    rw [← hw0] at HB HG0 HR0 HY0 HSZ
    have HWE := Lib.hid hw0
    clear hw0
    have ltg : w.heap.size < w0.heap.size := by have := HSZ.out; omega
    have ltr : w.heap.size + 1 < w0.heap.size := by have := HSZ.out; omega
    have lty : w.heap.size + 2 < w0.heap.size := by have := HSZ.out; omega
    have lta : rb < w0.heap.size := Nat.lt_of_lt_of_le HRB.out HB.out.size
    have KG := Lib.hid (show ∀ W : World, (∀ p : Addr, p.block < w0.heap.size → W.cell? p = w0.cell? p) → W.cell? ⟨w.heap.size, 0, none⟩ = some (.slice a0 g.fSymbols.length c0_0) ∧ W.cell? ⟨w.heap.size, 1, none⟩ = some (.slice a1 g.fRules.length c0_1) from fun W h => ⟨(h _ ltg).trans (pblk_cell HG0.out rfl), (h _ ltg).trans (pblk_cell HG0.out rfl)⟩)
    have KR := Lib.hid (show ∀ W : World, (∀ p : Addr, p.block < w0.heap.size → W.cell? p = w0.cell? p) → W.cell? ⟨w.heap.size + 1, 0, none⟩ = some (.string x.fName) ∧ W.cell? ⟨w.heap.size + 1, 1, none⟩ = some (.string x.fLeft) ∧ W.cell? ⟨w.heap.size + 1, 2, none⟩ = some (.slice b2 x.fRight.length c1_0) ∧ W.cell? ⟨w.heap.size + 1, 3, none⟩ = some (.bool x.fLiteral) ∧ W.cell? ⟨w.heap.size + 1, 4, none⟩ = some (.slice b4 x.fEquations.length c1_1) ∧ W.cell? ⟨w.heap.size + 1, 5, none⟩ = some (.slice b5 x.fContributions.length c1_2) from fun W h => ⟨(h _ ltr).trans (pblk_cell HR0.out rfl), (h _ ltr).trans (pblk_cell HR0.out rfl), (h _ ltr).trans (pblk_cell HR0.out rfl), (h _ ltr).trans (pblk_cell HR0.out rfl), (h _ ltr).trans (pblk_cell HR0.out rfl), (h _ ltr).trans (pblk_cell HR0.out rfl)⟩)
    have KY4 := Lib.hid (show ∀ W : World, (∀ p : Addr, p.block < w0.heap.size → W.cell? p = w0.cell? p) → W.cell? ⟨w.heap.size + 2, 4, none⟩ = some (.string y.fSymbol) from fun W h => (h _ lty).trans (pblk_cell HY0.out rfl))
    have KY5 := Lib.hid (show ∀ W : World, (∀ p : Addr, p.block < w0.heap.size → W.cell? p = w0.cell? p) → W.cell? ⟨w.heap.size + 2, 5, none⟩ = some (.string y.fName) from fun W h => (h _ lty).trans (pblk_cell HY0.out rfl))
    have KY6 := Lib.hid (show ∀ W : World, (∀ p : Addr, p.block < w0.heap.size → W.cell? p = w0.cell? p) → W.cell? ⟨w.heap.size + 2, 6, none⟩ = some (.slice (some ⟨rb, ro, none⟩) 1 c6) from fun W h => (h _ lty).trans (pblk_cell HY0.out rfl))
    have KA0 := Lib.hid (show ∀ W : World, (∀ p : Addr, p.block < w0.heap.size → W.cell? p = w0.cell? p) → W.cell? ⟨rb, ro, none⟩ = some (.int .i64 y0.fKind) ∧ W.cell? ⟨rb, ro + 1, none⟩ = some (.int .i64 y0.fN) ∧ W.cell? ⟨rb, ro + 2, none⟩ = some (.int .i64 y0.fPos) ∧ W.cell? ⟨rb, ro + 3, none⟩ = some (.int .i64 y0.fType) ∧ W.cell? ⟨rb, ro + 4, none⟩ = some (.string y0.fSymbol) ∧ W.cell? ⟨rb, ro + 5, none⟩ = some (.string y0.fName) ∧ W.cell? ⟨rb, ro + 6, none⟩ = some (.slice a0_ y0.fArgs.length c0_) from fun W h => ⟨(h _ lta).trans ((HB.out.cell (p := ⟨rb, ro, none⟩) HRB.out).trans C00.out), (h _ lta).trans ((HB.out.cell (p := ⟨rb, ro + 1, none⟩) HRB.out).trans C01.out), (h _ lta).trans ((HB.out.cell (p := ⟨rb, ro + 2, none⟩) HRB.out).trans C02.out), (h _ lta).trans ((HB.out.cell (p := ⟨rb, ro + 3, none⟩) HRB.out).trans C03.out), (h _ lta).trans ((HB.out.cell (p := ⟨rb, ro + 4, none⟩) HRB.out).trans C04.out), (h _ lta).trans ((HB.out.cell (p := ⟨rb, ro + 5, none⟩) HRB.out).trans C05.out), (h _ lta).trans ((HB.out.cell (p := ⟨rb, ro + 6, none⟩) HRB.out).trans C06.out)⟩)
    clear ltg ltr lty lta HG0 HR0 HY0 C00 C01 C02 C03 C04 C05 C06
    by_cases h0 : z0 = 4
    · have e0 : (z0 == 4) = true := beq_iff_eq.2 h0
      rw [if_neg (by simp [h0])]
      clear h0
      go_enter Try.func7, Try.ntmps7
      go_wp2_with fail
      rw [← HWE.out]
      clear HWE
      refine wp_region_freeK [([], .none, []), ([0], .none, []), ([1], .none, []), ([2], .none, []), ([3], .none, []), ([4], .none, []), ([4], .none, []), ([4], .none, []), ([4, 7], .none, []), ([4, 8], .none, []), ([4, 9], .none, []), ([4, 5, 6, 10], .none, []), ([4, 11], .none, []), ([4, 12], .none, [])] [0, 1, 2, 3, 4, 5, 6, 7, 8, 9, 10, 11, 12, 13] [] (fun _ => False) (fun _ => True) (fun _ => 0) (fun jq9 V L H wx => match jq9 with | 0 => V 0 = .pointer (some ⟨w.heap.size + 2, 6, none⟩) | 1 => V 1 = .slice (some ⟨rb, ro, none⟩) 1 c6 | 2 => V 2 = .int .i64 1 | 3 => V 3 = .bool true | 4 => V 4 = .bool true | 5 => V 5 = .agg #[.slice a0 g.fSymbols.length c0_0, .slice a1 g.fRules.length c0_1] | 6 => V 6 = .agg #[.string x.fName, .string x.fLeft, .slice b2 x.fRight.length c1_0, .bool x.fLiteral, .slice b4 x.fEquations.length c1_1, .slice b5 x.fContributions.length c1_2] | 7 => V 7 = .pointer (some ⟨w.heap.size + 2, 6, none⟩) | 8 => V 8 = .slice (some ⟨rb, ro, none⟩) 1 c6 | 9 => V 9 = .pointer (some ⟨rb, ro, none⟩) | 10 => V 10 = .agg #[.int .i64 y0.fKind, .int .i64 y0.fN, .int .i64 y0.fPos, .int .i64 y0.fType, .string y0.fSymbol, .string y0.fName, .slice a0_ y0.fArgs.length c0_] | 11 => V 11 = .int .i64 z0 | 12 => V 12 = .bool true | 13 => V 13 = .bool true | _ => True) (by kernel_rfl) (by kernel_rfl) ?obs (fun _ h => h.elim) trivial (fun _ _ _ _ _ => trivial) ?loc ?lasts ?walk
      case obs =>
        trivial
      case loc =>
        intro k V V' L H wx h0 h1 hG
        match k with
        | 0 =>
          try dsimp only at hG ⊢
          rw [← h0]
          exact hG
        | 1 =>
          try dsimp only at hG ⊢
          rw [← h0]
          exact hG
        | 2 =>
          try dsimp only at hG ⊢
          rw [← h0]
          exact hG
        | 3 =>
          try dsimp only at hG ⊢
          rw [← h0]
          exact hG
        | 4 =>
          try dsimp only at hG ⊢
          rw [← h0]
          exact hG
        | 5 =>
          try dsimp only at hG ⊢
          rw [← h0]
          exact hG
        | 6 =>
          try dsimp only at hG ⊢
          rw [← h0]
          exact hG
        | 7 =>
          try dsimp only at hG ⊢
          rw [← h0]
          exact hG
        | 8 =>
          try dsimp only at hG ⊢
          rw [← h0]
          exact hG
        | 9 =>
          try dsimp only at hG ⊢
          rw [← h0]
          exact hG
        | 10 =>
          try dsimp only at hG ⊢
          rw [← h0]
          exact hG
        | 11 =>
          try dsimp only at hG ⊢
          rw [← h0]
          exact hG
        | 12 =>
          try dsimp only at hG ⊢
          rw [← h0]
          exact hG
        | 13 =>
          try dsimp only at hG ⊢
          rw [← h0]
          exact hG
        | n + 14 => trivial
      case lasts =>
        intro i hi V L H wx wy hB hH hk
        match i, hi with
        | 0, _ => exact fun h => h
        | 1, _ => exact fun h => h
        | 2, _ => exact fun h => h
        | 3, _ => exact fun h => h
        | 4, _ => exact fun h => h
        | 5, _ => exact fun h => h
        | 6, _ => exact fun h => h
        | 7, _ => exact fun h => h
        | 8, _ => exact fun h => h
        | 9, _ => exact fun h => h
        | 10, _ => exact fun h => h
        | 11, _ => exact fun h => h
        | 12, _ => exact fun h => h
        | 13, _ => exact fun h => h
        | n + 14, hn => exact absurd hn (by simp)
      case walk =>
        simp (maxSteps := 4000000) only [freeK, Nat.reduceAdd, Act.put, List.setIfInBounds_toArray, List.set_cons_succ, List.set_cons_zero]
        refine ⟨?_, ?_, ?_, ?_, ?_, ?_, ?_, ?_, ?_, ?_, ?_, ?_, ?_, ?_, ?_⟩
        · intro V L H wq hw hk hj hd
          clear hd
          go_wp2_with fail
          exact freePost _ rfl ⟨⟨WritesF.refl _ _, hj⟩, upd_self⟩
        · intro V L H wq hw hk hj hd
          obtain ⟨⟨hL0, hM0, hH0, hv0⟩, -⟩ := hd
          rw [hv0]
          have HV0 := Lib.hid hv0
          clear hv0
          have y6c := KY6.out wq (fun p hp => hk.cell (p := p) ⟨hp, fun h => h, trivial⟩ hp)
          go_wp2_with fail
          exact freePost _ rfl ⟨⟨WritesF.refl _ _, hj⟩, upd_self⟩
        · intro V L H wq hw hk hj hd
          obtain ⟨⟨hL1, hM1, hH1, hv1⟩, -⟩ := hd
          rw [hv1]
          have HV1 := Lib.hid hv1
          clear hv1
          go_wp2_with fail
          exact freePost _ rfl ⟨⟨WritesF.refl _ _, hj⟩, upd_self⟩
        · intro V L H wq hw hk hj hd
          obtain ⟨⟨hL2, hM2, hH2, hv2⟩, -⟩ := hd
          rw [hv2]
          have HV2 := Lib.hid hv2
          clear hv2
          go_wp2_with fail
          exact freePost _ rfl ⟨⟨WritesF.refl _ _, hj⟩, upd_self⟩
        · intro V L H wq hw hk hj hd
          obtain ⟨⟨hL3, hM3, hH3, hv3⟩, -⟩ := hd
          rw [hv3]
          have HV3 := Lib.hid hv3
          clear hv3
          go_wp2_with fail
          exact freePost _ rfl ⟨⟨WritesF.refl _ _, hj⟩, upd_self⟩
        · intro V L H wq hw hk hj hd
          obtain ⟨⟨hL4, hM4, hH4, hv4⟩, -⟩ := hd
          rw [hv4]
          have HV4 := Lib.hid hv4
          clear hv4
          obtain ⟨g0, g1⟩ := KG.out wq (fun p hp => hk.cell (p := p) ⟨hp, fun h => h, trivial⟩ hp)
          go_wp2_with fail
          exact freePost _ rfl ⟨⟨WritesF.refl _ _, hj⟩, upd_self⟩
        · intro V L H wq hw hk hj hd
          obtain ⟨⟨hL4, hM4, hH4, hv4⟩, -⟩ := hd
          rw [hv4]
          have HV4 := Lib.hid hv4
          clear hv4
          obtain ⟨r0, r1, r2, r3, r4, r5⟩ := KR.out wq (fun p hp => hk.cell (p := p) ⟨hp, fun h => h, trivial⟩ hp)
          go_wp2_with fail
          exact freePost _ rfl ⟨⟨WritesF.refl _ _, hj⟩, upd_self⟩
        · intro V L H wq hw hk hj hd
          obtain ⟨⟨hL4, hM4, hH4, hv4⟩, -⟩ := hd
          rw [hv4]
          have HV4 := Lib.hid hv4
          clear hv4
          go_wp2_with fail
          exact freePost _ rfl ⟨⟨WritesF.refl _ _, hj⟩, upd_self⟩
        · intro V L H wq hw hk hj hd
          obtain ⟨⟨hL4, hM4, hH4, hv4⟩, ⟨hL7, hM7, hH7, hv7⟩, -⟩ := hd
          rw [hv4, hv7]
          have HV4 := Lib.hid hv4
          have HV7 := Lib.hid hv7
          clear hv4 hv7
          have y6c := KY6.out wq (fun p hp => hk.cell (p := p) ⟨hp, fun h => h, trivial⟩ hp)
          go_wp2_with fail
          exact freePost _ rfl ⟨⟨WritesF.refl _ _, hj⟩, upd_self⟩
        · intro V L H wq hw hk hj hd
          obtain ⟨⟨hL4, hM4, hH4, hv4⟩, ⟨hL8, hM8, hH8, hv8⟩, -⟩ := hd
          rw [hv4, hv8]
          have HV4 := Lib.hid hv4
          have HV8 := Lib.hid hv8
          clear hv4 hv8
          go_wp2_with fail
          exact freePost _ rfl ⟨⟨WritesF.refl _ _, hj⟩, upd_self⟩
        · intro V L H wq hw hk hj hd
          obtain ⟨⟨hL4, hM4, hH4, hv4⟩, ⟨hL9, hM9, hH9, hv9⟩, -⟩ := hd
          rw [hv4, hv9]
          have HV4 := Lib.hid hv4
          have HV9 := Lib.hid hv9
          clear hv4 hv9
          obtain ⟨q0, q1, q2, q3, q4, q5, q6⟩ := KA0.out wq (fun p hp => hk.cell (p := p) ⟨hp, fun h => h, trivial⟩ hp)
          go_wp2_with fail
          exact freePost _ rfl ⟨⟨WritesF.refl _ _, hj⟩, upd_self⟩
        · intro V L H wq hw hk hj hd
          obtain ⟨⟨hL4, hM4, hH4, hv4⟩, ⟨hL5, hM5, hH5, hv5⟩, ⟨hL6, hM6, hH6, hv6⟩, ⟨hL10, hM10, hH10, hv10⟩, -⟩ := hd
          rw [hv4, hv5, hv6, hv10]
          have HV4 := Lib.hid hv4
          have HV5 := Lib.hid hv5
          have HV6 := Lib.hid hv6
          have HV10 := Lib.hid hv10
          clear hv4 hv5 hv6 hv10
          go_wp2_with fail
          refine (HM0.out wq (HB.out.trans ((fa_noneK hw).mono HB.out.size))).mono ?_
          rintro e w2 ⟨rfl, hb2⟩
          go_wp2_with fail
          exact freePost _ rfl ⟨⟨(WritesF.refl _ _).later hb2, trivial⟩, upd_self⟩
        · intro V L H wq hw hk hj hd
          obtain ⟨⟨hL4, hM4, hH4, hv4⟩, ⟨hL11, hM11, hH11, hv11⟩, -⟩ := hd
          rw [hv4, hv11]
          have HV4 := Lib.hid hv4
          have HV11 := Lib.hid hv11
          clear hv4 hv11
          go_wp2_with fail
          exact freePost _ rfl ⟨⟨WritesF.refl _ _, hj⟩, upd_self⟩
        · intro V L H wq hw hk hj hd
          obtain ⟨⟨hL4, hM4, hH4, hv4⟩, ⟨hL12, hM12, hH12, hv12⟩, -⟩ := hd
          rw [hv4, hv12]
          have HV4 := Lib.hid hv4
          have HV12 := Lib.hid hv12
          clear hv4 hv12
          go_wp2_with fail
          exact freePost _ rfl ⟨⟨WritesF.refl _ _, hj⟩, upd_self⟩
        · intro V L H wq hw hj hd hap hdead
          obtain ⟨⟨hL0, hM0, hH0, hv0⟩, ⟨hL1, hM1, hH1, hv1⟩, ⟨hL2, hM2, hH2, hv2⟩, ⟨hL3, hM3, hH3, hv3⟩, ⟨hL4, hM4, hH4, hv4⟩, ⟨hL5, hM5, hH5, hv5⟩, ⟨hL6, hM6, hH6, hv6⟩, ⟨hL7, hM7, hH7, hv7⟩, ⟨hL8, hM8, hH8, hv8⟩, ⟨hL9, hM9, hH9, hv9⟩, ⟨hL10, hM10, hH10, hv10⟩, ⟨hL11, hM11, hH11, hv11⟩, ⟨hL12, hM12, hH12, hv12⟩, ⟨hL13, hM13, hH13, hv13⟩, -⟩ := hd
          rw [hv0, hv1, hv2, hv3, hv4, hv5, hv6, hv7, hv8, hv9, hv10, hv11, hv12, hv13]
          clear hv0 hv1 hv2 hv3 hv4 hv5 hv6 hv7 hv8 hv9 hv10 hv11 hv12 hv13
          have HBW1 := Lib.hid (HB.out.trans ((fa_noneK hw).mono HB.out.size))
          have HBZ1 := Lib.hid (fa_noneK hw)
          clear hw hj hap hdead
          obtain ⟨g0, g1⟩ := KG.out wq (fun _ hp => HBZ1.out.cell hp)
          have y4c := KY4.out wq (fun _ hp => HBZ1.out.cell hp)
          have y5c := KY5.out wq (fun _ hp => HBZ1.out.cell hp)
          go_wp2_with fail
          refine (HA.out wq HBW1.out).mono ?_
          rintro e w2 ⟨rfl, hb2⟩
          have HBN := Lib.hid (HBW1.out.trans (hb2.mono HBW1.out.size))
          clear hb2
          go_wp2
          go_ret
          exact ⟨rfl, HBN.out⟩
    · have e0 : (z0 == 4) = false := beq_eq_false_iff_ne.2 h0
      rw [if_pos h0]
      clear h0 HA
      go_enter Try.func7, Try.ntmps7
      go_wp2_with fail
      rw [← HWE.out]
      clear HWE
      refine wp_region_freeK [([], .none, []), ([0], .none, []), ([1], .none, []), ([2], .none, []), ([3], .none, []), ([4], .none, []), ([4], .none, []), ([4], .none, []), ([4, 7], .none, []), ([4, 8], .none, []), ([4, 9], .none, []), ([4, 5, 6, 10], .none, []), ([4, 11], .none, []), ([4, 12], .none, [])] [0, 1, 2, 3, 4, 5, 6, 7, 8, 9, 10, 11, 12, 13] [] (fun _ => False) (fun _ => True) (fun _ => 0) (fun jq9 V L H wx => match jq9 with | 0 => V 0 = .pointer (some ⟨w.heap.size + 2, 6, none⟩) | 1 => V 1 = .slice (some ⟨rb, ro, none⟩) 1 c6 | 2 => V 2 = .int .i64 1 | 3 => V 3 = .bool true | 4 => V 4 = .bool true | 5 => V 5 = .agg #[.slice a0 g.fSymbols.length c0_0, .slice a1 g.fRules.length c0_1] | 6 => V 6 = .agg #[.string x.fName, .string x.fLeft, .slice b2 x.fRight.length c1_0, .bool x.fLiteral, .slice b4 x.fEquations.length c1_1, .slice b5 x.fContributions.length c1_2] | 7 => V 7 = .pointer (some ⟨w.heap.size + 2, 6, none⟩) | 8 => V 8 = .slice (some ⟨rb, ro, none⟩) 1 c6 | 9 => V 9 = .pointer (some ⟨rb, ro, none⟩) | 10 => V 10 = .agg #[.int .i64 y0.fKind, .int .i64 y0.fN, .int .i64 y0.fPos, .int .i64 y0.fType, .string y0.fSymbol, .string y0.fName, .slice a0_ y0.fArgs.length c0_] | 11 => V 11 = .int .i64 z0 | 12 => V 12 = .bool false | 13 => V 13 = .bool false | _ => True) (by kernel_rfl) (by kernel_rfl) ?obs (fun _ h => h.elim) trivial (fun _ _ _ _ _ => trivial) ?loc ?lasts ?walk
      case obs =>
        trivial
      case loc =>
        intro k V V' L H wx h0 h1 hG
        match k with
        | 0 =>
          try dsimp only at hG ⊢
          rw [← h0]
          exact hG
        | 1 =>
          try dsimp only at hG ⊢
          rw [← h0]
          exact hG
        | 2 =>
          try dsimp only at hG ⊢
          rw [← h0]
          exact hG
        | 3 =>
          try dsimp only at hG ⊢
          rw [← h0]
          exact hG
        | 4 =>
          try dsimp only at hG ⊢
          rw [← h0]
          exact hG
        | 5 =>
          try dsimp only at hG ⊢
          rw [← h0]
          exact hG
        | 6 =>
          try dsimp only at hG ⊢
          rw [← h0]
          exact hG
        | 7 =>
          try dsimp only at hG ⊢
          rw [← h0]
          exact hG
        | 8 =>
          try dsimp only at hG ⊢
          rw [← h0]
          exact hG
        | 9 =>
          try dsimp only at hG ⊢
          rw [← h0]
          exact hG
        | 10 =>
          try dsimp only at hG ⊢
          rw [← h0]
          exact hG
        | 11 =>
          try dsimp only at hG ⊢
          rw [← h0]
          exact hG
        | 12 =>
          try dsimp only at hG ⊢
          rw [← h0]
          exact hG
        | 13 =>
          try dsimp only at hG ⊢
          rw [← h0]
          exact hG
        | n + 14 => trivial
      case lasts =>
        intro i hi V L H wx wy hB hH hk
        match i, hi with
        | 0, _ => exact fun h => h
        | 1, _ => exact fun h => h
        | 2, _ => exact fun h => h
        | 3, _ => exact fun h => h
        | 4, _ => exact fun h => h
        | 5, _ => exact fun h => h
        | 6, _ => exact fun h => h
        | 7, _ => exact fun h => h
        | 8, _ => exact fun h => h
        | 9, _ => exact fun h => h
        | 10, _ => exact fun h => h
        | 11, _ => exact fun h => h
        | 12, _ => exact fun h => h
        | 13, _ => exact fun h => h
        | n + 14, hn => exact absurd hn (by simp)
      case walk =>
        simp (maxSteps := 4000000) only [freeK, Nat.reduceAdd, Act.put, List.setIfInBounds_toArray, List.set_cons_succ, List.set_cons_zero]
        refine ⟨?_, ?_, ?_, ?_, ?_, ?_, ?_, ?_, ?_, ?_, ?_, ?_, ?_, ?_, ?_⟩
        · intro V L H wq hw hk hj hd
          clear hd
          go_wp2_with fail
          exact freePost _ rfl ⟨⟨WritesF.refl _ _, hj⟩, upd_self⟩
        · intro V L H wq hw hk hj hd
          obtain ⟨⟨hL0, hM0, hH0, hv0⟩, -⟩ := hd
          rw [hv0]
          have HV0 := Lib.hid hv0
          clear hv0
          have y6c := KY6.out wq (fun p hp => hk.cell (p := p) ⟨hp, fun h => h, trivial⟩ hp)
          go_wp2_with fail
          exact freePost _ rfl ⟨⟨WritesF.refl _ _, hj⟩, upd_self⟩
        · intro V L H wq hw hk hj hd
          obtain ⟨⟨hL1, hM1, hH1, hv1⟩, -⟩ := hd
          rw [hv1]
          have HV1 := Lib.hid hv1
          clear hv1
          go_wp2_with fail
          exact freePost _ rfl ⟨⟨WritesF.refl _ _, hj⟩, upd_self⟩
        · intro V L H wq hw hk hj hd
          obtain ⟨⟨hL2, hM2, hH2, hv2⟩, -⟩ := hd
          rw [hv2]
          have HV2 := Lib.hid hv2
          clear hv2
          go_wp2_with fail
          exact freePost _ rfl ⟨⟨WritesF.refl _ _, hj⟩, upd_self⟩
        · intro V L H wq hw hk hj hd
          obtain ⟨⟨hL3, hM3, hH3, hv3⟩, -⟩ := hd
          rw [hv3]
          have HV3 := Lib.hid hv3
          clear hv3
          go_wp2_with fail
          exact freePost _ rfl ⟨⟨WritesF.refl _ _, hj⟩, upd_self⟩
        · intro V L H wq hw hk hj hd
          obtain ⟨⟨hL4, hM4, hH4, hv4⟩, -⟩ := hd
          rw [hv4]
          have HV4 := Lib.hid hv4
          clear hv4
          obtain ⟨g0, g1⟩ := KG.out wq (fun p hp => hk.cell (p := p) ⟨hp, fun h => h, trivial⟩ hp)
          go_wp2_with fail
          exact freePost _ rfl ⟨⟨WritesF.refl _ _, hj⟩, upd_self⟩
        · intro V L H wq hw hk hj hd
          obtain ⟨⟨hL4, hM4, hH4, hv4⟩, -⟩ := hd
          rw [hv4]
          have HV4 := Lib.hid hv4
          clear hv4
          obtain ⟨r0, r1, r2, r3, r4, r5⟩ := KR.out wq (fun p hp => hk.cell (p := p) ⟨hp, fun h => h, trivial⟩ hp)
          go_wp2_with fail
          exact freePost _ rfl ⟨⟨WritesF.refl _ _, hj⟩, upd_self⟩
        · intro V L H wq hw hk hj hd
          obtain ⟨⟨hL4, hM4, hH4, hv4⟩, -⟩ := hd
          rw [hv4]
          have HV4 := Lib.hid hv4
          clear hv4
          go_wp2_with fail
          exact freePost _ rfl ⟨⟨WritesF.refl _ _, hj⟩, upd_self⟩
        · intro V L H wq hw hk hj hd
          obtain ⟨⟨hL4, hM4, hH4, hv4⟩, ⟨hL7, hM7, hH7, hv7⟩, -⟩ := hd
          rw [hv4, hv7]
          have HV4 := Lib.hid hv4
          have HV7 := Lib.hid hv7
          clear hv4 hv7
          have y6c := KY6.out wq (fun p hp => hk.cell (p := p) ⟨hp, fun h => h, trivial⟩ hp)
          go_wp2_with fail
          exact freePost _ rfl ⟨⟨WritesF.refl _ _, hj⟩, upd_self⟩
        · intro V L H wq hw hk hj hd
          obtain ⟨⟨hL4, hM4, hH4, hv4⟩, ⟨hL8, hM8, hH8, hv8⟩, -⟩ := hd
          rw [hv4, hv8]
          have HV4 := Lib.hid hv4
          have HV8 := Lib.hid hv8
          clear hv4 hv8
          go_wp2_with fail
          exact freePost _ rfl ⟨⟨WritesF.refl _ _, hj⟩, upd_self⟩
        · intro V L H wq hw hk hj hd
          obtain ⟨⟨hL4, hM4, hH4, hv4⟩, ⟨hL9, hM9, hH9, hv9⟩, -⟩ := hd
          rw [hv4, hv9]
          have HV4 := Lib.hid hv4
          have HV9 := Lib.hid hv9
          clear hv4 hv9
          obtain ⟨q0, q1, q2, q3, q4, q5, q6⟩ := KA0.out wq (fun p hp => hk.cell (p := p) ⟨hp, fun h => h, trivial⟩ hp)
          go_wp2_with fail
          exact freePost _ rfl ⟨⟨WritesF.refl _ _, hj⟩, upd_self⟩
        · intro V L H wq hw hk hj hd
          obtain ⟨⟨hL4, hM4, hH4, hv4⟩, ⟨hL5, hM5, hH5, hv5⟩, ⟨hL6, hM6, hH6, hv6⟩, ⟨hL10, hM10, hH10, hv10⟩, -⟩ := hd
          rw [hv4, hv5, hv6, hv10]
          have HV4 := Lib.hid hv4
          have HV5 := Lib.hid hv5
          have HV6 := Lib.hid hv6
          have HV10 := Lib.hid hv10
          clear hv4 hv5 hv6 hv10
          go_wp2_with fail
          refine (HM0.out wq (HB.out.trans ((fa_noneK hw).mono HB.out.size))).mono ?_
          rintro e w2 ⟨rfl, hb2⟩
          go_wp2_with fail
          exact freePost _ rfl ⟨⟨(WritesF.refl _ _).later hb2, trivial⟩, upd_self⟩
        · intro V L H wq hw hk hj hd
          obtain ⟨⟨hL4, hM4, hH4, hv4⟩, ⟨hL11, hM11, hH11, hv11⟩, -⟩ := hd
          rw [hv4, hv11]
          have HV4 := Lib.hid hv4
          have HV11 := Lib.hid hv11
          clear hv4 hv11
          go_wp2_with fail
          exact freePost _ rfl ⟨⟨WritesF.refl _ _, hj⟩, upd_self⟩
        · intro V L H wq hw hk hj hd
          obtain ⟨⟨hL4, hM4, hH4, hv4⟩, ⟨hL12, hM12, hH12, hv12⟩, -⟩ := hd
          rw [hv4, hv12]
          have HV4 := Lib.hid hv4
          have HV12 := Lib.hid hv12
          clear hv4 hv12
          go_wp2_with fail
          exact freePost _ rfl ⟨⟨WritesF.refl _ _, hj⟩, upd_self⟩
        · intro V L H wq hw hj hd hap hdead
          obtain ⟨⟨hL0, hM0, hH0, hv0⟩, ⟨hL1, hM1, hH1, hv1⟩, ⟨hL2, hM2, hH2, hv2⟩, ⟨hL3, hM3, hH3, hv3⟩, ⟨hL4, hM4, hH4, hv4⟩, ⟨hL5, hM5, hH5, hv5⟩, ⟨hL6, hM6, hH6, hv6⟩, ⟨hL7, hM7, hH7, hv7⟩, ⟨hL8, hM8, hH8, hv8⟩, ⟨hL9, hM9, hH9, hv9⟩, ⟨hL10, hM10, hH10, hv10⟩, ⟨hL11, hM11, hH11, hv11⟩, ⟨hL12, hM12, hH12, hv12⟩, ⟨hL13, hM13, hH13, hv13⟩, -⟩ := hd
          rw [hv0, hv1, hv2, hv3, hv4, hv5, hv6, hv7, hv8, hv9, hv10, hv11, hv12, hv13]
          clear hv0 hv1 hv2 hv3 hv4 hv5 hv6 hv7 hv8 hv9 hv10 hv11 hv12 hv13
          have HBN := Lib.hid (HB.out.trans ((fa_noneK hw).mono HB.out.size))
          clear hw hj hap hdead
          go_wp2
          go_ret
          exact ⟨rfl, HBN.out⟩
  · rw [remT_no (by rw [List.length_map]; exact hn)]
    have qn : ((y.fArgs.length : Int) == 1) = false := beq_eq_false_iff_ne.2 (by omega)
    clear ih HA hzs hn oky hszy hhi hs0 hs2 hs4 hs5 hs6
    have HB := Lib.hid ((((Below.refl w.heap.size w).alloc (Nat.le_refl _) (.cells #[.slice a0 g.fSymbols.length c0_0, .slice a1 g.fRules.length c0_1] 41)).alloc (by simp) (.cells #[.string x.fName, .string x.fLeft, .slice b2 x.fRight.length c1_0, .bool x.fLiteral, .slice b4 x.fEquations.length c1_1, .slice b5 x.fContributions.length c1_2] 46)).alloc (by simp <;> omega) (.cells #[.int .i64 8, .int .i64 y.fN, .int .i64 y.fPos, .int .i64 y.fType, .string y.fSymbol, .string y.fName, .slice a6 y.fArgs.length c6] 50))
    have HG0 := Lib.hid (show (((w.alloc (.cells #[.slice a0 g.fSymbols.length c0_0, .slice a1 g.fRules.length c0_1] 41)).alloc (.cells #[.string x.fName, .string x.fLeft, .slice b2 x.fRight.length c1_0, .bool x.fLiteral, .slice b4 x.fEquations.length c1_1, .slice b5 x.fContributions.length c1_2] 46)).alloc (.cells #[.int .i64 8, .int .i64 y.fN, .int .i64 y.fPos, .int .i64 y.fType, .string y.fSymbol, .string y.fName, .slice a6 y.fArgs.length c6] 50)).heap[w.heap.size]? = some (.cells #[.slice a0 g.fSymbols.length c0_0, .slice a1 g.fRules.length c0_1] 41) from blk_alloc (by simp <;> omega) (blk_alloc (by simp) (blk_new rfl)))
    have HR0 := Lib.hid (show (((w.alloc (.cells #[.slice a0 g.fSymbols.length c0_0, .slice a1 g.fRules.length c0_1] 41)).alloc (.cells #[.string x.fName, .string x.fLeft, .slice b2 x.fRight.length c1_0, .bool x.fLiteral, .slice b4 x.fEquations.length c1_1, .slice b5 x.fContributions.length c1_2] 46)).alloc (.cells #[.int .i64 8, .int .i64 y.fN, .int .i64 y.fPos, .int .i64 y.fType, .string y.fSymbol, .string y.fName, .slice a6 y.fArgs.length c6] 50)).heap[w.heap.size + 1]? = some (.cells #[.string x.fName, .string x.fLeft, .slice b2 x.fRight.length c1_0, .bool x.fLiteral, .slice b4 x.fEquations.length c1_1, .slice b5 x.fContributions.length c1_2] 46) from blk_alloc (by simp) (blk_new (by simp)))
    have HY0 := Lib.hid (show (((w.alloc (.cells #[.slice a0 g.fSymbols.length c0_0, .slice a1 g.fRules.length c0_1] 41)).alloc (.cells #[.string x.fName, .string x.fLeft, .slice b2 x.fRight.length c1_0, .bool x.fLiteral, .slice b4 x.fEquations.length c1_1, .slice b5 x.fContributions.length c1_2] 46)).alloc (.cells #[.int .i64 8, .int .i64 y.fN, .int .i64 y.fPos, .int .i64 y.fType, .string y.fSymbol, .string y.fName, .slice a6 y.fArgs.length c6] 50)).heap[w.heap.size + 2]? = some (.cells #[.int .i64 8, .int .i64 y.fN, .int .i64 y.fPos, .int .i64 y.fType, .string y.fSymbol, .string y.fName, .slice a6 y.fArgs.length c6] 50) from blk_new (by simp))
    have HSZ := Lib.hid (show (((w.alloc (.cells #[.slice a0 g.fSymbols.length c0_0, .slice a1 g.fRules.length c0_1] 41)).alloc (.cells #[.string x.fName, .string x.fLeft, .slice b2 x.fRight.length c1_0, .bool x.fLiteral, .slice b4 x.fEquations.length c1_1, .slice b5 x.fContributions.length c1_2] 46)).alloc (.cells #[.int .i64 8, .int .i64 y.fN, .int .i64 y.fPos, .int .i64 y.fType, .string y.fSymbol, .string y.fName, .slice a6 y.fArgs.length c6] 50)).heap.size = w.heap.size + 3 by simp)
    clear HG0 HR0 HY0 HSZ
    generalize y.fArgs.length = n at *
    go_enter Try.func7, Try.ntmps7
    go_wp2_with fail
    go_quiet (fail)
    go_wp2
    go_ret
    exact ⟨rfl, below_drewN HB.out _⟩

theorem spec_TypeTy (g : DGrammar) (hzs : lsz DSymbol.sz g.fSymbols ≤ 1048576) (x : DRule) (okx : x.ok) (hszx : x.sz ≤ 1048576) (y : DExpr) : SpecTy g x y :=
  DExpr.ind (P := SpecTy g x) (fun y ih => by
    have h : (y.fKind < 1 ∨ 8 < y.fKind) ∨ y.fKind = 1 ∨ y.fKind = 2 ∨ y.fKind = 3 ∨ y.fKind = 4 ∨ y.fKind = 5 ∨ y.fKind = 6 ∨ y.fKind = 7 ∨ y.fKind = 8 := by omega
    rcases h with h | h | h | h | h | h | h | h | h
    · exact specTy_0 g x y h
    · exact specTy_1 g x y h
    · exact specTy_2 g x y h
    · exact specTy_3 g x y h okx hszx hzs
    · exact specTy_4 g x y h ih
    · exact specTy_5 g x y h ih
    · exact specTy_6 g x y h
    · exact specTy_7 g x y h
    · exact specTy_8 g x y h ih hzs) y
end Go.Proofs.Ytpipdlgnedhhaaa
