/-
  IsMonotone of the model.
-/
import Derived.Test.YtamilmhnkiepmaaUsesS
namespace Go.Proofs.Ytamilmhnkiepmaa
open Go.ChangeShapes Go.WideShapes Go.ChangeAt Go.RowKit Go.Deep

/-- The contract of IsMonotone of the model at x. -/
def SpecMono (l : List DOccurrence) (x : DExpr) : Prop := ∀ ⦃lo hi c6 c0 : Nat⦄ ⦃a6 a0 : Option Addr⦄ (_hsz : x.sz ≤ 1048576) (w : World) (_hhi : hi ≤ w.heap.size) (_hs6 : Sl lo hi w 7 x.fArgs.length (ctE x.fArgs) a6) (_hs : Sl lo hi w 2 l.length (fun k => DOccurrence.ct (l.getD k default)) a0),
  Calls Try.prog 14 #[.agg #[.int .i64 x.fKind, .int .i64 x.fN, .int .i64 x.fPos, .int .i64 x.fType, .string x.fSymbol, .string x.fName, .slice a6 x.fArgs.length c6], .slice a0 l.length c0] w fun e w' => e = .returned (.bool (monoX l x)) ∧ Below w.heap.size w w'

set_option maxHeartbeats 3200000 in
set_option maxRecDepth 100000 in
theorem specMono_free (l : List DOccurrence) (hl : lsz DOccurrence.sz l ≤ 1048576) (x : DExpr) (ih : ∀ a ∈ x.fArgs, SpecMono l a) (hu : usesX l x = false) : SpecMono l x := by
  intro lo hi c6 c0 a6 a0 hsz w hhi hs6 hs
  have hn : x.fArgs.length ≤ 1048576 := by have h := hsz; rw [DExpr.sz_eq] at h; unfold lsz at h; omega
  have HZ := Lib.hid hsz
  have IH := Lib.hid ih
  have HS := Lib.hid hs6
  have HSL := Lib.hid (fun (W : World) (hW : Below w.heap.size w W) => hs.later hW hhi)
  have HW0 := Lib.hid ((Below.refl w.heap.size w).alloc (Nat.le_refl _) (.cells #[.int .i64 x.fKind, .int .i64 x.fN, .int .i64 x.fPos, .int .i64 x.fType, .string x.fSymbol, .string x.fName, .slice a6 x.fArgs.length c6] 31))
  have HHI := Lib.hid hhi
  clear hsz ih hs6 hs
  have HUX := Lib.hid (spec_UsesAny0 l hl x (c6 := c6) (c0 := c0) HZ.out (w.alloc (.cells #[.int .i64 x.fKind, .int .i64 x.fN, .int .i64 x.fPos, .int .i64 x.fType, .string x.fSymbol, .string x.fName, .slice a6 x.fArgs.length c6] 31)) (Nat.le_trans hhi HW0.out.size) (HS.out.later HW0.out hhi) (HSL.out _ HW0.out))
  have FIN := Lib.hid (monoX_free hu)
  rw [hu] at HUX
  clear hu HSL IH HS HZ
  go_enter Try.func14, Try.ntmps14
  go_wp2_with fail
  refine HUX.out.mono ?_
  rintro e wb ⟨rfl, hb1⟩
  have HWB := Lib.hid (HW0.out.trans (hb1.mono HW0.out.size))
  clear hb1 HUX
  go_wp2
  go_ret
  exact ⟨ret_b FIN.out.symm, HWB.out⟩

set_option maxHeartbeats 3200000 in
set_option maxRecDepth 100000 in
theorem specMono_attr (l : List DOccurrence) (hl : lsz DOccurrence.sz l ≤ 1048576) (x : DExpr) (ih : ∀ a ∈ x.fArgs, SpecMono l a) (hu : usesX l x = true) (h3 : x.fKind = 3) : SpecMono l x := by
  intro lo hi c6 c0 a6 a0 hsz w hhi hs6 hs
  have hn : x.fArgs.length ≤ 1048576 := by have h := hsz; rw [DExpr.sz_eq] at h; unfold lsz at h; omega
  have HZ := Lib.hid hsz
  have IH := Lib.hid ih
  have HS := Lib.hid hs6
  have HSL := Lib.hid (fun (W : World) (hW : Below w.heap.size w W) => hs.later hW hhi)
  have HW0 := Lib.hid ((Below.refl w.heap.size w).alloc (Nat.le_refl _) (.cells #[.int .i64 x.fKind, .int .i64 x.fN, .int .i64 x.fPos, .int .i64 x.fType, .string x.fSymbol, .string x.fName, .slice a6 x.fArgs.length c6] 31))
  have HHI := Lib.hid hhi
  clear hsz ih hs6 hs
  have HUX := Lib.hid (spec_UsesAny0 l hl x (c6 := c6) (c0 := c0) HZ.out (w.alloc (.cells #[.int .i64 x.fKind, .int .i64 x.fN, .int .i64 x.fPos, .int .i64 x.fType, .string x.fSymbol, .string x.fName, .slice a6 x.fArgs.length c6] 31)) (Nat.le_trans hhi HW0.out.size) (HS.out.later HW0.out hhi) (HSL.out _ HW0.out))
  have hszx := HZ.out
  rw [DExpr.sz_eq] at hszx
  have FIN := Lib.hid (show monoX l x = true from monoX_attr h3)
  rw [hu] at HUX
  have HWS0 := Lib.hid (show (w.alloc (.cells #[.int .i64 x.fKind, .int .i64 x.fN, .int .i64 x.fPos, .int .i64 x.fType, .string x.fSymbol, .string x.fName, .slice a6 x.fArgs.length c6] 31)).heap.size = w.heap.size + 1 by simp)
  clear hu
  rw [h3] at HUX HW0 HWS0 ⊢
  clear h3 hszx
  go_enter Try.func14, Try.ntmps14
  go_wp2_with fail
  refine HUX.out.mono ?_
  rintro e wb ⟨rfl, hb1⟩
  have HWB := Lib.hid (HW0.out.trans (hb1.mono HW0.out.size))
  have HWS := Lib.hid (show w.heap.size < wb.heap.size from by have := hb1.size; rw [HWS0.out] at this; exact this)
  have p0 : wb.cell? ⟨w.heap.size, 0, none⟩ = some (Value.int .i64 3) := (hb1.cell (p := ⟨w.heap.size, 0, none⟩) (by show w.heap.size < _; rw [HWS0.out]; omega)).trans (show _ = some (Value.int .i64 3) by go_simp)
  have p1 : wb.cell? ⟨w.heap.size, 1, none⟩ = some (Value.int .i64 x.fN) := (hb1.cell (p := ⟨w.heap.size, 1, none⟩) (by show w.heap.size < _; rw [HWS0.out]; omega)).trans (show _ = some (Value.int .i64 x.fN) by go_simp)
  have p6 : wb.cell? ⟨w.heap.size, 6, none⟩ = some (.slice a6 x.fArgs.length c6) := (hb1.cell (p := ⟨w.heap.size, 6, none⟩) (by show w.heap.size < _; rw [HWS0.out]; omega)).trans (show _ = some (Value.slice a6 x.fArgs.length c6) by go_simp)
  clear hb1 HUX
  generalize x.fArgs.length = n at *
  go_wp2
  all_goals (go_ret; exact ⟨ret_b FIN.out.symm, HWB.out⟩)

set_option maxHeartbeats 3200000 in
set_option maxRecDepth 100000 in
theorem specMono_if (l : List DOccurrence) (hl : lsz DOccurrence.sz l ≤ 1048576) (x : DExpr) (ih : ∀ a ∈ x.fArgs, SpecMono l a) (hu : usesX l x = true) (h5 : x.fKind = 5) (hn3 : x.fArgs.length = 3) : SpecMono l x := by
  intro lo hi c6 c0 a6 a0 hsz w hhi hs6 hs
  have hn : x.fArgs.length ≤ 1048576 := by have h := hsz; rw [DExpr.sz_eq] at h; unfold lsz at h; omega
  have HZ := Lib.hid hsz
  have IH := Lib.hid ih
  have HS := Lib.hid hs6
  have HSL := Lib.hid (fun (W : World) (hW : Below w.heap.size w W) => hs.later hW hhi)
  have HW0 := Lib.hid ((Below.refl w.heap.size w).alloc (Nat.le_refl _) (.cells #[.int .i64 x.fKind, .int .i64 x.fN, .int .i64 x.fPos, .int .i64 x.fType, .string x.fSymbol, .string x.fName, .slice a6 x.fArgs.length c6] 31))
  have HHI := Lib.hid hhi
  clear hsz ih hs6 hs
  have HUX := Lib.hid (spec_UsesAny0 l hl x (c6 := c6) (c0 := c0) HZ.out (w.alloc (.cells #[.int .i64 x.fKind, .int .i64 x.fN, .int .i64 x.fPos, .int .i64 x.fType, .string x.fSymbol, .string x.fName, .slice a6 x.fArgs.length c6] 31)) (Nat.le_trans hhi HW0.out.size) (HS.out.later HW0.out hhi) (HSL.out _ HW0.out))
  have hszx := HZ.out
  rw [DExpr.sz_eq] at hszx
  have FIN := Lib.hid (monoX_if hu h5 hn3)
  rw [hu] at HUX
  have HWS0 := Lib.hid (show (w.alloc (.cells #[.int .i64 x.fKind, .int .i64 x.fN, .int .i64 x.fPos, .int .i64 x.fType, .string x.fSymbol, .string x.fName, .slice a6 x.fArgs.length c6] 31)).heap.size = w.heap.size + 1 by simp)
  have HNL := Lib.hid hn3
  clear hn3
  clear hu
  rw [h5] at HUX HW0 HWS0 ⊢
  clear h5
  go_enter Try.func14, Try.ntmps14
  go_wp2_with fail
  refine HUX.out.mono ?_
  rintro e wb ⟨rfl, hb1⟩
  have HWB := Lib.hid (HW0.out.trans (hb1.mono HW0.out.size))
  have HWS := Lib.hid (show w.heap.size < wb.heap.size from by have := hb1.size; rw [HWS0.out] at this; exact this)
  have p0 : wb.cell? ⟨w.heap.size, 0, none⟩ = some (Value.int .i64 5) := (hb1.cell (p := ⟨w.heap.size, 0, none⟩) (by show w.heap.size < _; rw [HWS0.out]; omega)).trans (show _ = some (Value.int .i64 5) by go_simp)
  have p1 : wb.cell? ⟨w.heap.size, 1, none⟩ = some (Value.int .i64 x.fN) := (hb1.cell (p := ⟨w.heap.size, 1, none⟩) (by show w.heap.size < _; rw [HWS0.out]; omega)).trans (show _ = some (Value.int .i64 x.fN) by go_simp)
  have p6 : wb.cell? ⟨w.heap.size, 6, none⟩ = some (.slice a6 x.fArgs.length c6) := (hb1.cell (p := ⟨w.heap.size, 6, none⟩) (by show w.heap.size < _; rw [HWS0.out]; omega)).trans (show _ = some (Value.slice a6 x.fArgs.length c6) by go_simp)
  clear hb1 HUX
  have hsl := HS.out.later (HWB.out.mono hhi) (Nat.le_refl _)
  obtain ⟨rb, ro, rfl, _, hrb, _⟩ := hsl.at 0 (by rw [HNL.out]; decide)
  have HAT := Lib.hid (show ∀ k, k < x.fArgs.length → _ from fun k hk => by
    obtain ⟨b', o', e', _, _, hc⟩ := hsl.at k hk
    simp only [Option.some.injEq, Addr.mk.injEq, and_true] at e'
    obtain ⟨rfl, rfl⟩ := e'
    exact hc)
  have hrbw : rb < wb.heap.size := Nat.lt_of_lt_of_le hrb (Nat.le_trans hhi HWB.out.size)
  have HP6 := Lib.hid p6
  have hk0 : 0 < x.fArgs.length := by rw [HNL.out]; decide
  have ha0 := HAT.out 0 hk0
  rw [ctE_at hk0] at ha0
  obtain ⟨a0_, c0_, A00, A01, A02, A03, A04, A05, A06, S0_⟩ := DExpr.open ha0
  have Z0 := szle_at (f := DExpr.sz) x.fArgs 0 hk0
  have HU0 := Lib.hid (fun (W : World) (hW : Below wb.heap.size wb W) => spec_UsesAny0 l hl (x.fArgs.getD 0 default) (c6 := c0_) (c0 := c0) (by omega) W (Nat.le_trans (Nat.le_trans HHI.out HWB.out.size) hW.size) (S0_.later (hW.mono (Nat.le_trans HHI.out HWB.out.size)) (Nat.le_refl _)) (HSL.out W (HWB.out.trans (hW.mono HWB.out.size))))
  have HM0 := Lib.hid (fun (W : World) (hW : Below wb.heap.size wb W) => IH.out _ (getD_mem hk0) (c6 := c0_) (c0 := c0) (by omega) W (Nat.le_trans (Nat.le_trans HHI.out HWB.out.size) hW.size) (S0_.later (hW.mono (Nat.le_trans HHI.out HWB.out.size)) (Nat.le_refl _)) (HSL.out W (HWB.out.trans (hW.mono HWB.out.size))))
  have hk1 : 1 < x.fArgs.length := by rw [HNL.out]; decide
  have ha1 := HAT.out 1 hk1
  rw [ctE_at hk1] at ha1
  obtain ⟨a1_, c1_, A10, A11, A12, A13, A14, A15, A16, S1_⟩ := DExpr.open ha1
  have Z1 := szle_at (f := DExpr.sz) x.fArgs 1 hk1
  have HU1 := Lib.hid (fun (W : World) (hW : Below wb.heap.size wb W) => spec_UsesAny0 l hl (x.fArgs.getD 1 default) (c6 := c1_) (c0 := c0) (by omega) W (Nat.le_trans (Nat.le_trans HHI.out HWB.out.size) hW.size) (S1_.later (hW.mono (Nat.le_trans HHI.out HWB.out.size)) (Nat.le_refl _)) (HSL.out W (HWB.out.trans (hW.mono HWB.out.size))))
  have HM1 := Lib.hid (fun (W : World) (hW : Below wb.heap.size wb W) => IH.out _ (getD_mem hk1) (c6 := c1_) (c0 := c0) (by omega) W (Nat.le_trans (Nat.le_trans HHI.out HWB.out.size) hW.size) (S1_.later (hW.mono (Nat.le_trans HHI.out HWB.out.size)) (Nat.le_refl _)) (HSL.out W (HWB.out.trans (hW.mono HWB.out.size))))
  have hk2 : 2 < x.fArgs.length := by rw [HNL.out]; decide
  have ha2 := HAT.out 2 hk2
  rw [ctE_at hk2] at ha2
  obtain ⟨a2_, c2_, A20, A21, A22, A23, A24, A25, A26, S2_⟩ := DExpr.open ha2
  have Z2 := szle_at (f := DExpr.sz) x.fArgs 2 hk2
  have HU2 := Lib.hid (fun (W : World) (hW : Below wb.heap.size wb W) => spec_UsesAny0 l hl (x.fArgs.getD 2 default) (c6 := c2_) (c0 := c0) (by omega) W (Nat.le_trans (Nat.le_trans HHI.out HWB.out.size) hW.size) (S2_.later (hW.mono (Nat.le_trans HHI.out HWB.out.size)) (Nat.le_refl _)) (HSL.out W (HWB.out.trans (hW.mono HWB.out.size))))
  have HM2 := Lib.hid (fun (W : World) (hW : Below wb.heap.size wb W) => IH.out _ (getD_mem hk2) (c6 := c2_) (c0 := c0) (by omega) W (Nat.le_trans (Nat.le_trans HHI.out HWB.out.size) hW.size) (S2_.later (hW.mono (Nat.le_trans HHI.out HWB.out.size)) (Nat.le_refl _)) (HSL.out W (HWB.out.trans (hW.mono HWB.out.size))))
  clear hsl HAT IH HS p6
  have C00 := Lib.hid (show wb.cell? ⟨rb, ro, none⟩ = some (.int .i64 (x.fArgs.getD 0 default).fKind) from A00)
  have C01 := Lib.hid (show wb.cell? ⟨rb, ro + 1, none⟩ = some (.int .i64 (x.fArgs.getD 0 default).fN) from A01)
  have C02 := Lib.hid (show wb.cell? ⟨rb, ro + 2, none⟩ = some (.int .i64 (x.fArgs.getD 0 default).fPos) from A02)
  have C03 := Lib.hid (show wb.cell? ⟨rb, ro + 3, none⟩ = some (.int .i64 (x.fArgs.getD 0 default).fType) from A03)
  have C04 := Lib.hid (show wb.cell? ⟨rb, ro + 4, none⟩ = some (.string (x.fArgs.getD 0 default).fSymbol) from A04)
  have C05 := Lib.hid (show wb.cell? ⟨rb, ro + 5, none⟩ = some (.string (x.fArgs.getD 0 default).fName) from A05)
  have C06 := Lib.hid (show wb.cell? ⟨rb, ro + 6, none⟩ = some (.slice a0_ (x.fArgs.getD 0 default).fArgs.length c0_) from A06)
  clear ha0 A00 A01 A02 A03 A04 A05 A06 S0_ Z0
  generalize x.fArgs.getD 0 default = y0 at *
  have C10 := Lib.hid (show wb.cell? ⟨rb, ro + 7, none⟩ = some (.int .i64 (x.fArgs.getD 1 default).fKind) from A10)
  have C11 := Lib.hid (show wb.cell? ⟨rb, ro + 8, none⟩ = some (.int .i64 (x.fArgs.getD 1 default).fN) from A11)
  have C12 := Lib.hid (show wb.cell? ⟨rb, ro + 9, none⟩ = some (.int .i64 (x.fArgs.getD 1 default).fPos) from A12)
  have C13 := Lib.hid (show wb.cell? ⟨rb, ro + 10, none⟩ = some (.int .i64 (x.fArgs.getD 1 default).fType) from A13)
  have C14 := Lib.hid (show wb.cell? ⟨rb, ro + 11, none⟩ = some (.string (x.fArgs.getD 1 default).fSymbol) from A14)
  have C15 := Lib.hid (show wb.cell? ⟨rb, ro + 12, none⟩ = some (.string (x.fArgs.getD 1 default).fName) from A15)
  have C16 := Lib.hid (show wb.cell? ⟨rb, ro + 13, none⟩ = some (.slice a1_ (x.fArgs.getD 1 default).fArgs.length c1_) from A16)
  clear ha1 A10 A11 A12 A13 A14 A15 A16 S1_ Z1
  generalize x.fArgs.getD 1 default = y1 at *
  have C20 := Lib.hid (show wb.cell? ⟨rb, ro + 14, none⟩ = some (.int .i64 (x.fArgs.getD 2 default).fKind) from A20)
  have C21 := Lib.hid (show wb.cell? ⟨rb, ro + 15, none⟩ = some (.int .i64 (x.fArgs.getD 2 default).fN) from A21)
  have C22 := Lib.hid (show wb.cell? ⟨rb, ro + 16, none⟩ = some (.int .i64 (x.fArgs.getD 2 default).fPos) from A22)
  have C23 := Lib.hid (show wb.cell? ⟨rb, ro + 17, none⟩ = some (.int .i64 (x.fArgs.getD 2 default).fType) from A23)
  have C24 := Lib.hid (show wb.cell? ⟨rb, ro + 18, none⟩ = some (.string (x.fArgs.getD 2 default).fSymbol) from A24)
  have C25 := Lib.hid (show wb.cell? ⟨rb, ro + 19, none⟩ = some (.string (x.fArgs.getD 2 default).fName) from A25)
  have C26 := Lib.hid (show wb.cell? ⟨rb, ro + 20, none⟩ = some (.slice a2_ (x.fArgs.getD 2 default).fArgs.length c2_) from A26)
  clear ha2 A20 A21 A22 A23 A24 A25 A26 S2_ Z2
  generalize x.fArgs.getD 2 default = y2 at *
  generalize usesX l y0 = u0 at *
  generalize monoX l y1 = m1 at *
  generalize monoX l y2 = m2 at *
  rw [HNL.out] at HP6 ⊢
  clear HNL hn hszx HZ hk0 hk1 hk2
  have wb_b6 : wb.cell? ⟨w.heap.size, 6, none⟩ = some (.slice (some ⟨rb, ro, none⟩) 3 c6) := ((Below.refl wb.heap.size wb).cell (p := ⟨w.heap.size, 6, none⟩) HWS.out).trans HP6.out
  have wb_00 : wb.cell? ⟨rb, ro, none⟩ = some (.int .i64 y0.fKind) := ((Below.refl wb.heap.size wb).cell (p := ⟨rb, ro, none⟩) hrbw).trans C00.out
  have wb_01 : wb.cell? ⟨rb, ro + 1, none⟩ = some (.int .i64 y0.fN) := ((Below.refl wb.heap.size wb).cell (p := ⟨rb, ro + 1, none⟩) hrbw).trans C01.out
  have wb_02 : wb.cell? ⟨rb, ro + 2, none⟩ = some (.int .i64 y0.fPos) := ((Below.refl wb.heap.size wb).cell (p := ⟨rb, ro + 2, none⟩) hrbw).trans C02.out
  have wb_03 : wb.cell? ⟨rb, ro + 3, none⟩ = some (.int .i64 y0.fType) := ((Below.refl wb.heap.size wb).cell (p := ⟨rb, ro + 3, none⟩) hrbw).trans C03.out
  have wb_04 : wb.cell? ⟨rb, ro + 4, none⟩ = some (.string y0.fSymbol) := ((Below.refl wb.heap.size wb).cell (p := ⟨rb, ro + 4, none⟩) hrbw).trans C04.out
  have wb_05 : wb.cell? ⟨rb, ro + 5, none⟩ = some (.string y0.fName) := ((Below.refl wb.heap.size wb).cell (p := ⟨rb, ro + 5, none⟩) hrbw).trans C05.out
  have wb_06 : wb.cell? ⟨rb, ro + 6, none⟩ = some (.slice a0_ y0.fArgs.length c0_) := ((Below.refl wb.heap.size wb).cell (p := ⟨rb, ro + 6, none⟩) hrbw).trans C06.out
  go_wp2_with fail
  refine (HU0.out wb (Below.refl wb.heap.size wb)).mono ?_
  rintro e v0 ⟨rfl, hbv⟩
  have BV0 := Lib.hid ((Below.refl wb.heap.size wb).trans (hbv.mono (Below.refl wb.heap.size wb).size))
  clear hbv wb_b6 wb_00 wb_01 wb_02 wb_03 wb_04 wb_05 wb_06
  cases u0
  · skip
    have v0_b6 : v0.cell? ⟨w.heap.size, 6, none⟩ = some (.slice (some ⟨rb, ro, none⟩) 3 c6) := (BV0.out.cell (p := ⟨w.heap.size, 6, none⟩) HWS.out).trans HP6.out
    have v0_10 : v0.cell? ⟨rb, ro + 7, none⟩ = some (.int .i64 y1.fKind) := (BV0.out.cell (p := ⟨rb, ro + 7, none⟩) hrbw).trans C10.out
    have v0_11 : v0.cell? ⟨rb, ro + 8, none⟩ = some (.int .i64 y1.fN) := (BV0.out.cell (p := ⟨rb, ro + 8, none⟩) hrbw).trans C11.out
    have v0_12 : v0.cell? ⟨rb, ro + 9, none⟩ = some (.int .i64 y1.fPos) := (BV0.out.cell (p := ⟨rb, ro + 9, none⟩) hrbw).trans C12.out
    have v0_13 : v0.cell? ⟨rb, ro + 10, none⟩ = some (.int .i64 y1.fType) := (BV0.out.cell (p := ⟨rb, ro + 10, none⟩) hrbw).trans C13.out
    have v0_14 : v0.cell? ⟨rb, ro + 11, none⟩ = some (.string y1.fSymbol) := (BV0.out.cell (p := ⟨rb, ro + 11, none⟩) hrbw).trans C14.out
    have v0_15 : v0.cell? ⟨rb, ro + 12, none⟩ = some (.string y1.fName) := (BV0.out.cell (p := ⟨rb, ro + 12, none⟩) hrbw).trans C15.out
    have v0_16 : v0.cell? ⟨rb, ro + 13, none⟩ = some (.slice a1_ y1.fArgs.length c1_) := (BV0.out.cell (p := ⟨rb, ro + 13, none⟩) hrbw).trans C16.out
    go_wp2_with fail
    refine (HM1.out v0 BV0.out).mono ?_
    rintro e v1 ⟨rfl, hbv⟩
    have BV1 := Lib.hid (BV0.out.trans (hbv.mono BV0.out.size))
    clear hbv v0_b6 v0_10 v0_11 v0_12 v0_13 v0_14 v0_15 v0_16
    cases m1
    · skip
      go_wp2
      go_ret
      exact ⟨ret_b FIN.out.symm, HWB.out.trans (BV1.out.mono HWB.out.size)⟩
    · skip
      have v1_b6 : v1.cell? ⟨w.heap.size, 6, none⟩ = some (.slice (some ⟨rb, ro, none⟩) 3 c6) := (BV1.out.cell (p := ⟨w.heap.size, 6, none⟩) HWS.out).trans HP6.out
      have v1_20 : v1.cell? ⟨rb, ro + 14, none⟩ = some (.int .i64 y2.fKind) := (BV1.out.cell (p := ⟨rb, ro + 14, none⟩) hrbw).trans C20.out
      have v1_21 : v1.cell? ⟨rb, ro + 15, none⟩ = some (.int .i64 y2.fN) := (BV1.out.cell (p := ⟨rb, ro + 15, none⟩) hrbw).trans C21.out
      have v1_22 : v1.cell? ⟨rb, ro + 16, none⟩ = some (.int .i64 y2.fPos) := (BV1.out.cell (p := ⟨rb, ro + 16, none⟩) hrbw).trans C22.out
      have v1_23 : v1.cell? ⟨rb, ro + 17, none⟩ = some (.int .i64 y2.fType) := (BV1.out.cell (p := ⟨rb, ro + 17, none⟩) hrbw).trans C23.out
      have v1_24 : v1.cell? ⟨rb, ro + 18, none⟩ = some (.string y2.fSymbol) := (BV1.out.cell (p := ⟨rb, ro + 18, none⟩) hrbw).trans C24.out
      have v1_25 : v1.cell? ⟨rb, ro + 19, none⟩ = some (.string y2.fName) := (BV1.out.cell (p := ⟨rb, ro + 19, none⟩) hrbw).trans C25.out
      have v1_26 : v1.cell? ⟨rb, ro + 20, none⟩ = some (.slice a2_ y2.fArgs.length c2_) := (BV1.out.cell (p := ⟨rb, ro + 20, none⟩) hrbw).trans C26.out
      go_wp2_with fail
      refine (HM2.out v1 BV1.out).mono ?_
      rintro e v2 ⟨rfl, hbv⟩
      have BV2 := Lib.hid (BV1.out.trans (hbv.mono BV1.out.size))
      clear hbv v1_b6 v1_20 v1_21 v1_22 v1_23 v1_24 v1_25 v1_26
      go_wp2
      go_ret
      exact ⟨ret_b FIN.out.symm, HWB.out.trans (BV2.out.mono HWB.out.size)⟩
  · skip
    go_wp2
    go_ret
    exact ⟨ret_b FIN.out.symm, HWB.out.trans (BV0.out.mono HWB.out.size)⟩

set_option maxHeartbeats 3200000 in
set_option maxRecDepth 100000 in
theorem specMono_join (l : List DOccurrence) (hl : lsz DOccurrence.sz l ≤ 1048576) (x : DExpr) (ih : ∀ a ∈ x.fArgs, SpecMono l a) (hu : usesX l x = true) (h4 : x.fKind = 4) (hn2 : x.fArgs.length = 2) (N : Int) (hN : x.fN = N) (hN2 : N = 6 ∨ N = 7) : SpecMono l x := by
  intro lo hi c6 c0 a6 a0 hsz w hhi hs6 hs
  have hn : x.fArgs.length ≤ 1048576 := by have h := hsz; rw [DExpr.sz_eq] at h; unfold lsz at h; omega
  have HZ := Lib.hid hsz
  have IH := Lib.hid ih
  have HS := Lib.hid hs6
  have HSL := Lib.hid (fun (W : World) (hW : Below w.heap.size w W) => hs.later hW hhi)
  have HW0 := Lib.hid ((Below.refl w.heap.size w).alloc (Nat.le_refl _) (.cells #[.int .i64 x.fKind, .int .i64 x.fN, .int .i64 x.fPos, .int .i64 x.fType, .string x.fSymbol, .string x.fName, .slice a6 x.fArgs.length c6] 31))
  have HHI := Lib.hid hhi
  clear hsz ih hs6 hs
  have HUX := Lib.hid (spec_UsesAny0 l hl x (c6 := c6) (c0 := c0) HZ.out (w.alloc (.cells #[.int .i64 x.fKind, .int .i64 x.fN, .int .i64 x.fPos, .int .i64 x.fType, .string x.fSymbol, .string x.fName, .slice a6 x.fArgs.length c6] 31)) (Nat.le_trans hhi HW0.out.size) (HS.out.later HW0.out hhi) (HSL.out _ HW0.out))
  have hszx := HZ.out
  rw [DExpr.sz_eq] at hszx
  have FIN := Lib.hid (monoX_join hu h4 hn2 (by rw [hN]; exact hN2))
  rw [hu] at HUX
  have HWS0 := Lib.hid (show (w.alloc (.cells #[.int .i64 x.fKind, .int .i64 x.fN, .int .i64 x.fPos, .int .i64 x.fType, .string x.fSymbol, .string x.fName, .slice a6 x.fArgs.length c6] 31)).heap.size = w.heap.size + 1 by simp)
  have HNL := Lib.hid hn2
  clear hn2
  clear hu
  rw [h4, hN] at HUX HW0 HWS0 ⊢
  clear h4 hN
  go_enter Try.func14, Try.ntmps14
  go_wp2_with fail
  refine HUX.out.mono ?_
  rintro e wb ⟨rfl, hb1⟩
  have HWB := Lib.hid (HW0.out.trans (hb1.mono HW0.out.size))
  have HWS := Lib.hid (show w.heap.size < wb.heap.size from by have := hb1.size; rw [HWS0.out] at this; exact this)
  have p0 : wb.cell? ⟨w.heap.size, 0, none⟩ = some (Value.int .i64 4) := (hb1.cell (p := ⟨w.heap.size, 0, none⟩) (by show w.heap.size < _; rw [HWS0.out]; omega)).trans (show _ = some (Value.int .i64 4) by go_simp)
  have p1 : wb.cell? ⟨w.heap.size, 1, none⟩ = some (Value.int .i64 N) := (hb1.cell (p := ⟨w.heap.size, 1, none⟩) (by show w.heap.size < _; rw [HWS0.out]; omega)).trans (show _ = some (Value.int .i64 N) by go_simp)
  have p6 : wb.cell? ⟨w.heap.size, 6, none⟩ = some (.slice a6 x.fArgs.length c6) := (hb1.cell (p := ⟨w.heap.size, 6, none⟩) (by show w.heap.size < _; rw [HWS0.out]; omega)).trans (show _ = some (Value.slice a6 x.fArgs.length c6) by go_simp)
  clear hb1 HUX
  have hsl := HS.out.later (HWB.out.mono hhi) (Nat.le_refl _)
  obtain ⟨rb, ro, rfl, _, hrb, _⟩ := hsl.at 0 (by rw [HNL.out]; decide)
  have HAT := Lib.hid (show ∀ k, k < x.fArgs.length → _ from fun k hk => by
    obtain ⟨b', o', e', _, _, hc⟩ := hsl.at k hk
    simp only [Option.some.injEq, Addr.mk.injEq, and_true] at e'
    obtain ⟨rfl, rfl⟩ := e'
    exact hc)
  have hrbw : rb < wb.heap.size := Nat.lt_of_lt_of_le hrb (Nat.le_trans hhi HWB.out.size)
  have HP6 := Lib.hid p6
  have hk0 : 0 < x.fArgs.length := by rw [HNL.out]; decide
  have ha0 := HAT.out 0 hk0
  rw [ctE_at hk0] at ha0
  obtain ⟨a0_, c0_, A00, A01, A02, A03, A04, A05, A06, S0_⟩ := DExpr.open ha0
  have Z0 := szle_at (f := DExpr.sz) x.fArgs 0 hk0
  have HU0 := Lib.hid (fun (W : World) (hW : Below wb.heap.size wb W) => spec_UsesAny0 l hl (x.fArgs.getD 0 default) (c6 := c0_) (c0 := c0) (by omega) W (Nat.le_trans (Nat.le_trans HHI.out HWB.out.size) hW.size) (S0_.later (hW.mono (Nat.le_trans HHI.out HWB.out.size)) (Nat.le_refl _)) (HSL.out W (HWB.out.trans (hW.mono HWB.out.size))))
  have HM0 := Lib.hid (fun (W : World) (hW : Below wb.heap.size wb W) => IH.out _ (getD_mem hk0) (c6 := c0_) (c0 := c0) (by omega) W (Nat.le_trans (Nat.le_trans HHI.out HWB.out.size) hW.size) (S0_.later (hW.mono (Nat.le_trans HHI.out HWB.out.size)) (Nat.le_refl _)) (HSL.out W (HWB.out.trans (hW.mono HWB.out.size))))
  have hk1 : 1 < x.fArgs.length := by rw [HNL.out]; decide
  have ha1 := HAT.out 1 hk1
  rw [ctE_at hk1] at ha1
  obtain ⟨a1_, c1_, A10, A11, A12, A13, A14, A15, A16, S1_⟩ := DExpr.open ha1
  have Z1 := szle_at (f := DExpr.sz) x.fArgs 1 hk1
  have HU1 := Lib.hid (fun (W : World) (hW : Below wb.heap.size wb W) => spec_UsesAny0 l hl (x.fArgs.getD 1 default) (c6 := c1_) (c0 := c0) (by omega) W (Nat.le_trans (Nat.le_trans HHI.out HWB.out.size) hW.size) (S1_.later (hW.mono (Nat.le_trans HHI.out HWB.out.size)) (Nat.le_refl _)) (HSL.out W (HWB.out.trans (hW.mono HWB.out.size))))
  have HM1 := Lib.hid (fun (W : World) (hW : Below wb.heap.size wb W) => IH.out _ (getD_mem hk1) (c6 := c1_) (c0 := c0) (by omega) W (Nat.le_trans (Nat.le_trans HHI.out HWB.out.size) hW.size) (S1_.later (hW.mono (Nat.le_trans HHI.out HWB.out.size)) (Nat.le_refl _)) (HSL.out W (HWB.out.trans (hW.mono HWB.out.size))))
  clear hsl HAT IH HS p6
  have C00 := Lib.hid (show wb.cell? ⟨rb, ro, none⟩ = some (.int .i64 (x.fArgs.getD 0 default).fKind) from A00)
  have C01 := Lib.hid (show wb.cell? ⟨rb, ro + 1, none⟩ = some (.int .i64 (x.fArgs.getD 0 default).fN) from A01)
  have C02 := Lib.hid (show wb.cell? ⟨rb, ro + 2, none⟩ = some (.int .i64 (x.fArgs.getD 0 default).fPos) from A02)
  have C03 := Lib.hid (show wb.cell? ⟨rb, ro + 3, none⟩ = some (.int .i64 (x.fArgs.getD 0 default).fType) from A03)
  have C04 := Lib.hid (show wb.cell? ⟨rb, ro + 4, none⟩ = some (.string (x.fArgs.getD 0 default).fSymbol) from A04)
  have C05 := Lib.hid (show wb.cell? ⟨rb, ro + 5, none⟩ = some (.string (x.fArgs.getD 0 default).fName) from A05)
  have C06 := Lib.hid (show wb.cell? ⟨rb, ro + 6, none⟩ = some (.slice a0_ (x.fArgs.getD 0 default).fArgs.length c0_) from A06)
  clear ha0 A00 A01 A02 A03 A04 A05 A06 S0_ Z0
  generalize x.fArgs.getD 0 default = y0 at *
  have C10 := Lib.hid (show wb.cell? ⟨rb, ro + 7, none⟩ = some (.int .i64 (x.fArgs.getD 1 default).fKind) from A10)
  have C11 := Lib.hid (show wb.cell? ⟨rb, ro + 8, none⟩ = some (.int .i64 (x.fArgs.getD 1 default).fN) from A11)
  have C12 := Lib.hid (show wb.cell? ⟨rb, ro + 9, none⟩ = some (.int .i64 (x.fArgs.getD 1 default).fPos) from A12)
  have C13 := Lib.hid (show wb.cell? ⟨rb, ro + 10, none⟩ = some (.int .i64 (x.fArgs.getD 1 default).fType) from A13)
  have C14 := Lib.hid (show wb.cell? ⟨rb, ro + 11, none⟩ = some (.string (x.fArgs.getD 1 default).fSymbol) from A14)
  have C15 := Lib.hid (show wb.cell? ⟨rb, ro + 12, none⟩ = some (.string (x.fArgs.getD 1 default).fName) from A15)
  have C16 := Lib.hid (show wb.cell? ⟨rb, ro + 13, none⟩ = some (.slice a1_ (x.fArgs.getD 1 default).fArgs.length c1_) from A16)
  clear ha1 A10 A11 A12 A13 A14 A15 A16 S1_ Z1
  generalize x.fArgs.getD 1 default = y1 at *
  generalize monoX l y0 = m0 at *
  generalize monoX l y1 = m1 at *
  rw [HNL.out] at HP6 ⊢
  clear HNL hn hszx HZ hk0 hk1
  rcases hN2 with rfl | rfl
  · skip
    have wb_b6 : wb.cell? ⟨w.heap.size, 6, none⟩ = some (.slice (some ⟨rb, ro, none⟩) 2 c6) := ((Below.refl wb.heap.size wb).cell (p := ⟨w.heap.size, 6, none⟩) HWS.out).trans HP6.out
    have wb_00 : wb.cell? ⟨rb, ro, none⟩ = some (.int .i64 y0.fKind) := ((Below.refl wb.heap.size wb).cell (p := ⟨rb, ro, none⟩) hrbw).trans C00.out
    have wb_01 : wb.cell? ⟨rb, ro + 1, none⟩ = some (.int .i64 y0.fN) := ((Below.refl wb.heap.size wb).cell (p := ⟨rb, ro + 1, none⟩) hrbw).trans C01.out
    have wb_02 : wb.cell? ⟨rb, ro + 2, none⟩ = some (.int .i64 y0.fPos) := ((Below.refl wb.heap.size wb).cell (p := ⟨rb, ro + 2, none⟩) hrbw).trans C02.out
    have wb_03 : wb.cell? ⟨rb, ro + 3, none⟩ = some (.int .i64 y0.fType) := ((Below.refl wb.heap.size wb).cell (p := ⟨rb, ro + 3, none⟩) hrbw).trans C03.out
    have wb_04 : wb.cell? ⟨rb, ro + 4, none⟩ = some (.string y0.fSymbol) := ((Below.refl wb.heap.size wb).cell (p := ⟨rb, ro + 4, none⟩) hrbw).trans C04.out
    have wb_05 : wb.cell? ⟨rb, ro + 5, none⟩ = some (.string y0.fName) := ((Below.refl wb.heap.size wb).cell (p := ⟨rb, ro + 5, none⟩) hrbw).trans C05.out
    have wb_06 : wb.cell? ⟨rb, ro + 6, none⟩ = some (.slice a0_ y0.fArgs.length c0_) := ((Below.refl wb.heap.size wb).cell (p := ⟨rb, ro + 6, none⟩) hrbw).trans C06.out
    go_wp2_with fail
    refine (HM0.out wb (Below.refl wb.heap.size wb)).mono ?_
    rintro e v0 ⟨rfl, hbv⟩
    have BV0 := Lib.hid ((Below.refl wb.heap.size wb).trans (hbv.mono (Below.refl wb.heap.size wb).size))
    clear hbv wb_b6 wb_00 wb_01 wb_02 wb_03 wb_04 wb_05 wb_06
    cases m0
    · skip
      go_wp2
      go_ret
      exact ⟨ret_b FIN.out.symm, HWB.out.trans (BV0.out.mono HWB.out.size)⟩
    · skip
      have v0_b6 : v0.cell? ⟨w.heap.size, 6, none⟩ = some (.slice (some ⟨rb, ro, none⟩) 2 c6) := (BV0.out.cell (p := ⟨w.heap.size, 6, none⟩) HWS.out).trans HP6.out
      have v0_10 : v0.cell? ⟨rb, ro + 7, none⟩ = some (.int .i64 y1.fKind) := (BV0.out.cell (p := ⟨rb, ro + 7, none⟩) hrbw).trans C10.out
      have v0_11 : v0.cell? ⟨rb, ro + 8, none⟩ = some (.int .i64 y1.fN) := (BV0.out.cell (p := ⟨rb, ro + 8, none⟩) hrbw).trans C11.out
      have v0_12 : v0.cell? ⟨rb, ro + 9, none⟩ = some (.int .i64 y1.fPos) := (BV0.out.cell (p := ⟨rb, ro + 9, none⟩) hrbw).trans C12.out
      have v0_13 : v0.cell? ⟨rb, ro + 10, none⟩ = some (.int .i64 y1.fType) := (BV0.out.cell (p := ⟨rb, ro + 10, none⟩) hrbw).trans C13.out
      have v0_14 : v0.cell? ⟨rb, ro + 11, none⟩ = some (.string y1.fSymbol) := (BV0.out.cell (p := ⟨rb, ro + 11, none⟩) hrbw).trans C14.out
      have v0_15 : v0.cell? ⟨rb, ro + 12, none⟩ = some (.string y1.fName) := (BV0.out.cell (p := ⟨rb, ro + 12, none⟩) hrbw).trans C15.out
      have v0_16 : v0.cell? ⟨rb, ro + 13, none⟩ = some (.slice a1_ y1.fArgs.length c1_) := (BV0.out.cell (p := ⟨rb, ro + 13, none⟩) hrbw).trans C16.out
      go_wp2_with fail
      refine (HM1.out v0 BV0.out).mono ?_
      rintro e v1 ⟨rfl, hbv⟩
      have BV1 := Lib.hid (BV0.out.trans (hbv.mono BV0.out.size))
      clear hbv v0_b6 v0_10 v0_11 v0_12 v0_13 v0_14 v0_15 v0_16
      go_wp2
      go_ret
      exact ⟨ret_b FIN.out.symm, HWB.out.trans (BV1.out.mono HWB.out.size)⟩
  · skip
    have wb_b6 : wb.cell? ⟨w.heap.size, 6, none⟩ = some (.slice (some ⟨rb, ro, none⟩) 2 c6) := ((Below.refl wb.heap.size wb).cell (p := ⟨w.heap.size, 6, none⟩) HWS.out).trans HP6.out
    have wb_00 : wb.cell? ⟨rb, ro, none⟩ = some (.int .i64 y0.fKind) := ((Below.refl wb.heap.size wb).cell (p := ⟨rb, ro, none⟩) hrbw).trans C00.out
    have wb_01 : wb.cell? ⟨rb, ro + 1, none⟩ = some (.int .i64 y0.fN) := ((Below.refl wb.heap.size wb).cell (p := ⟨rb, ro + 1, none⟩) hrbw).trans C01.out
    have wb_02 : wb.cell? ⟨rb, ro + 2, none⟩ = some (.int .i64 y0.fPos) := ((Below.refl wb.heap.size wb).cell (p := ⟨rb, ro + 2, none⟩) hrbw).trans C02.out
    have wb_03 : wb.cell? ⟨rb, ro + 3, none⟩ = some (.int .i64 y0.fType) := ((Below.refl wb.heap.size wb).cell (p := ⟨rb, ro + 3, none⟩) hrbw).trans C03.out
    have wb_04 : wb.cell? ⟨rb, ro + 4, none⟩ = some (.string y0.fSymbol) := ((Below.refl wb.heap.size wb).cell (p := ⟨rb, ro + 4, none⟩) hrbw).trans C04.out
    have wb_05 : wb.cell? ⟨rb, ro + 5, none⟩ = some (.string y0.fName) := ((Below.refl wb.heap.size wb).cell (p := ⟨rb, ro + 5, none⟩) hrbw).trans C05.out
    have wb_06 : wb.cell? ⟨rb, ro + 6, none⟩ = some (.slice a0_ y0.fArgs.length c0_) := ((Below.refl wb.heap.size wb).cell (p := ⟨rb, ro + 6, none⟩) hrbw).trans C06.out
    go_wp2_with fail
    refine (HM0.out wb (Below.refl wb.heap.size wb)).mono ?_
    rintro e v0 ⟨rfl, hbv⟩
    have BV0 := Lib.hid ((Below.refl wb.heap.size wb).trans (hbv.mono (Below.refl wb.heap.size wb).size))
    clear hbv wb_b6 wb_00 wb_01 wb_02 wb_03 wb_04 wb_05 wb_06
    cases m0
    · skip
      go_wp2
      go_ret
      exact ⟨ret_b FIN.out.symm, HWB.out.trans (BV0.out.mono HWB.out.size)⟩
    · skip
      have v0_b6 : v0.cell? ⟨w.heap.size, 6, none⟩ = some (.slice (some ⟨rb, ro, none⟩) 2 c6) := (BV0.out.cell (p := ⟨w.heap.size, 6, none⟩) HWS.out).trans HP6.out
      have v0_10 : v0.cell? ⟨rb, ro + 7, none⟩ = some (.int .i64 y1.fKind) := (BV0.out.cell (p := ⟨rb, ro + 7, none⟩) hrbw).trans C10.out
      have v0_11 : v0.cell? ⟨rb, ro + 8, none⟩ = some (.int .i64 y1.fN) := (BV0.out.cell (p := ⟨rb, ro + 8, none⟩) hrbw).trans C11.out
      have v0_12 : v0.cell? ⟨rb, ro + 9, none⟩ = some (.int .i64 y1.fPos) := (BV0.out.cell (p := ⟨rb, ro + 9, none⟩) hrbw).trans C12.out
      have v0_13 : v0.cell? ⟨rb, ro + 10, none⟩ = some (.int .i64 y1.fType) := (BV0.out.cell (p := ⟨rb, ro + 10, none⟩) hrbw).trans C13.out
      have v0_14 : v0.cell? ⟨rb, ro + 11, none⟩ = some (.string y1.fSymbol) := (BV0.out.cell (p := ⟨rb, ro + 11, none⟩) hrbw).trans C14.out
      have v0_15 : v0.cell? ⟨rb, ro + 12, none⟩ = some (.string y1.fName) := (BV0.out.cell (p := ⟨rb, ro + 12, none⟩) hrbw).trans C15.out
      have v0_16 : v0.cell? ⟨rb, ro + 13, none⟩ = some (.slice a1_ y1.fArgs.length c1_) := (BV0.out.cell (p := ⟨rb, ro + 13, none⟩) hrbw).trans C16.out
      go_wp2_with fail
      refine (HM1.out v0 BV0.out).mono ?_
      rintro e v1 ⟨rfl, hbv⟩
      have BV1 := Lib.hid (BV0.out.trans (hbv.mono BV0.out.size))
      clear hbv v0_b6 v0_10 v0_11 v0_12 v0_13 v0_14 v0_15 v0_16
      go_wp2
      go_ret
      exact ⟨ret_b FIN.out.symm, HWB.out.trans (BV1.out.mono HWB.out.size)⟩

set_option maxHeartbeats 3200000 in
set_option maxRecDepth 100000 in
theorem specMono_first (l : List DOccurrence) (hl : lsz DOccurrence.sz l ≤ 1048576) (x : DExpr) (ih : ∀ a ∈ x.fArgs, SpecMono l a) (hu : usesX l x = true) (h4 : x.fKind = 4) (hn2 : x.fArgs.length = 2) (N : Int) (hN : x.fN = N) (hN2 : N = 8 ∨ N = 12) : SpecMono l x := by
  intro lo hi c6 c0 a6 a0 hsz w hhi hs6 hs
  have hn : x.fArgs.length ≤ 1048576 := by have h := hsz; rw [DExpr.sz_eq] at h; unfold lsz at h; omega
  have HZ := Lib.hid hsz
  have IH := Lib.hid ih
  have HS := Lib.hid hs6
  have HSL := Lib.hid (fun (W : World) (hW : Below w.heap.size w W) => hs.later hW hhi)
  have HW0 := Lib.hid ((Below.refl w.heap.size w).alloc (Nat.le_refl _) (.cells #[.int .i64 x.fKind, .int .i64 x.fN, .int .i64 x.fPos, .int .i64 x.fType, .string x.fSymbol, .string x.fName, .slice a6 x.fArgs.length c6] 31))
  have HHI := Lib.hid hhi
  clear hsz ih hs6 hs
  have HUX := Lib.hid (spec_UsesAny0 l hl x (c6 := c6) (c0 := c0) HZ.out (w.alloc (.cells #[.int .i64 x.fKind, .int .i64 x.fN, .int .i64 x.fPos, .int .i64 x.fType, .string x.fSymbol, .string x.fName, .slice a6 x.fArgs.length c6] 31)) (Nat.le_trans hhi HW0.out.size) (HS.out.later HW0.out hhi) (HSL.out _ HW0.out))
  have hszx := HZ.out
  rw [DExpr.sz_eq] at hszx
  have FIN := Lib.hid (monoX_first hu h4 hn2 (by rw [hN]; exact hN2))
  rw [hu] at HUX
  have HWS0 := Lib.hid (show (w.alloc (.cells #[.int .i64 x.fKind, .int .i64 x.fN, .int .i64 x.fPos, .int .i64 x.fType, .string x.fSymbol, .string x.fName, .slice a6 x.fArgs.length c6] 31)).heap.size = w.heap.size + 1 by simp)
  have HNL := Lib.hid hn2
  clear hn2
  clear hu
  rw [h4, hN] at HUX HW0 HWS0 ⊢
  clear h4 hN
  go_enter Try.func14, Try.ntmps14
  go_wp2_with fail
  refine HUX.out.mono ?_
  rintro e wb ⟨rfl, hb1⟩
  have HWB := Lib.hid (HW0.out.trans (hb1.mono HW0.out.size))
  have HWS := Lib.hid (show w.heap.size < wb.heap.size from by have := hb1.size; rw [HWS0.out] at this; exact this)
  have p0 : wb.cell? ⟨w.heap.size, 0, none⟩ = some (Value.int .i64 4) := (hb1.cell (p := ⟨w.heap.size, 0, none⟩) (by show w.heap.size < _; rw [HWS0.out]; omega)).trans (show _ = some (Value.int .i64 4) by go_simp)
  have p1 : wb.cell? ⟨w.heap.size, 1, none⟩ = some (Value.int .i64 N) := (hb1.cell (p := ⟨w.heap.size, 1, none⟩) (by show w.heap.size < _; rw [HWS0.out]; omega)).trans (show _ = some (Value.int .i64 N) by go_simp)
  have p6 : wb.cell? ⟨w.heap.size, 6, none⟩ = some (.slice a6 x.fArgs.length c6) := (hb1.cell (p := ⟨w.heap.size, 6, none⟩) (by show w.heap.size < _; rw [HWS0.out]; omega)).trans (show _ = some (Value.slice a6 x.fArgs.length c6) by go_simp)
  clear hb1 HUX
  have hsl := HS.out.later (HWB.out.mono hhi) (Nat.le_refl _)
  obtain ⟨rb, ro, rfl, _, hrb, _⟩ := hsl.at 0 (by rw [HNL.out]; decide)
  have HAT := Lib.hid (show ∀ k, k < x.fArgs.length → _ from fun k hk => by
    obtain ⟨b', o', e', _, _, hc⟩ := hsl.at k hk
    simp only [Option.some.injEq, Addr.mk.injEq, and_true] at e'
    obtain ⟨rfl, rfl⟩ := e'
    exact hc)
  have hrbw : rb < wb.heap.size := Nat.lt_of_lt_of_le hrb (Nat.le_trans hhi HWB.out.size)
  have HP6 := Lib.hid p6
  have hk0 : 0 < x.fArgs.length := by rw [HNL.out]; decide
  have ha0 := HAT.out 0 hk0
  rw [ctE_at hk0] at ha0
  obtain ⟨a0_, c0_, A00, A01, A02, A03, A04, A05, A06, S0_⟩ := DExpr.open ha0
  have Z0 := szle_at (f := DExpr.sz) x.fArgs 0 hk0
  have HU0 := Lib.hid (fun (W : World) (hW : Below wb.heap.size wb W) => spec_UsesAny0 l hl (x.fArgs.getD 0 default) (c6 := c0_) (c0 := c0) (by omega) W (Nat.le_trans (Nat.le_trans HHI.out HWB.out.size) hW.size) (S0_.later (hW.mono (Nat.le_trans HHI.out HWB.out.size)) (Nat.le_refl _)) (HSL.out W (HWB.out.trans (hW.mono HWB.out.size))))
  have HM0 := Lib.hid (fun (W : World) (hW : Below wb.heap.size wb W) => IH.out _ (getD_mem hk0) (c6 := c0_) (c0 := c0) (by omega) W (Nat.le_trans (Nat.le_trans HHI.out HWB.out.size) hW.size) (S0_.later (hW.mono (Nat.le_trans HHI.out HWB.out.size)) (Nat.le_refl _)) (HSL.out W (HWB.out.trans (hW.mono HWB.out.size))))
  have hk1 : 1 < x.fArgs.length := by rw [HNL.out]; decide
  have ha1 := HAT.out 1 hk1
  rw [ctE_at hk1] at ha1
  obtain ⟨a1_, c1_, A10, A11, A12, A13, A14, A15, A16, S1_⟩ := DExpr.open ha1
  have Z1 := szle_at (f := DExpr.sz) x.fArgs 1 hk1
  have HU1 := Lib.hid (fun (W : World) (hW : Below wb.heap.size wb W) => spec_UsesAny0 l hl (x.fArgs.getD 1 default) (c6 := c1_) (c0 := c0) (by omega) W (Nat.le_trans (Nat.le_trans HHI.out HWB.out.size) hW.size) (S1_.later (hW.mono (Nat.le_trans HHI.out HWB.out.size)) (Nat.le_refl _)) (HSL.out W (HWB.out.trans (hW.mono HWB.out.size))))
  have HM1 := Lib.hid (fun (W : World) (hW : Below wb.heap.size wb W) => IH.out _ (getD_mem hk1) (c6 := c1_) (c0 := c0) (by omega) W (Nat.le_trans (Nat.le_trans HHI.out HWB.out.size) hW.size) (S1_.later (hW.mono (Nat.le_trans HHI.out HWB.out.size)) (Nat.le_refl _)) (HSL.out W (HWB.out.trans (hW.mono HWB.out.size))))
  clear hsl HAT IH HS p6
  have C00 := Lib.hid (show wb.cell? ⟨rb, ro, none⟩ = some (.int .i64 (x.fArgs.getD 0 default).fKind) from A00)
  have C01 := Lib.hid (show wb.cell? ⟨rb, ro + 1, none⟩ = some (.int .i64 (x.fArgs.getD 0 default).fN) from A01)
  have C02 := Lib.hid (show wb.cell? ⟨rb, ro + 2, none⟩ = some (.int .i64 (x.fArgs.getD 0 default).fPos) from A02)
  have C03 := Lib.hid (show wb.cell? ⟨rb, ro + 3, none⟩ = some (.int .i64 (x.fArgs.getD 0 default).fType) from A03)
  have C04 := Lib.hid (show wb.cell? ⟨rb, ro + 4, none⟩ = some (.string (x.fArgs.getD 0 default).fSymbol) from A04)
  have C05 := Lib.hid (show wb.cell? ⟨rb, ro + 5, none⟩ = some (.string (x.fArgs.getD 0 default).fName) from A05)
  have C06 := Lib.hid (show wb.cell? ⟨rb, ro + 6, none⟩ = some (.slice a0_ (x.fArgs.getD 0 default).fArgs.length c0_) from A06)
  clear ha0 A00 A01 A02 A03 A04 A05 A06 S0_ Z0
  generalize x.fArgs.getD 0 default = y0 at *
  have C10 := Lib.hid (show wb.cell? ⟨rb, ro + 7, none⟩ = some (.int .i64 (x.fArgs.getD 1 default).fKind) from A10)
  have C11 := Lib.hid (show wb.cell? ⟨rb, ro + 8, none⟩ = some (.int .i64 (x.fArgs.getD 1 default).fN) from A11)
  have C12 := Lib.hid (show wb.cell? ⟨rb, ro + 9, none⟩ = some (.int .i64 (x.fArgs.getD 1 default).fPos) from A12)
  have C13 := Lib.hid (show wb.cell? ⟨rb, ro + 10, none⟩ = some (.int .i64 (x.fArgs.getD 1 default).fType) from A13)
  have C14 := Lib.hid (show wb.cell? ⟨rb, ro + 11, none⟩ = some (.string (x.fArgs.getD 1 default).fSymbol) from A14)
  have C15 := Lib.hid (show wb.cell? ⟨rb, ro + 12, none⟩ = some (.string (x.fArgs.getD 1 default).fName) from A15)
  have C16 := Lib.hid (show wb.cell? ⟨rb, ro + 13, none⟩ = some (.slice a1_ (x.fArgs.getD 1 default).fArgs.length c1_) from A16)
  clear ha1 A10 A11 A12 A13 A14 A15 A16 S1_ Z1
  generalize x.fArgs.getD 1 default = y1 at *
  generalize monoX l y0 = m0 at *
  generalize usesX l y1 = u1 at *
  rw [HNL.out] at HP6 ⊢
  clear HNL hn hszx HZ hk0 hk1
  rcases hN2 with rfl | rfl
  · skip
    have wb_b6 : wb.cell? ⟨w.heap.size, 6, none⟩ = some (.slice (some ⟨rb, ro, none⟩) 2 c6) := ((Below.refl wb.heap.size wb).cell (p := ⟨w.heap.size, 6, none⟩) HWS.out).trans HP6.out
    have wb_00 : wb.cell? ⟨rb, ro, none⟩ = some (.int .i64 y0.fKind) := ((Below.refl wb.heap.size wb).cell (p := ⟨rb, ro, none⟩) hrbw).trans C00.out
    have wb_01 : wb.cell? ⟨rb, ro + 1, none⟩ = some (.int .i64 y0.fN) := ((Below.refl wb.heap.size wb).cell (p := ⟨rb, ro + 1, none⟩) hrbw).trans C01.out
    have wb_02 : wb.cell? ⟨rb, ro + 2, none⟩ = some (.int .i64 y0.fPos) := ((Below.refl wb.heap.size wb).cell (p := ⟨rb, ro + 2, none⟩) hrbw).trans C02.out
    have wb_03 : wb.cell? ⟨rb, ro + 3, none⟩ = some (.int .i64 y0.fType) := ((Below.refl wb.heap.size wb).cell (p := ⟨rb, ro + 3, none⟩) hrbw).trans C03.out
    have wb_04 : wb.cell? ⟨rb, ro + 4, none⟩ = some (.string y0.fSymbol) := ((Below.refl wb.heap.size wb).cell (p := ⟨rb, ro + 4, none⟩) hrbw).trans C04.out
    have wb_05 : wb.cell? ⟨rb, ro + 5, none⟩ = some (.string y0.fName) := ((Below.refl wb.heap.size wb).cell (p := ⟨rb, ro + 5, none⟩) hrbw).trans C05.out
    have wb_06 : wb.cell? ⟨rb, ro + 6, none⟩ = some (.slice a0_ y0.fArgs.length c0_) := ((Below.refl wb.heap.size wb).cell (p := ⟨rb, ro + 6, none⟩) hrbw).trans C06.out
    go_wp2_with fail
    refine (HM0.out wb (Below.refl wb.heap.size wb)).mono ?_
    rintro e v0 ⟨rfl, hbv⟩
    have BV0 := Lib.hid ((Below.refl wb.heap.size wb).trans (hbv.mono (Below.refl wb.heap.size wb).size))
    clear hbv wb_b6 wb_00 wb_01 wb_02 wb_03 wb_04 wb_05 wb_06
    cases m0
    · skip
      go_wp2
      go_ret
      exact ⟨ret_b FIN.out.symm, HWB.out.trans (BV0.out.mono HWB.out.size)⟩
    · skip
      have v0_b6 : v0.cell? ⟨w.heap.size, 6, none⟩ = some (.slice (some ⟨rb, ro, none⟩) 2 c6) := (BV0.out.cell (p := ⟨w.heap.size, 6, none⟩) HWS.out).trans HP6.out
      have v0_10 : v0.cell? ⟨rb, ro + 7, none⟩ = some (.int .i64 y1.fKind) := (BV0.out.cell (p := ⟨rb, ro + 7, none⟩) hrbw).trans C10.out
      have v0_11 : v0.cell? ⟨rb, ro + 8, none⟩ = some (.int .i64 y1.fN) := (BV0.out.cell (p := ⟨rb, ro + 8, none⟩) hrbw).trans C11.out
      have v0_12 : v0.cell? ⟨rb, ro + 9, none⟩ = some (.int .i64 y1.fPos) := (BV0.out.cell (p := ⟨rb, ro + 9, none⟩) hrbw).trans C12.out
      have v0_13 : v0.cell? ⟨rb, ro + 10, none⟩ = some (.int .i64 y1.fType) := (BV0.out.cell (p := ⟨rb, ro + 10, none⟩) hrbw).trans C13.out
      have v0_14 : v0.cell? ⟨rb, ro + 11, none⟩ = some (.string y1.fSymbol) := (BV0.out.cell (p := ⟨rb, ro + 11, none⟩) hrbw).trans C14.out
      have v0_15 : v0.cell? ⟨rb, ro + 12, none⟩ = some (.string y1.fName) := (BV0.out.cell (p := ⟨rb, ro + 12, none⟩) hrbw).trans C15.out
      have v0_16 : v0.cell? ⟨rb, ro + 13, none⟩ = some (.slice a1_ y1.fArgs.length c1_) := (BV0.out.cell (p := ⟨rb, ro + 13, none⟩) hrbw).trans C16.out
      go_wp2_with fail
      refine (HU1.out v0 BV0.out).mono ?_
      rintro e v1 ⟨rfl, hbv⟩
      have BV1 := Lib.hid (BV0.out.trans (hbv.mono BV0.out.size))
      clear hbv v0_b6 v0_10 v0_11 v0_12 v0_13 v0_14 v0_15 v0_16
      go_wp2
      go_ret
      exact ⟨ret_b FIN.out.symm, HWB.out.trans (BV1.out.mono HWB.out.size)⟩
  · skip
    have wb_b6 : wb.cell? ⟨w.heap.size, 6, none⟩ = some (.slice (some ⟨rb, ro, none⟩) 2 c6) := ((Below.refl wb.heap.size wb).cell (p := ⟨w.heap.size, 6, none⟩) HWS.out).trans HP6.out
    have wb_00 : wb.cell? ⟨rb, ro, none⟩ = some (.int .i64 y0.fKind) := ((Below.refl wb.heap.size wb).cell (p := ⟨rb, ro, none⟩) hrbw).trans C00.out
    have wb_01 : wb.cell? ⟨rb, ro + 1, none⟩ = some (.int .i64 y0.fN) := ((Below.refl wb.heap.size wb).cell (p := ⟨rb, ro + 1, none⟩) hrbw).trans C01.out
    have wb_02 : wb.cell? ⟨rb, ro + 2, none⟩ = some (.int .i64 y0.fPos) := ((Below.refl wb.heap.size wb).cell (p := ⟨rb, ro + 2, none⟩) hrbw).trans C02.out
    have wb_03 : wb.cell? ⟨rb, ro + 3, none⟩ = some (.int .i64 y0.fType) := ((Below.refl wb.heap.size wb).cell (p := ⟨rb, ro + 3, none⟩) hrbw).trans C03.out
    have wb_04 : wb.cell? ⟨rb, ro + 4, none⟩ = some (.string y0.fSymbol) := ((Below.refl wb.heap.size wb).cell (p := ⟨rb, ro + 4, none⟩) hrbw).trans C04.out
    have wb_05 : wb.cell? ⟨rb, ro + 5, none⟩ = some (.string y0.fName) := ((Below.refl wb.heap.size wb).cell (p := ⟨rb, ro + 5, none⟩) hrbw).trans C05.out
    have wb_06 : wb.cell? ⟨rb, ro + 6, none⟩ = some (.slice a0_ y0.fArgs.length c0_) := ((Below.refl wb.heap.size wb).cell (p := ⟨rb, ro + 6, none⟩) hrbw).trans C06.out
    go_wp2_with fail
    refine (HM0.out wb (Below.refl wb.heap.size wb)).mono ?_
    rintro e v0 ⟨rfl, hbv⟩
    have BV0 := Lib.hid ((Below.refl wb.heap.size wb).trans (hbv.mono (Below.refl wb.heap.size wb).size))
    clear hbv wb_b6 wb_00 wb_01 wb_02 wb_03 wb_04 wb_05 wb_06
    cases m0
    · skip
      go_wp2
      go_ret
      exact ⟨ret_b FIN.out.symm, HWB.out.trans (BV0.out.mono HWB.out.size)⟩
    · skip
      have v0_b6 : v0.cell? ⟨w.heap.size, 6, none⟩ = some (.slice (some ⟨rb, ro, none⟩) 2 c6) := (BV0.out.cell (p := ⟨w.heap.size, 6, none⟩) HWS.out).trans HP6.out
      have v0_10 : v0.cell? ⟨rb, ro + 7, none⟩ = some (.int .i64 y1.fKind) := (BV0.out.cell (p := ⟨rb, ro + 7, none⟩) hrbw).trans C10.out
      have v0_11 : v0.cell? ⟨rb, ro + 8, none⟩ = some (.int .i64 y1.fN) := (BV0.out.cell (p := ⟨rb, ro + 8, none⟩) hrbw).trans C11.out
      have v0_12 : v0.cell? ⟨rb, ro + 9, none⟩ = some (.int .i64 y1.fPos) := (BV0.out.cell (p := ⟨rb, ro + 9, none⟩) hrbw).trans C12.out
      have v0_13 : v0.cell? ⟨rb, ro + 10, none⟩ = some (.int .i64 y1.fType) := (BV0.out.cell (p := ⟨rb, ro + 10, none⟩) hrbw).trans C13.out
      have v0_14 : v0.cell? ⟨rb, ro + 11, none⟩ = some (.string y1.fSymbol) := (BV0.out.cell (p := ⟨rb, ro + 11, none⟩) hrbw).trans C14.out
      have v0_15 : v0.cell? ⟨rb, ro + 12, none⟩ = some (.string y1.fName) := (BV0.out.cell (p := ⟨rb, ro + 12, none⟩) hrbw).trans C15.out
      have v0_16 : v0.cell? ⟨rb, ro + 13, none⟩ = some (.slice a1_ y1.fArgs.length c1_) := (BV0.out.cell (p := ⟨rb, ro + 13, none⟩) hrbw).trans C16.out
      go_wp2_with fail
      refine (HU1.out v0 BV0.out).mono ?_
      rintro e v1 ⟨rfl, hbv⟩
      have BV1 := Lib.hid (BV0.out.trans (hbv.mono BV0.out.size))
      clear hbv v0_b6 v0_10 v0_11 v0_12 v0_13 v0_14 v0_15 v0_16
      go_wp2
      go_ret
      exact ⟨ret_b FIN.out.symm, HWB.out.trans (BV1.out.mono HWB.out.size)⟩

set_option maxHeartbeats 3200000 in
set_option maxRecDepth 100000 in
theorem specMono_rest (l : List DOccurrence) (hl : lsz DOccurrence.sz l ≤ 1048576) (x : DExpr) (ih : ∀ a ∈ x.fArgs, SpecMono l a) (hu : usesX l x = true) (h4 : x.fKind = 4) (hn2 : x.fArgs.length = 2) (hN : x.fN ≠ 6 ∧ x.fN ≠ 7 ∧ x.fN ≠ 8 ∧ x.fN ≠ 12) : SpecMono l x := by
  intro lo hi c6 c0 a6 a0 hsz w hhi hs6 hs
  have hn : x.fArgs.length ≤ 1048576 := by have h := hsz; rw [DExpr.sz_eq] at h; unfold lsz at h; omega
  have HZ := Lib.hid hsz
  have IH := Lib.hid ih
  have HS := Lib.hid hs6
  have HSL := Lib.hid (fun (W : World) (hW : Below w.heap.size w W) => hs.later hW hhi)
  have HW0 := Lib.hid ((Below.refl w.heap.size w).alloc (Nat.le_refl _) (.cells #[.int .i64 x.fKind, .int .i64 x.fN, .int .i64 x.fPos, .int .i64 x.fType, .string x.fSymbol, .string x.fName, .slice a6 x.fArgs.length c6] 31))
  have HHI := Lib.hid hhi
  clear hsz ih hs6 hs
  have HUX := Lib.hid (spec_UsesAny0 l hl x (c6 := c6) (c0 := c0) HZ.out (w.alloc (.cells #[.int .i64 x.fKind, .int .i64 x.fN, .int .i64 x.fPos, .int .i64 x.fType, .string x.fSymbol, .string x.fName, .slice a6 x.fArgs.length c6] 31)) (Nat.le_trans hhi HW0.out.size) (HS.out.later HW0.out hhi) (HSL.out _ HW0.out))
  have hszx := HZ.out
  rw [DExpr.sz_eq] at hszx
  have FIN := Lib.hid (monoX_rest hu h4 hn2 hN)
  rw [hu] at HUX
  have HWS0 := Lib.hid (show (w.alloc (.cells #[.int .i64 x.fKind, .int .i64 x.fN, .int .i64 x.fPos, .int .i64 x.fType, .string x.fSymbol, .string x.fName, .slice a6 x.fArgs.length c6] 31)).heap.size = w.heap.size + 1 by simp)
  have HNL := Lib.hid hn2
  clear hn2
  clear hu
  obtain ⟨n6, n7, n8, n12⟩ := hN
  have q6 : (x.fN == 6) = false := beq_eq_false_iff_ne.2 n6
  have q7 : (x.fN == 7) = false := beq_eq_false_iff_ne.2 n7
  have q8 : (x.fN == 8) = false := beq_eq_false_iff_ne.2 n8
  have q12 : (x.fN == 12) = false := beq_eq_false_iff_ne.2 n12
  clear n6 n7 n8 n12 hszx
  rw [h4] at HUX HW0 HWS0 ⊢
  clear h4
  go_enter Try.func14, Try.ntmps14
  go_wp2_with fail
  refine HUX.out.mono ?_
  rintro e wb ⟨rfl, hb1⟩
  have HWB := Lib.hid (HW0.out.trans (hb1.mono HW0.out.size))
  have HWS := Lib.hid (show w.heap.size < wb.heap.size from by have := hb1.size; rw [HWS0.out] at this; exact this)
  have p0 : wb.cell? ⟨w.heap.size, 0, none⟩ = some (Value.int .i64 4) := (hb1.cell (p := ⟨w.heap.size, 0, none⟩) (by show w.heap.size < _; rw [HWS0.out]; omega)).trans (show _ = some (Value.int .i64 4) by go_simp)
  have p1 : wb.cell? ⟨w.heap.size, 1, none⟩ = some (Value.int .i64 x.fN) := (hb1.cell (p := ⟨w.heap.size, 1, none⟩) (by show w.heap.size < _; rw [HWS0.out]; omega)).trans (show _ = some (Value.int .i64 x.fN) by go_simp)
  have p6 : wb.cell? ⟨w.heap.size, 6, none⟩ = some (.slice a6 x.fArgs.length c6) := (hb1.cell (p := ⟨w.heap.size, 6, none⟩) (by show w.heap.size < _; rw [HWS0.out]; omega)).trans (show _ = some (Value.slice a6 x.fArgs.length c6) by go_simp)
  clear hb1 HUX
  rw [HNL.out] at p6 ⊢
  clear HNL hn
  go_wp2
  all_goals (go_ret; exact ⟨ret_b FIN.out.symm, HWB.out⟩)

set_option maxHeartbeats 3200000 in
set_option maxRecDepth 100000 in
theorem specMono_other (l : List DOccurrence) (hl : lsz DOccurrence.sz l ≤ 1048576) (x : DExpr) (ih : ∀ a ∈ x.fArgs, SpecMono l a) (hu : usesX l x = true) (h3 : ¬ x.fKind = 3) (h5 : ¬ (x.fKind = 5 ∧ x.fArgs.length = 3)) (h : x.fKind ≠ 4 ∨ x.fArgs.length ≠ 2) : SpecMono l x := by
  intro lo hi c6 c0 a6 a0 hsz w hhi hs6 hs
  have hn : x.fArgs.length ≤ 1048576 := by have h := hsz; rw [DExpr.sz_eq] at h; unfold lsz at h; omega
  have HZ := Lib.hid hsz
  have IH := Lib.hid ih
  have HS := Lib.hid hs6
  have HSL := Lib.hid (fun (W : World) (hW : Below w.heap.size w W) => hs.later hW hhi)
  have HW0 := Lib.hid ((Below.refl w.heap.size w).alloc (Nat.le_refl _) (.cells #[.int .i64 x.fKind, .int .i64 x.fN, .int .i64 x.fPos, .int .i64 x.fType, .string x.fSymbol, .string x.fName, .slice a6 x.fArgs.length c6] 31))
  have HHI := Lib.hid hhi
  clear hsz ih hs6 hs
  have HUX := Lib.hid (spec_UsesAny0 l hl x (c6 := c6) (c0 := c0) HZ.out (w.alloc (.cells #[.int .i64 x.fKind, .int .i64 x.fN, .int .i64 x.fPos, .int .i64 x.fType, .string x.fSymbol, .string x.fName, .slice a6 x.fArgs.length c6] 31)) (Nat.le_trans hhi HW0.out.size) (HS.out.later HW0.out hhi) (HSL.out _ HW0.out))
  have hszx := HZ.out
  rw [DExpr.sz_eq] at hszx
  have FIN := Lib.hid (monoX_other hu h3 h5 h)
  rw [hu] at HUX
  have HWS0 := Lib.hid (show (w.alloc (.cells #[.int .i64 x.fKind, .int .i64 x.fN, .int .i64 x.fPos, .int .i64 x.fType, .string x.fSymbol, .string x.fName, .slice a6 x.fArgs.length c6] 31)).heap.size = w.heap.size + 1 by simp)
  clear hu
  have q3 : (x.fKind == 3) = false := beq_eq_false_iff_ne.2 h3
  clear hszx
  go_enter Try.func14, Try.ntmps14
  go_wp2_with fail
  refine HUX.out.mono ?_
  rintro e wb ⟨rfl, hb1⟩
  have HWB := Lib.hid (HW0.out.trans (hb1.mono HW0.out.size))
  have HWS := Lib.hid (show w.heap.size < wb.heap.size from by have := hb1.size; rw [HWS0.out] at this; exact this)
  have p0 : wb.cell? ⟨w.heap.size, 0, none⟩ = some (Value.int .i64 x.fKind) := (hb1.cell (p := ⟨w.heap.size, 0, none⟩) (by show w.heap.size < _; rw [HWS0.out]; omega)).trans (show _ = some (Value.int .i64 x.fKind) by go_simp)
  have p1 : wb.cell? ⟨w.heap.size, 1, none⟩ = some (Value.int .i64 x.fN) := (hb1.cell (p := ⟨w.heap.size, 1, none⟩) (by show w.heap.size < _; rw [HWS0.out]; omega)).trans (show _ = some (Value.int .i64 x.fN) by go_simp)
  have p6 : wb.cell? ⟨w.heap.size, 6, none⟩ = some (.slice a6 x.fArgs.length c6) := (hb1.cell (p := ⟨w.heap.size, 6, none⟩) (by show w.heap.size < _; rw [HWS0.out]; omega)).trans (show _ = some (Value.slice a6 x.fArgs.length c6) by go_simp)
  clear hb1 HUX
  generalize x.fArgs.length = n at *
  go_wp2
  all_goals (go_ret; exact ⟨ret_b FIN.out.symm, HWB.out⟩)

theorem specMono_step (l : List DOccurrence) (hl : lsz DOccurrence.sz l ≤ 1048576) (x : DExpr) (ih : ∀ a ∈ x.fArgs, SpecMono l a) : SpecMono l x := by
  cases hu : usesX l x
  · exact specMono_free l hl x ih hu
  · by_cases h3 : x.fKind = 3
    · exact specMono_attr l hl x ih hu h3
    · by_cases h5 : x.fKind = 5 ∧ x.fArgs.length = 3
      · exact specMono_if l hl x ih hu h5.1 h5.2
      · by_cases h : x.fKind ≠ 4 ∨ x.fArgs.length ≠ 2
        · exact specMono_other l hl x ih hu h3 h5 h
        · have h4 : x.fKind = 4 := by omega
          have hn : x.fArgs.length = 2 := by omega
          by_cases hN : x.fN = 6 ∨ x.fN = 7
          · exact specMono_join l hl x ih hu h4 hn _ rfl hN
          · by_cases hN2 : x.fN = 8 ∨ x.fN = 12
            · exact specMono_first l hl x ih hu h4 hn _ rfl hN2
            · exact specMono_rest l hl x ih hu h4 hn (by omega)
theorem spec_IsMonotone {lo hi c0_0 c1_0 : Nat} {a6 a0 : Option Addr} (x : DExpr) (_ : x.ok) (hsz : x.sz ≤ 1048576) (l : List DOccurrence) (_ : okL DOccurrence.ok l) (hl : lsz DOccurrence.sz l ≤ 1048576) (w : World) (hhi : hi ≤ w.heap.size) (hs6 : Sl lo hi w 7 x.fArgs.length (ctE x.fArgs) a6) (hs : Sl lo hi w 2 l.length (fun k => DOccurrence.ct (l.getD k default)) a0) :
    Calls Try.prog 14 #[.agg #[.int .i64 x.fKind, .int .i64 x.fN, .int .i64 x.fPos, .int .i64 x.fType, .string x.fSymbol, .string x.fName, .slice a6 x.fArgs.length c0_0], .slice a0 l.length c1_0] w fun e w' => e = .returned (.bool (monoX l x)) ∧ Below w.heap.size w w' := DExpr.ind (P := SpecMono l) (specMono_step l hl) x hsz w hhi hs6 hs
end Go.Proofs.Ytamilmhnkiepmaa
