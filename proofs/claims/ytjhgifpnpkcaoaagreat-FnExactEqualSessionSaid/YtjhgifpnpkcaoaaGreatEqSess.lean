/-
  EqualSession, in the model and in the program.
-/
import Derived.Test.YtjhgifpnpkcaoaaGreatTSession
import Derived.Test.YtjhgifpnpkcaoaaGreatEqGram2
import Derived.Test.YtjhgifpnpkcaoaaGreatEqTree
import Derived.Test.YtjhgifpnpkcaoaaGreatEqMemo
namespace Go.Proofs.YtjhgifpnpkcaoaaGreat
open Go.ChangeShapes Go.WideShapes Go.ChangeAt Go.RowKit Go.Deep

/-- Whether two sessions agree. -/
noncomputable def eqSess (x y : DSession) : Bool := eqG x.fGrammar y.fGrammar && (sameT true x.fTree.fNodes y.fTree.fNodes && (eqM x.fMemo y.fMemo && (x.fNext == y.fNext)))

set_option maxHeartbeats 6400000 in
set_option maxRecDepth 100000 in
theorem impl_EqualSession {lo hi : Nat} {a0 a1 a2 a3 a4 b0 b1 b2 b3 b4 : Option Addr} {c0_0 c0_1 c0_2 c0_3 c0_4 c1_0 c1_1 c1_2 c1_3 c1_4 : Nat} (x : DSession) (okx : x.ok) (hx : x.sz ≤ 1048576) (y : DSession) (oky : y.ok) (hy : y.sz ≤ 1048576) (w : World) (hhi : hi ≤ w.heap.size) (hs0 : Sf lo hi w 2 x.fGrammar.fSymbols.length (fun k => DSymbol.ct (x.fGrammar.fSymbols.getD k default)) a0) (hs1 : Sf lo hi w 6 x.fGrammar.fRules.length (fun k => DRule.ct (x.fGrammar.fRules.getD k default)) a1) (hs2 : Sf lo hi w 6 x.fTree.fNodes.length (fun k => DNode.ct (x.fTree.fNodes.getD k default)) a2) (hs3 : Sf lo hi w 9 x.fMemo.fEntries.length (fun k => DEntry.ct (x.fMemo.fEntries.getD k default)) a3) (hs4 : Sf lo hi w 2 x.fMemo.fEvaluated.length (fun k => DInstance.ct (x.fMemo.fEvaluated.getD k default)) a4) (ht0 : Sf lo hi w 2 y.fGrammar.fSymbols.length (fun k => DSymbol.ct (y.fGrammar.fSymbols.getD k default)) b0) (ht1 : Sf lo hi w 6 y.fGrammar.fRules.length (fun k => DRule.ct (y.fGrammar.fRules.getD k default)) b1) (ht2 : Sf lo hi w 6 y.fTree.fNodes.length (fun k => DNode.ct (y.fTree.fNodes.getD k default)) b2) (ht3 : Sf lo hi w 9 y.fMemo.fEntries.length (fun k => DEntry.ct (y.fMemo.fEntries.getD k default)) b3) (ht4 : Sf lo hi w 2 y.fMemo.fEvaluated.length (fun k => DInstance.ct (y.fMemo.fEvaluated.getD k default)) b4) :
    Calls Tryz.prog 7 #[.agg #[.slice a0 x.fGrammar.fSymbols.length c0_0, .slice a1 x.fGrammar.fRules.length c0_1, .slice a2 x.fTree.fNodes.length c0_2, .slice a3 x.fMemo.fEntries.length c0_3, .slice a4 x.fMemo.fEvaluated.length c0_4, .int .i64 x.fNext], .agg #[.slice b0 y.fGrammar.fSymbols.length c1_0, .slice b1 y.fGrammar.fRules.length c1_1, .slice b2 y.fTree.fNodes.length c1_2, .slice b3 y.fMemo.fEntries.length c1_3, .slice b4 y.fMemo.fEvaluated.length c1_4, .int .i64 y.fNext]] w fun e w' => e = .returned (.bool (eqSess x y)) ∧ Below w.heap.size w w' := by
  have zx : x.fGrammar.sz ≤ 1048576 ∧ x.fTree.sz ≤ 1048576 ∧ x.fMemo.sz ≤ 1048576 := by unfold DSession.sz at hx; omega
  have zy : y.fGrammar.sz ≤ 1048576 ∧ y.fTree.sz ≤ 1048576 ∧ y.fMemo.sz ≤ 1048576 := by unfold DSession.sz at hy; omega
  have HB := Lib.hid (((Below.refl w.heap.size w).alloc (Nat.le_refl _) (.cells #[.slice a0 x.fGrammar.fSymbols.length c0_0, .slice a1 x.fGrammar.fRules.length c0_1, .slice a2 x.fTree.fNodes.length c0_2, .slice a3 x.fMemo.fEntries.length c0_3, .slice a4 x.fMemo.fEvaluated.length c0_4, .int .i64 x.fNext] 49)).alloc (by simp) (.cells #[.slice b0 y.fGrammar.fSymbols.length c1_0, .slice b1 y.fGrammar.fRules.length c1_1, .slice b2 y.fTree.fNodes.length c1_2, .slice b3 y.fMemo.fEntries.length c1_3, .slice b4 y.fMemo.fEvaluated.length c1_4, .int .i64 y.fNext] 49))
  have HC0 := Lib.hid (fun (W : World) (hW : Below w.heap.size w W) => impl_EqualGrammar (c0_0 := c0_0) (c0_1 := c0_1) (c1_0 := c1_0) (c1_1 := c1_1) x.fGrammar okx.1 zx.1 y.fGrammar oky.1 zy.1 W (Nat.le_trans hhi hW.size) (hs0.later hW hhi) (hs1.later hW hhi) (ht0.later hW hhi) (ht1.later hW hhi))
  have HC1 := Lib.hid (fun (W : World) (hW : Below w.heap.size w W) => impl_EqualTree (c0_0 := c0_2) (c1_0 := c1_2) x.fTree okx.2.1 zx.2.1 y.fTree oky.2.1 zy.2.1 W (Nat.le_trans hhi hW.size) (hs2.sl.later hW hhi) (ht2.sl.later hW hhi))
  have HC2 := Lib.hid (fun (W : World) (hW : Below w.heap.size w W) => impl_EqualMemo (c0_0 := c0_3) (c0_1 := c0_4) (c1_0 := c1_3) (c1_1 := c1_4) x.fMemo okx.2.2.1 zx.2.2 y.fMemo oky.2.2.1 zy.2.2 W (Nat.le_trans hhi hW.size) (hs3.sl.later hW hhi) (hs4.sl.later hW hhi) (ht3.sl.later hW hhi) (ht4.sl.later hW hhi))
  have HR := Lib.hid (show eqSess x y = (eqG x.fGrammar y.fGrammar && (sameT true x.fTree.fNodes y.fTree.fNodes && (eqM x.fMemo y.fMemo && (x.fNext == y.fNext)))) from rfl)
  clear hs0 ht0 hs1 ht1 hs2 ht2 hs3 ht3 hs4 ht4 hx hy okx oky zx zy
  generalize eqSess x y = res at *
  generalize eqG x.fGrammar y.fGrammar = r0 at *
  generalize sameT true x.fTree.fNodes y.fTree.fNodes = r1 at *
  generalize eqM x.fMemo y.fMemo = r2 at *
  generalize x.fNext = p at *
  generalize y.fNext = q at *
  generalize x.fGrammar.fSymbols.length = m0 at *
  generalize x.fGrammar.fRules.length = m1 at *
  generalize x.fTree.fNodes.length = m2 at *
  generalize x.fMemo.fEntries.length = m3 at *
  generalize x.fMemo.fEvaluated.length = m4 at *
  generalize y.fGrammar.fSymbols.length = n0 at *
  generalize y.fGrammar.fRules.length = n1 at *
  generalize y.fTree.fNodes.length = n2 at *
  generalize y.fMemo.fEntries.length = n3 at *
  generalize y.fMemo.fEvaluated.length = n4 at *
  go_enter Tryz.func7, Tryz.ntmps7
  go_wp2_with fail
  refine (HC0.out _ HB.out).mono ?_
  rintro e w1 ⟨rfl, hb1⟩
  have xw12 : w1.cell? ⟨w.heap.size, 2, none⟩ = some (.slice a2 m2 c0_2) := (hb1.cell (p := ⟨w.heap.size, 2, none⟩) (by simp <;> omega)).trans (by go_simp)
  have xw13 : w1.cell? ⟨w.heap.size, 3, none⟩ = some (.slice a3 m3 c0_3) := (hb1.cell (p := ⟨w.heap.size, 3, none⟩) (by simp <;> omega)).trans (by go_simp)
  have xw14 : w1.cell? ⟨w.heap.size, 4, none⟩ = some (.slice a4 m4 c0_4) := (hb1.cell (p := ⟨w.heap.size, 4, none⟩) (by simp <;> omega)).trans (by go_simp)
  have xw15 : w1.cell? ⟨w.heap.size, 5, none⟩ = some (.int .i64 p) := (hb1.cell (p := ⟨w.heap.size, 5, none⟩) (by simp <;> omega)).trans (by go_simp)
  have yw12 : w1.cell? ⟨w.heap.size + 1, 2, none⟩ = some (.slice b2 n2 c1_2) := (hb1.cell (p := ⟨w.heap.size + 1, 2, none⟩) (by simp <;> omega)).trans (by go_simp)
  have yw13 : w1.cell? ⟨w.heap.size + 1, 3, none⟩ = some (.slice b3 n3 c1_3) := (hb1.cell (p := ⟨w.heap.size + 1, 3, none⟩) (by simp <;> omega)).trans (by go_simp)
  have yw14 : w1.cell? ⟨w.heap.size + 1, 4, none⟩ = some (.slice b4 n4 c1_4) := (hb1.cell (p := ⟨w.heap.size + 1, 4, none⟩) (by simp <;> omega)).trans (by go_simp)
  have yw15 : w1.cell? ⟨w.heap.size + 1, 5, none⟩ = some (.int .i64 q) := (hb1.cell (p := ⟨w.heap.size + 1, 5, none⟩) (by simp <;> omega)).trans (by go_simp)
  have HB1 := Lib.hid (HB.out.trans (hb1.mono HB.out.size))
  have hz1 : w.heap.size + 2 ≤ w1.heap.size := by have := hb1.size; simp at this; omega
  clear hb1 HC0
  cases r0
  · have fin := Lib.hid (show res = false from HR.out)
    clear HR HC1 HC2
    go_wp2
    go_ret
    exact ⟨ret_b fin.out.symm, HB1.out⟩
  go_wp2_with fail
  refine (HC1.out _ HB1.out).mono ?_
  rintro e w2 ⟨rfl, hb2⟩
  have xw23 : w2.cell? ⟨w.heap.size, 3, none⟩ = some (.slice a3 m3 c0_3) := (hb2.cell (p := ⟨w.heap.size, 3, none⟩) (by first | omega | (simp; omega))).trans xw13
  have xw24 : w2.cell? ⟨w.heap.size, 4, none⟩ = some (.slice a4 m4 c0_4) := (hb2.cell (p := ⟨w.heap.size, 4, none⟩) (by first | omega | (simp; omega))).trans xw14
  have xw25 : w2.cell? ⟨w.heap.size, 5, none⟩ = some (.int .i64 p) := (hb2.cell (p := ⟨w.heap.size, 5, none⟩) (by first | omega | (simp; omega))).trans xw15
  have yw23 : w2.cell? ⟨w.heap.size + 1, 3, none⟩ = some (.slice b3 n3 c1_3) := (hb2.cell (p := ⟨w.heap.size + 1, 3, none⟩) (by first | omega | (simp; omega))).trans yw13
  have yw24 : w2.cell? ⟨w.heap.size + 1, 4, none⟩ = some (.slice b4 n4 c1_4) := (hb2.cell (p := ⟨w.heap.size + 1, 4, none⟩) (by first | omega | (simp; omega))).trans yw14
  have yw25 : w2.cell? ⟨w.heap.size + 1, 5, none⟩ = some (.int .i64 q) := (hb2.cell (p := ⟨w.heap.size + 1, 5, none⟩) (by first | omega | (simp; omega))).trans yw15
  have HB2 := Lib.hid (HB1.out.trans (hb2.mono HB1.out.size))
  have hz2 : w.heap.size + 2 ≤ w2.heap.size := Nat.le_trans hz1 hb2.size
  clear hb2 HC1 xw12 xw13 xw14 xw15 yw12 yw13 yw14 yw15
  cases r1
  · have fin := Lib.hid (show res = false from HR.out)
    clear HR HC2
    go_wp2
    go_ret
    exact ⟨ret_b fin.out.symm, HB2.out⟩
  go_wp2_with fail
  refine (HC2.out _ HB2.out).mono ?_
  rintro e w3 ⟨rfl, hb3⟩
  have xw35 : w3.cell? ⟨w.heap.size, 5, none⟩ = some (.int .i64 p) := (hb3.cell (p := ⟨w.heap.size, 5, none⟩) (by first | omega | (simp; omega))).trans xw25
  have yw35 : w3.cell? ⟨w.heap.size + 1, 5, none⟩ = some (.int .i64 q) := (hb3.cell (p := ⟨w.heap.size + 1, 5, none⟩) (by first | omega | (simp; omega))).trans yw25
  have HB3 := Lib.hid (HB2.out.trans (hb3.mono HB2.out.size))
  clear hb3 HC2 xw23 xw24 xw25 yw23 yw24 yw25
  cases r2
  · have fin := Lib.hid (show res = false from HR.out)
    clear HR
    go_wp2
    go_ret
    exact ⟨ret_b fin.out.symm, HB3.out⟩
  have fin := Lib.hid (show res = (p == q) from HR.out)
  clear HR
  go_wp2
  go_ret
  exact ⟨ret_b fin.out.symm, HB3.out⟩

set_option maxHeartbeats 6400000 in
set_option maxRecDepth 100000 in
theorem spec_EqualSession {lo hi : Nat} {a0 a1 a2 a3 a4 b0 b1 b2 b3 b4 : Option Addr} {c0_0 c0_1 c0_2 c0_3 c0_4 c1_0 c1_1 c1_2 c1_3 c1_4 : Nat} (x : DSession) (okx : x.ok) (hx : x.sz ≤ 1048576) (y : DSession) (oky : y.ok) (hy : y.sz ≤ 1048576) (w : World) (hhi : hi ≤ w.heap.size) (hs0 : Sl lo hi w 2 x.fGrammar.fSymbols.length (fun k => DSymbol.ct (x.fGrammar.fSymbols.getD k default)) a0) (hs1 : Sl lo hi w 6 x.fGrammar.fRules.length (fun k => DRule.ct (x.fGrammar.fRules.getD k default)) a1) (hs2 : Sl lo hi w 6 x.fTree.fNodes.length (fun k => DNode.ct (x.fTree.fNodes.getD k default)) a2) (hs3 : Sl lo hi w 9 x.fMemo.fEntries.length (fun k => DEntry.ct (x.fMemo.fEntries.getD k default)) a3) (hs4 : Sl lo hi w 2 x.fMemo.fEvaluated.length (fun k => DInstance.ct (x.fMemo.fEvaluated.getD k default)) a4) (ht0 : Sl lo hi w 2 y.fGrammar.fSymbols.length (fun k => DSymbol.ct (y.fGrammar.fSymbols.getD k default)) b0) (ht1 : Sl lo hi w 6 y.fGrammar.fRules.length (fun k => DRule.ct (y.fGrammar.fRules.getD k default)) b1) (ht2 : Sl lo hi w 6 y.fTree.fNodes.length (fun k => DNode.ct (y.fTree.fNodes.getD k default)) b2) (ht3 : Sl lo hi w 9 y.fMemo.fEntries.length (fun k => DEntry.ct (y.fMemo.fEntries.getD k default)) b3) (ht4 : Sl lo hi w 2 y.fMemo.fEvaluated.length (fun k => DInstance.ct (y.fMemo.fEvaluated.getD k default)) b4) :
    Calls Tryz.prog 5 #[.agg #[.slice a0 x.fGrammar.fSymbols.length c0_0, .slice a1 x.fGrammar.fRules.length c0_1, .slice a2 x.fTree.fNodes.length c0_2, .slice a3 x.fMemo.fEntries.length c0_3, .slice a4 x.fMemo.fEvaluated.length c0_4, .int .i64 x.fNext], .agg #[.slice b0 y.fGrammar.fSymbols.length c1_0, .slice b1 y.fGrammar.fRules.length c1_1, .slice b2 y.fTree.fNodes.length c1_2, .slice b3 y.fMemo.fEntries.length c1_3, .slice b4 y.fMemo.fEvaluated.length c1_4, .int .i64 y.fNext]] w fun e w' => e = .returned (.bool (eqSess x y)) ∧ Below w.heap.size w w' := by
  have zx : x.fGrammar.sz ≤ 1048576 ∧ x.fTree.sz ≤ 1048576 ∧ x.fMemo.sz ≤ 1048576 := by unfold DSession.sz at hx; omega
  have zy : y.fGrammar.sz ≤ 1048576 ∧ y.fTree.sz ≤ 1048576 ∧ y.fMemo.sz ≤ 1048576 := by unfold DSession.sz at hy; omega
  have HB := Lib.hid (((Below.refl w.heap.size w).alloc (Nat.le_refl _) (.cells #[.slice a0 x.fGrammar.fSymbols.length c0_0, .slice a1 x.fGrammar.fRules.length c0_1, .slice a2 x.fTree.fNodes.length c0_2, .slice a3 x.fMemo.fEntries.length c0_3, .slice a4 x.fMemo.fEvaluated.length c0_4, .int .i64 x.fNext] 49)).alloc (by simp) (.cells #[.slice b0 y.fGrammar.fSymbols.length c1_0, .slice b1 y.fGrammar.fRules.length c1_1, .slice b2 y.fTree.fNodes.length c1_2, .slice b3 y.fMemo.fEntries.length c1_3, .slice b4 y.fMemo.fEvaluated.length c1_4, .int .i64 y.fNext] 49))
  have HC0 := Lib.hid (fun (W : World) (hW : Below w.heap.size w W) => spec_EqualGrammar (c0_0 := c0_0) (c0_1 := c0_1) (c1_0 := c1_0) (c1_1 := c1_1) x.fGrammar okx.1 zx.1 y.fGrammar oky.1 zy.1 W (Nat.le_trans hhi hW.size) (hs0.later hW hhi) (hs1.later hW hhi) (ht0.later hW hhi) (ht1.later hW hhi))
  have HC1 := Lib.hid (fun (W : World) (hW : Below w.heap.size w W) => spec_EqualTree (c0_0 := c0_2) (c1_0 := c1_2) x.fTree okx.2.1 zx.2.1 y.fTree oky.2.1 zy.2.1 W (Nat.le_trans hhi hW.size) (hs2.later hW hhi) (ht2.later hW hhi))
  have HC2 := Lib.hid (fun (W : World) (hW : Below w.heap.size w W) => spec_EqualMemo (c0_0 := c0_3) (c0_1 := c0_4) (c1_0 := c1_3) (c1_1 := c1_4) x.fMemo okx.2.2.1 zx.2.2 y.fMemo oky.2.2.1 zy.2.2 W (Nat.le_trans hhi hW.size) (hs3.later hW hhi) (hs4.later hW hhi) (ht3.later hW hhi) (ht4.later hW hhi))
  have HR := Lib.hid (show eqSess x y = (eqG x.fGrammar y.fGrammar && (sameT true x.fTree.fNodes y.fTree.fNodes && (eqM x.fMemo y.fMemo && (x.fNext == y.fNext)))) from rfl)
  clear hs0 ht0 hs1 ht1 hs2 ht2 hs3 ht3 hs4 ht4 hx hy okx oky zx zy
  generalize eqSess x y = res at *
  generalize eqG x.fGrammar y.fGrammar = r0 at *
  generalize sameT true x.fTree.fNodes y.fTree.fNodes = r1 at *
  generalize eqM x.fMemo y.fMemo = r2 at *
  generalize x.fNext = p at *
  generalize y.fNext = q at *
  generalize x.fGrammar.fSymbols.length = m0 at *
  generalize x.fGrammar.fRules.length = m1 at *
  generalize x.fTree.fNodes.length = m2 at *
  generalize x.fMemo.fEntries.length = m3 at *
  generalize x.fMemo.fEvaluated.length = m4 at *
  generalize y.fGrammar.fSymbols.length = n0 at *
  generalize y.fGrammar.fRules.length = n1 at *
  generalize y.fTree.fNodes.length = n2 at *
  generalize y.fMemo.fEntries.length = n3 at *
  generalize y.fMemo.fEvaluated.length = n4 at *
  go_enter Tryz.func5, Tryz.ntmps5
  go_wp2_with fail
  refine (HC0.out _ HB.out).mono ?_
  rintro e w1 ⟨rfl, hb1⟩
  have xw12 : w1.cell? ⟨w.heap.size, 2, none⟩ = some (.slice a2 m2 c0_2) := (hb1.cell (p := ⟨w.heap.size, 2, none⟩) (by simp <;> omega)).trans (by go_simp)
  have xw13 : w1.cell? ⟨w.heap.size, 3, none⟩ = some (.slice a3 m3 c0_3) := (hb1.cell (p := ⟨w.heap.size, 3, none⟩) (by simp <;> omega)).trans (by go_simp)
  have xw14 : w1.cell? ⟨w.heap.size, 4, none⟩ = some (.slice a4 m4 c0_4) := (hb1.cell (p := ⟨w.heap.size, 4, none⟩) (by simp <;> omega)).trans (by go_simp)
  have xw15 : w1.cell? ⟨w.heap.size, 5, none⟩ = some (.int .i64 p) := (hb1.cell (p := ⟨w.heap.size, 5, none⟩) (by simp <;> omega)).trans (by go_simp)
  have yw12 : w1.cell? ⟨w.heap.size + 1, 2, none⟩ = some (.slice b2 n2 c1_2) := (hb1.cell (p := ⟨w.heap.size + 1, 2, none⟩) (by simp <;> omega)).trans (by go_simp)
  have yw13 : w1.cell? ⟨w.heap.size + 1, 3, none⟩ = some (.slice b3 n3 c1_3) := (hb1.cell (p := ⟨w.heap.size + 1, 3, none⟩) (by simp <;> omega)).trans (by go_simp)
  have yw14 : w1.cell? ⟨w.heap.size + 1, 4, none⟩ = some (.slice b4 n4 c1_4) := (hb1.cell (p := ⟨w.heap.size + 1, 4, none⟩) (by simp <;> omega)).trans (by go_simp)
  have yw15 : w1.cell? ⟨w.heap.size + 1, 5, none⟩ = some (.int .i64 q) := (hb1.cell (p := ⟨w.heap.size + 1, 5, none⟩) (by simp <;> omega)).trans (by go_simp)
  have HB1 := Lib.hid (HB.out.trans (hb1.mono HB.out.size))
  have hz1 : w.heap.size + 2 ≤ w1.heap.size := by have := hb1.size; simp at this; omega
  clear hb1 HC0
  cases r0
  · have fin := Lib.hid (show res = false from HR.out)
    clear HR HC1 HC2
    go_wp2
    go_ret
    exact ⟨ret_b fin.out.symm, HB1.out⟩
  go_wp2_with fail
  refine (HC1.out _ HB1.out).mono ?_
  rintro e w2 ⟨rfl, hb2⟩
  have xw23 : w2.cell? ⟨w.heap.size, 3, none⟩ = some (.slice a3 m3 c0_3) := (hb2.cell (p := ⟨w.heap.size, 3, none⟩) (by first | omega | (simp; omega))).trans xw13
  have xw24 : w2.cell? ⟨w.heap.size, 4, none⟩ = some (.slice a4 m4 c0_4) := (hb2.cell (p := ⟨w.heap.size, 4, none⟩) (by first | omega | (simp; omega))).trans xw14
  have xw25 : w2.cell? ⟨w.heap.size, 5, none⟩ = some (.int .i64 p) := (hb2.cell (p := ⟨w.heap.size, 5, none⟩) (by first | omega | (simp; omega))).trans xw15
  have yw23 : w2.cell? ⟨w.heap.size + 1, 3, none⟩ = some (.slice b3 n3 c1_3) := (hb2.cell (p := ⟨w.heap.size + 1, 3, none⟩) (by first | omega | (simp; omega))).trans yw13
  have yw24 : w2.cell? ⟨w.heap.size + 1, 4, none⟩ = some (.slice b4 n4 c1_4) := (hb2.cell (p := ⟨w.heap.size + 1, 4, none⟩) (by first | omega | (simp; omega))).trans yw14
  have yw25 : w2.cell? ⟨w.heap.size + 1, 5, none⟩ = some (.int .i64 q) := (hb2.cell (p := ⟨w.heap.size + 1, 5, none⟩) (by first | omega | (simp; omega))).trans yw15
  have HB2 := Lib.hid (HB1.out.trans (hb2.mono HB1.out.size))
  have hz2 : w.heap.size + 2 ≤ w2.heap.size := Nat.le_trans hz1 hb2.size
  clear hb2 HC1 xw12 xw13 xw14 xw15 yw12 yw13 yw14 yw15
  cases r1
  · have fin := Lib.hid (show res = false from HR.out)
    clear HR HC2
    go_wp2
    go_ret
    exact ⟨ret_b fin.out.symm, HB2.out⟩
  go_wp2_with fail
  refine (HC2.out _ HB2.out).mono ?_
  rintro e w3 ⟨rfl, hb3⟩
  have xw35 : w3.cell? ⟨w.heap.size, 5, none⟩ = some (.int .i64 p) := (hb3.cell (p := ⟨w.heap.size, 5, none⟩) (by first | omega | (simp; omega))).trans xw25
  have yw35 : w3.cell? ⟨w.heap.size + 1, 5, none⟩ = some (.int .i64 q) := (hb3.cell (p := ⟨w.heap.size + 1, 5, none⟩) (by first | omega | (simp; omega))).trans yw25
  have HB3 := Lib.hid (HB2.out.trans (hb3.mono HB2.out.size))
  clear hb3 HC2 xw23 xw24 xw25 yw23 yw24 yw25
  cases r2
  · have fin := Lib.hid (show res = false from HR.out)
    clear HR
    go_wp2
    go_ret
    exact ⟨ret_b fin.out.symm, HB3.out⟩
  have fin := Lib.hid (show res = (p == q) from HR.out)
  clear HR
  go_wp2
  go_ret
  exact ⟨ret_b fin.out.symm, HB3.out⟩
end Go.Proofs.YtjhgifpnpkcaoaaGreat
