/-
  MayUse of the model and of the program.
-/
import Derived.Test.YticchgfhmfjknaaFindSymO
import Derived.Test.YticchgfhmfjknaaSymAt
import Derived.Test.YticchgfhmfjknaaFindAttr
import Derived.Test.YticchgfhmfjknaaTGrammar
import Derived.Test.YticchgfhmfjknaaFree
import Derived.Deep.QuietTactic
import Derived.BigQuiet
namespace Go.Proofs.Yticchgfhmfjknaa
open Go.ChangeShapes Go.WideShapes Go.ChangeAt Go.RowKit Go.Deep

/-- The attribute of an occurrence, and whether there is one. -/
def attAt (g : DGrammar) (x : DRule) (oc : DOccurrence) : DAttribute × Bool := if inR oc.fPos 0 x.fRight.length = true then findAttr (symS g.fSymbols (symbolAt x oc.fPos)) oc.fName else (zeroAttr, false)
def modeU (p : Int) : Int := if p = 0 then 1 else 2
def mayUse (g : DGrammar) (x : DRule) (oc : DOccurrence) : Bool := (attAt g x oc).2 && decide ((attAt g x oc).1.fMode = modeU oc.fPos)
theorem attAt_yes {g : DGrammar} {x : DRule} {oc : DOccurrence} (h : inR oc.fPos 0 x.fRight.length = true) : attAt g x oc = findAttr (symS g.fSymbols (symbolAt x oc.fPos)) oc.fName := if_pos h
theorem attAt_no {g : DGrammar} {x : DRule} {oc : DOccurrence} (h : inR oc.fPos 0 x.fRight.length = false) : attAt g x oc = (zeroAttr, false) := if_neg (by rw [h]; decide)
theorem mayUse_no {g : DGrammar} {x : DRule} {oc : DOccurrence} (h : inR oc.fPos 0 x.fRight.length = false) : mayUse g x oc = false := by unfold mayUse; rw [attAt_no h]; rfl

theorem att_ret {v : Value} {f x : DAttribute × Bool} (h : x = f) (hv : v = .tuple #[.agg #[.string f.1.fName, .int .i64 f.1.fType, .int .i64 f.1.fMode, .bool f.1.fCircular], .bool f.2]) : Ending.returned v = .returned (.tuple #[.agg #[.string x.1.fName, .int .i64 x.1.fType, .int .i64 x.1.fMode, .bool x.1.fCircular], .bool x.2]) := by rw [hv, h]

set_option maxHeartbeats 6400000 in
set_option maxRecDepth 100000 in
theorem impl_attributeAt {lo hi : Nat} {a0 a1 b2 b4 b5 : Option Addr} {c0_0 c0_1 c1_0 c1_1 c1_2 : Nat} (g : DGrammar) (okg : g.ok) (hszg : g.sz ≤ 1048576) (x : DRule) (okx : x.ok) (hszx : x.sz ≤ 1048576) (oc : DOccurrence) (oko : oc.ok) (hszo : oc.sz ≤ 1048576) (w : World) (hhi : hi ≤ w.heap.size) (hs0 : Sl lo hi w 2 g.fSymbols.length (fun k => DSymbol.ct (g.fSymbols.getD k default)) a0) (hs1 : Sl lo hi w 6 g.fRules.length (fun k => DRule.ct (g.fRules.getD k default)) a1) (hs2 : Sl lo hi w 1 x.fRight.length (fun k => ictS (x.fRight.getD k default)) b2) (hs4 : Sl lo hi w 9 x.fEquations.length (fun k => DEquation.ct (x.fEquations.getD k default)) b4) (hs5 : Sl lo hi w 16 x.fContributions.length (fun k => DContribution.ct (x.fContributions.getD k default)) b5) :
    Calls Try.prog 32 #[.agg #[.slice a0 g.fSymbols.length c0_0, .slice a1 g.fRules.length c0_1], .agg #[.string x.fName, .string x.fLeft, .slice b2 x.fRight.length c1_0, .bool x.fLiteral, .slice b4 x.fEquations.length c1_1, .slice b5 x.fContributions.length c1_2], .agg #[.int .i64 oc.fPos, .string oc.fName]] w fun e w' => e = .returned (.tuple #[.agg #[.string (attAt g x oc).1.fName, .int .i64 (attAt g x oc).1.fType, .int .i64 (attAt g x oc).1.fMode, .bool (attAt g x oc).1.fCircular], .bool (attAt g x oc).2]) ∧ Below w.heap.size w w' := by
  have hnx : x.fRight.length ≤ 1048576 := by unfold DRule.sz lsz at hszx; omega
  have hzs : lsz DSymbol.sz g.fSymbols ≤ 1048576 := by unfold DGrammar.sz at hszg; omega
  have okp : -9223372036854775808 ≤ oc.fPos ∧ oc.fPos ≤ 9223372036854775807 := oko.1
  have OKP := Lib.hid (show okI oc.fPos from oko.1)
  have HNS := Lib.hid (sym_len hzs (symbolAt x oc.fPos))
  have HB := Lib.hid ((((((((Below.refl w.heap.size w).alloc (Nat.le_refl _) (.cells #[.slice a0 g.fSymbols.length c0_0, .slice a1 g.fRules.length c0_1] 38))).alloc (by simp <;> omega) (.cells #[.string x.fName, .string x.fLeft, .slice b2 x.fRight.length c1_0, .bool x.fLiteral, .slice b4 x.fEquations.length c1_1, .slice b5 x.fContributions.length c1_2] 43))).alloc (by simp <;> omega) (.cells #[.int .i64 oc.fPos, .string oc.fName] 64))).alloc (by simp <;> omega) (.cells #[.string ⟨#[]⟩, .int .i64 0, .int .i64 0, .bool false] 66))
  have HSY := Lib.hid (hs0.later HB.out hhi)
  have HR1 := Lib.hid (hs1.later HB.out hhi)
  have HR2 := Lib.hid (hs2.later HB.out hhi)
  have HR4 := Lib.hid (hs4.later HB.out hhi)
  have HR5 := Lib.hid (hs5.later HB.out hhi)
  have HHI := Lib.hid (Nat.le_trans hhi HB.out.size)
  have HZS := Lib.hid hzs
  have HSX := Lib.hid hszx
  have OKX := Lib.hid okx
  have HZG := Lib.hid hszg
  have OKO := Lib.hid oko
  have OKG := Lib.hid okg
  have HZO := Lib.hid hszo
  clear hs0 hs1 hs2 hs4 hs5 hhi hzs hszx okx hszg oko okg hszo
  by_cases hp : inR oc.fPos 0 x.fRight.length = true
  · have HP := Lib.hid (attAt_yes (g := g) hp)
    have HI := Lib.hid (fun (W : World) => by have h := impl_hasPosition (a2 := b2) (a4 := b4) (a5 := b5) (c0_0 := c1_0) (c0_1 := c1_1) (c0_2 := c1_2) x hnx oc.fPos W; rw [hp] at h; exact h)
    clear hp
    go_enter Try.func32, Try.ntmps32
    go_wp2_with fail
    refine (HI.out _).mono ?_
    rintro e w9 ⟨rfl, hb9⟩
    have g0 : w9.cell? ⟨w.heap.size, 0, none⟩ = some (.slice a0 g.fSymbols.length c0_0) := (hb9.cell (p := ⟨w.heap.size, 0, none⟩) (by first | omega | (simp; done) | (simp; omega))).trans (by go_simp)
    have g1 : w9.cell? ⟨w.heap.size, 1, none⟩ = some (.slice a1 g.fRules.length c0_1) := (hb9.cell (p := ⟨w.heap.size, 1, none⟩) (by first | omega | (simp; done) | (simp; omega))).trans (by go_simp)
    have r0 : w9.cell? ⟨w.heap.size + 1, 0, none⟩ = some (.string x.fName) := (hb9.cell (p := ⟨w.heap.size + 1, 0, none⟩) (by first | omega | (simp; done) | (simp; omega))).trans (by go_simp)
    have r1 : w9.cell? ⟨w.heap.size + 1, 1, none⟩ = some (.string x.fLeft) := (hb9.cell (p := ⟨w.heap.size + 1, 1, none⟩) (by first | omega | (simp; done) | (simp; omega))).trans (by go_simp)
    have r2 : w9.cell? ⟨w.heap.size + 1, 2, none⟩ = some (.slice b2 x.fRight.length c1_0) := (hb9.cell (p := ⟨w.heap.size + 1, 2, none⟩) (by first | omega | (simp; done) | (simp; omega))).trans (by go_simp)
    have r3 : w9.cell? ⟨w.heap.size + 1, 3, none⟩ = some (.bool x.fLiteral) := (hb9.cell (p := ⟨w.heap.size + 1, 3, none⟩) (by first | omega | (simp; done) | (simp; omega))).trans (by go_simp)
    have r4 : w9.cell? ⟨w.heap.size + 1, 4, none⟩ = some (.slice b4 x.fEquations.length c1_1) := (hb9.cell (p := ⟨w.heap.size + 1, 4, none⟩) (by first | omega | (simp; done) | (simp; omega))).trans (by go_simp)
    have r5 : w9.cell? ⟨w.heap.size + 1, 5, none⟩ = some (.slice b5 x.fContributions.length c1_2) := (hb9.cell (p := ⟨w.heap.size + 1, 5, none⟩) (by first | omega | (simp; done) | (simp; omega))).trans (by go_simp)
    have o0 : w9.cell? ⟨w.heap.size + 2, 0, none⟩ = some (.int .i64 oc.fPos) := (hb9.cell (p := ⟨w.heap.size + 2, 0, none⟩) (by first | omega | (simp; done) | (simp; omega))).trans (by go_simp)
    have o1 : w9.cell? ⟨w.heap.size + 2, 1, none⟩ = some (.string oc.fName) := (hb9.cell (p := ⟨w.heap.size + 2, 1, none⟩) (by first | omega | (simp; done) | (simp; omega))).trans (by go_simp)
    have y0 : w9.cell? ⟨w.heap.size + 3, 0, none⟩ = some (.string ⟨#[]⟩) := (hb9.cell (p := ⟨w.heap.size + 3, 0, none⟩) (by first | omega | (simp; done) | (simp; omega))).trans (by go_simp)
    have y1 : w9.cell? ⟨w.heap.size + 3, 1, none⟩ = some (.int .i64 0) := (hb9.cell (p := ⟨w.heap.size + 3, 1, none⟩) (by first | omega | (simp; done) | (simp; omega))).trans (by go_simp)
    have y2 : w9.cell? ⟨w.heap.size + 3, 2, none⟩ = some (.int .i64 0) := (hb9.cell (p := ⟨w.heap.size + 3, 2, none⟩) (by first | omega | (simp; done) | (simp; omega))).trans (by go_simp)
    have y3 : w9.cell? ⟨w.heap.size + 3, 3, none⟩ = some (.bool false) := (hb9.cell (p := ⟨w.heap.size + 3, 3, none⟩) (by first | omega | (simp; done) | (simp; omega))).trans (by go_simp)
    have f0 : w9.frozen? ⟨w.heap.size + 3, 0, none⟩ = false := (hb9.frozen (p := ⟨w.heap.size + 3, 0, none⟩) (by first | omega | (simp; done) | (simp; omega))).trans (by go_simp)
    have f1 : w9.frozen? ⟨w.heap.size + 3, 1, none⟩ = false := (hb9.frozen (p := ⟨w.heap.size + 3, 1, none⟩) (by first | omega | (simp; done) | (simp; omega))).trans (by go_simp)
    have f2 : w9.frozen? ⟨w.heap.size + 3, 2, none⟩ = false := (hb9.frozen (p := ⟨w.heap.size + 3, 2, none⟩) (by first | omega | (simp; done) | (simp; omega))).trans (by go_simp)
    have f3 : w9.frozen? ⟨w.heap.size + 3, 3, none⟩ = false := (hb9.frozen (p := ⟨w.heap.size + 3, 3, none⟩) (by first | omega | (simp; done) | (simp; omega))).trans (by go_simp)
    have HGR := Lib.hid ((hb9.block (w.heap.size + 3) (by first | omega | (simp; done) | (simp; omega))).trans (show ((((w.alloc (.cells #[.slice a0 g.fSymbols.length c0_0, .slice a1 g.fRules.length c0_1] 38)).alloc (.cells #[.string x.fName, .string x.fLeft, .slice b2 x.fRight.length c1_0, .bool x.fLiteral, .slice b4 x.fEquations.length c1_1, .slice b5 x.fContributions.length c1_2] 43)).alloc (.cells #[.int .i64 oc.fPos, .string oc.fName] 64)).alloc (.cells #[.string ⟨#[]⟩, .int .i64 0, .int .i64 0, .bool false] 66)).heap[w.heap.size + 3]? = some (.cells #[.string ⟨#[]⟩, .int .i64 0, .int .i64 0, .bool false] 66) from blk_new (by simp)))
    have hsz9 : w.heap.size + 4 ≤ w9.heap.size := by have := hb9.size; simp at this; omega
    have hk0 : w.heap.size + 0 < w9.heap.size := by omega
    have hk1 : w.heap.size + 1 < w9.heap.size := by omega
    have hk2 : w.heap.size + 2 < w9.heap.size := by omega
    have hk3 : w.heap.size + 3 < w9.heap.size := by omega
    have HSY := Lib.hid (HSY.out.later hb9 HHI.out)
    have HR1 := Lib.hid (HR1.out.later hb9 HHI.out)
    have HR2 := Lib.hid (HR2.out.later hb9 HHI.out)
    have HR4 := Lib.hid (HR4.out.later hb9 HHI.out)
    have HR5 := Lib.hid (HR5.out.later hb9 HHI.out)
    have HHI := Lib.hid (Nat.le_trans HHI.out hb9.size)
    have HB := Lib.hid (HB.out.trans (hb9.mono HB.out.size))
    clear hb9
    go_wp2_with fail
    refine wp_region_free [([], none), ([], none), ([], none), ([2], none), ([1, 3], none), ([0, 4], none), ([5], none), ([6], none), ([6], none), ([], none), ([9, 7], some 9), ([8], none)] [0, 1, 2, 3, 4, 5, 6, 7, 8, 10, 11] (fun j V L H wx => match j with | 0 => V 0 = .agg #[.slice a0 g.fSymbols.length c0_0, .slice a1 g.fRules.length c0_1] | 1 => V 1 = .agg #[.string x.fName, .string x.fLeft, .slice b2 x.fRight.length c1_0, .bool x.fLiteral, .slice b4 x.fEquations.length c1_1, .slice b5 x.fContributions.length c1_2] | 2 => V 2 = .pointer (some ⟨w.heap.size + 2, 0, none⟩) | 3 => V 3 = .int .i64 oc.fPos | 4 => V 4 = .string (symbolAt x oc.fPos) | 5 => ∃ a9 c9, V 5 = .tuple #[.agg #[.string (symS g.fSymbols (symbolAt x oc.fPos)).fName, .slice a9 (symS g.fSymbols (symbolAt x oc.fPos)).fAttributes.length c9], .bool (symB g.fSymbols (symbolAt x oc.fPos))] ∧ Sl lo hi wx 4 (symS g.fSymbols (symbolAt x oc.fPos)).fAttributes.length (fun k => DAttribute.ct ((symS g.fSymbols (symbolAt x oc.fPos)).fAttributes.getD k default)) a9 | 6 => V 6 = V 5 ∧ ∃ a9_6 c9_6, V 6 = .tuple #[.agg #[.string (symS g.fSymbols (symbolAt x oc.fPos)).fName, .slice a9_6 (symS g.fSymbols (symbolAt x oc.fPos)).fAttributes.length c9_6], .bool (symB g.fSymbols (symbolAt x oc.fPos))] | 7 => (∀ x0 x1, V 6 = .tuple #[x0, x1] → V 7 = x0) ∧ ∃ a9_7 c9_7, V 7 = .agg #[.string (symS g.fSymbols (symbolAt x oc.fPos)).fName, .slice a9_7 (symS g.fSymbols (symbolAt x oc.fPos)).fAttributes.length c9_7] | 8 => (∀ x0 x1, V 6 = .tuple #[x0, x1] → V 8 = x1) | 9 => V 9 = .pointer (some ⟨L, 0, none⟩) ∧ L < H ∧ wx.cell? ⟨L, 0, none⟩ = some (.string ⟨#[]⟩) ∧ wx.frozen? ⟨L, 0, none⟩ = false ∧ wx.cell? ⟨L, 1, none⟩ = some (.slice none 0 0) ∧ wx.frozen? ⟨L, 1, none⟩ = false | 10 => ∀ x0 x1, V 7 = .agg #[x0, x1] → L < H ∧ wx.cell? ⟨L, 0, none⟩ = some x0 ∧ wx.frozen? ⟨L, 0, none⟩ = false ∧ wx.cell? ⟨L, 1, none⟩ = some x1 ∧ wx.frozen? ⟨L, 1, none⟩ = false | 11 => V 11 = V 8 | _ => True) (by kernel_rfl) (by kernel_rfl) ?loc ?lasts ?walk
    case loc =>
      intro k V V' L H wx h0 h1 hG
      match k with
      | 0 =>
        try dsimp only at hG ⊢
        rw [← h0]
        exact hG
      | 1 =>
        try dsimp only at hG ⊢
        rw [← h0]
        exact hG
      | 2 =>
        try dsimp only at hG ⊢
        rw [← h0]
        exact hG
      | 3 =>
        try dsimp only at hG ⊢
        rw [← h0]
        exact hG
      | 4 =>
        try dsimp only at hG ⊢
        rw [← h0]
        exact hG
      | 5 =>
        try dsimp only at hG ⊢
        rw [← h0]
        exact hG
      | 6 =>
        have e5 := h1 5 (by decide)
        try dsimp only at hG ⊢
        rw [← h0, ← e5]
        exact hG
      | 7 =>
        have e6 := h1 6 (by decide)
        try dsimp only at hG ⊢
        rw [← h0, ← e6]
        exact hG
      | 8 =>
        have e6 := h1 6 (by decide)
        try dsimp only at hG ⊢
        rw [← h0, ← e6]
        exact hG
      | 9 =>
        try dsimp only at hG ⊢
        rw [← h0]
        exact hG
      | 10 =>
        have e7 := h1 7 (by decide)
        try dsimp only at hG ⊢
        rw [← e7]
        exact hG
      | 11 =>
        have e8 := h1 8 (by decide)
        try dsimp only at hG ⊢
        rw [← h0, ← e8]
        exact hG
      | n + 12 => trivial
    case lasts =>
      intro i hi V L H wx wy hB hH hk
      match i, hi with
      | 0, _ => exact fun h => h
      | 1, _ => exact fun h => h
      | 2, _ => exact fun h => h
      | 3, _ => exact fun h => h
      | 4, _ => exact fun h => h
      | 5, _ => exact fun ⟨a9, c9, hv, ho0⟩ => ⟨a9, c9, hv, sl_kept ho0 hk (fun b h1 h2 => .inl (Nat.lt_of_lt_of_le h2 HHI.out)) (Nat.le_trans HHI.out hB)⟩
      | 6, _ => exact fun h => h
      | 7, _ => exact fun h => h
      | 8, _ => exact fun h => h
      | 9, _ => exact fun ⟨hv, hl, hc0, hf0, hc1, hf1⟩ => ⟨hv, hl, (hk.cell (p := ⟨L, 0, none⟩) (.inr ⟨Nat.le_refl _, hl⟩) (Nat.lt_of_lt_of_le hl hH)).trans hc0, (hk.frozen (p := ⟨L, 0, none⟩) (.inr ⟨Nat.le_refl _, hl⟩) (Nat.lt_of_lt_of_le hl hH)).trans hf0, (hk.cell (p := ⟨L, 1, none⟩) (.inr ⟨Nat.le_refl _, hl⟩) (Nat.lt_of_lt_of_le hl hH)).trans hc1, (hk.frozen (p := ⟨L, 1, none⟩) (.inr ⟨Nat.le_refl _, hl⟩) (Nat.lt_of_lt_of_le hl hH)).trans hf1⟩
      | 10, _ =>
        intro h x0 x1 hv
        obtain ⟨hl, hc0, hf0, hc1, hf1⟩ := h x0 x1 hv
        exact ⟨hl, (hk.cell (p := ⟨L, 0, none⟩) (.inr ⟨Nat.le_refl _, hl⟩) (Nat.lt_of_lt_of_le hl hH)).trans hc0, (hk.frozen (p := ⟨L, 0, none⟩) (.inr ⟨Nat.le_refl _, hl⟩) (Nat.lt_of_lt_of_le hl hH)).trans hf0, (hk.cell (p := ⟨L, 1, none⟩) (.inr ⟨Nat.le_refl _, hl⟩) (Nat.lt_of_lt_of_le hl hH)).trans hc1, (hk.frozen (p := ⟨L, 1, none⟩) (.inr ⟨Nat.le_refl _, hl⟩) (Nat.lt_of_lt_of_le hl hH)).trans hf1⟩
      | 11, _ => exact fun h => h
      | n + 12, hn => exact absurd hn (by simp)
    case walk =>
      simp only [free, Nat.reduceAdd, Act.put, List.setIfInBounds_toArray, List.set_cons_succ, List.set_cons_zero]
      refine ⟨?_, ?_, ?_, ?_, ?_, ?_, ?_, ?_, ?_, ?_, ?_, ?_, ?_⟩
      · intro V L H w1 hb1 hd
        clear hd
        have g0 : w1.cell? ⟨w.heap.size, 0, none⟩ = some (.slice a0 g.fSymbols.length c0_0) := (hb1.cell (p := ⟨w.heap.size, 0, none⟩) (by first | omega | (simp; done))).trans g0
        have g1 : w1.cell? ⟨w.heap.size, 1, none⟩ = some (.slice a1 g.fRules.length c0_1) := (hb1.cell (p := ⟨w.heap.size, 1, none⟩) (by first | omega | (simp; done))).trans g1
        go_wp2_with fail
        exact freePost _ rfl ⟨Below.refl _ _, upd_self⟩
      · intro V L H w1 hb1 hd
        clear hd
        have r0 : w1.cell? ⟨w.heap.size + 1, 0, none⟩ = some (.string x.fName) := (hb1.cell (p := ⟨w.heap.size + 1, 0, none⟩) (by first | omega | (simp; done))).trans r0
        have r1 : w1.cell? ⟨w.heap.size + 1, 1, none⟩ = some (.string x.fLeft) := (hb1.cell (p := ⟨w.heap.size + 1, 1, none⟩) (by first | omega | (simp; done))).trans r1
        have r2 : w1.cell? ⟨w.heap.size + 1, 2, none⟩ = some (.slice b2 x.fRight.length c1_0) := (hb1.cell (p := ⟨w.heap.size + 1, 2, none⟩) (by first | omega | (simp; done))).trans r2
        have r3 : w1.cell? ⟨w.heap.size + 1, 3, none⟩ = some (.bool x.fLiteral) := (hb1.cell (p := ⟨w.heap.size + 1, 3, none⟩) (by first | omega | (simp; done))).trans r3
        have r4 : w1.cell? ⟨w.heap.size + 1, 4, none⟩ = some (.slice b4 x.fEquations.length c1_1) := (hb1.cell (p := ⟨w.heap.size + 1, 4, none⟩) (by first | omega | (simp; done))).trans r4
        have r5 : w1.cell? ⟨w.heap.size + 1, 5, none⟩ = some (.slice b5 x.fContributions.length c1_2) := (hb1.cell (p := ⟨w.heap.size + 1, 5, none⟩) (by first | omega | (simp; done))).trans r5
        go_wp2_with fail
        exact freePost _ rfl ⟨Below.refl _ _, upd_self⟩
      · intro V L H w1 hb1 hd
        clear hd
        go_wp2_with fail
        exact freePost _ rfl ⟨Below.refl _ _, upd_self⟩
      · intro V L H w1 hb1 hd
        obtain ⟨⟨hL2, hM2, hH2, hv2⟩, -⟩ := hd
        rw [hv2]
        have HV2 := Lib.hid hv2
        clear hv2
        have o0 : w1.cell? ⟨w.heap.size + 2, 0, none⟩ = some (.int .i64 oc.fPos) := (hb1.cell (p := ⟨w.heap.size + 2, 0, none⟩) (by first | omega | (simp; done))).trans o0
        have o1 : w1.cell? ⟨w.heap.size + 2, 1, none⟩ = some (.string oc.fName) := (hb1.cell (p := ⟨w.heap.size + 2, 1, none⟩) (by first | omega | (simp; done))).trans o1
        go_wp2_with fail
        exact freePost _ rfl ⟨Below.refl _ _, upd_self⟩
      · intro V L H w1 hb1 hd
        obtain ⟨⟨hL1, hM1, hH1, hv1⟩, ⟨hL3, hM3, hH3, hv3⟩, -⟩ := hd
        rw [hv1, hv3]
        have HV1 := Lib.hid hv1
        have HV3 := Lib.hid hv3
        clear hv1 hv3
        go_wp2_with fail
        refine (impl_SymbolAt (c0_0 := c1_0) (c0_1 := c1_1) (c0_2 := c1_2) x OKX.out HSX.out oc.fPos OKP.out _ (Nat.le_trans HHI.out hb1.size) (HR2.out.later hb1 HHI.out) (HR4.out.later hb1 HHI.out) (HR5.out.later hb1 HHI.out)).mono ?_
        rintro e w2 ⟨rfl, hb2⟩
        go_wp2_with fail
        exact freePost _ rfl ⟨hb2, upd_self⟩
      · intro V L H w1 hb1 hd
        obtain ⟨⟨hL0, hM0, hH0, hv0⟩, ⟨hL4, hM4, hH4, hv4⟩, -⟩ := hd
        rw [hv0, hv4]
        have HV0 := Lib.hid hv0
        have HV4 := Lib.hid hv4
        clear hv0 hv4
        go_wp2_with fail
        refine (impl_symbolNamed (c0 := c0_0) (c1 := c0_1) (a1 := a1) (n1 := g.fRules.length) g.fSymbols HZS.out (symbolAt x oc.fPos) _ (Nat.le_trans HHI.out hb1.size) (HSY.out.later hb1 HHI.out)).mono ?_
        rintro e w2 ⟨⟨a9, c9, rfl, ho⟩, hb2⟩
        go_wp2_with fail
        exact freePost _ rfl ⟨hb2, Exists.intro a9 (Exists.intro c9 (And.intro (upd_self) (ho)))⟩
      · intro V L H w1 hb1 hd
        obtain ⟨⟨hL5, hM5, hH5, a9, c9, hv5, ho5_0⟩, -⟩ := hd
        rw [hv5]
        have HV5 := Lib.hid hv5
        clear hv5
        go_wp2_with fail
        exact freePost _ rfl ⟨Below.refl _ _, And.intro (upd_self.trans (HV5.out.symm.trans (upd_ne (by decide)).symm)) ⟨_, _, upd_self⟩⟩
      · intro V L H w1 hb1 hd
        obtain ⟨⟨hL6, hM6, hH6, hv6, a9_6, c9_6, hz6⟩, -⟩ := hd
        clear hv6
        rw [hz6]
        have HV6 := Lib.hid hz6
        clear hz6
        go_wp2_with fail
        exact freePost _ rfl ⟨Below.refl _ _, And.intro (fun x0 x1 h => by cases (HV6.out.symm.trans ((upd_ne (by decide)).symm.trans h)); exact upd_self) ⟨_, _, upd_self⟩⟩
      · intro V L H w1 hb1 hd
        obtain ⟨⟨hL6, hM6, hH6, hv6, a9_6, c9_6, hz6⟩, -⟩ := hd
        clear hv6
        rw [hz6]
        have HV6 := Lib.hid hz6
        clear hz6
        go_wp2_with fail
        exact freePost _ rfl ⟨Below.refl _ _, fun x0 x1 h => by cases (HV6.out.symm.trans ((upd_ne (by decide)).symm.trans h)); exact upd_self⟩
      · intro V L H w1 hb1 hd
        clear hd
        go_wp2_with fail
        refine freePost _ rfl ⟨Below.alloc (Below.refl _ _) (Nat.le_refl _) _, upd_self, ?_, ?_, ?_, ?_, ?_⟩
        · simp
        all_goals go_simp
      · intro V L H w1 hb1 hd
        obtain ⟨⟨hL9, hM9, hH9, hv9, hlt9, hc9_0, hf9_0, hc9_1, hf9_1⟩, ⟨hL7, hM7, hH7, hv7, a9_7, c9_7, hz7⟩, -⟩ := hd
        clear hv7
        rw [hv9, hz7]
        have HV9 := Lib.hid hv9
        have HV7 := Lib.hid hz7
        clear hv9 hz7
        go_wp2_with fail
        refine freePost undef rfl ⟨(Touches.put (L := L 9) (H := H 9) (Touches.put (L := L 9) (H := H 9) Touches.refl (p := ⟨L 9, 0, none⟩) ⟨Nat.le_refl _, hlt9⟩ _) (p := ⟨L 9, 1, none⟩) ⟨Nat.le_refl _, hlt9⟩ _), fun x0 x1 h => ?_⟩
        cases (HV7.out.symm.trans ((upd_ne (by decide)).symm.trans h))
        refine ⟨hlt9, ?_, ?_, ?_, ?_⟩
        all_goals go_simp
      · intro V L H w1 hb1 hd
        obtain ⟨⟨hL8, hM8, hH8, hv8⟩, -⟩ := hd
        clear hv8
        go_wp2_with fail
        exact freePost _ rfl ⟨Below.refl _ _, upd_self.trans (upd_ne (by decide)).symm⟩
      · intro V L H w1 hb1 hd hap hdead
        obtain ⟨⟨hL0, hM0, hH0, hv0⟩, ⟨hL1, hM1, hH1, hv1⟩, ⟨hL2, hM2, hH2, hv2⟩, ⟨hL3, hM3, hH3, hv3⟩, ⟨hL4, hM4, hH4, hv4⟩, ⟨hL5, hM5, hH5, a9, c9, hv5, ho5_0⟩, ⟨hL6, hM6, hH6, hv6, a9_6, c9_6, hz6⟩, ⟨hL7, hM7, hH7, hv7, a9_7, c9_7, hz7⟩, ⟨hL8, hM8, hH8, hv8⟩, ⟨hL10, hM10, hH10, hst10_⟩, ⟨hL11, hM11, hH11, hv11⟩, -⟩ := hd
        have hv6' := hv6.trans hv5
        have hv7' := hv7 _ _ hv6'
        have hv8' := hv8 _ _ hv6'
        have hv11' := hv11.trans hv8'
        obtain ⟨hlt, hc0, hf0, hc1, hf1⟩ := hst10_ _ _ hv7'
        obtain ⟨hLe, hHe, wo, hva, -⟩ := hdead 10 9 (by decide) rfl
        rw [← hLe] at hva
        rw [hv0, hv1, hv2, hv3, hv4, hv5, hv6', hv7', hv8', hva, hv11']
        clear hv0 hv1 hv2 hv3 hv4 hv5 hv6' hv7' hv8' hva hv11' hv6 hv7 hv8 hv11
        clear hLe hHe
        have o0 : w1.cell? ⟨w.heap.size + 2, 0, none⟩ = some (.int .i64 oc.fPos) := (hb1.cell (p := ⟨w.heap.size + 2, 0, none⟩) (by first | omega | (simp; done))).trans o0
        have o1 : w1.cell? ⟨w.heap.size + 2, 1, none⟩ = some (.string oc.fName) := (hb1.cell (p := ⟨w.heap.size + 2, 1, none⟩) (by first | omega | (simp; done))).trans o1
        have HSA : Hid (Sl 0 w1.heap.size w1 4 (symS g.fSymbols (symbolAt x oc.fPos)).fAttributes.length (fun k => DAttribute.ct ((symS g.fSymbols (symbolAt x oc.fPos)).fAttributes.getD k default)) a9) := (ho5_0.mono (Nat.zero_le _) (Nat.le_trans HHI.out hb1.size))
        have HB1 := Lib.hid (HB.out.trans (hb1.mono HB.out.size))
        have hsz1 : w.heap.size + 4 ≤ w1.heap.size := by have := hb1.size; omega
        clear ho5_0 hap hdead
        have HB2b := Lib.hid HB1.out
        have y0 : w1.cell? ⟨w.heap.size + 3, 0, none⟩ = some (.string ⟨#[]⟩) := (hb1.cell (p := ⟨w.heap.size + 3, 0, none⟩) (by first | omega | (simp; done) | (simp; omega))).trans y0
        have y1 : w1.cell? ⟨w.heap.size + 3, 1, none⟩ = some (.int .i64 0) := (hb1.cell (p := ⟨w.heap.size + 3, 1, none⟩) (by first | omega | (simp; done) | (simp; omega))).trans y1
        have y2 : w1.cell? ⟨w.heap.size + 3, 2, none⟩ = some (.int .i64 0) := (hb1.cell (p := ⟨w.heap.size + 3, 2, none⟩) (by first | omega | (simp; done) | (simp; omega))).trans y2
        have y3 : w1.cell? ⟨w.heap.size + 3, 3, none⟩ = some (.bool false) := (hb1.cell (p := ⟨w.heap.size + 3, 3, none⟩) (by first | omega | (simp; done) | (simp; omega))).trans y3
        have f0 : w1.frozen? ⟨w.heap.size + 3, 0, none⟩ = false := (hb1.frozen (p := ⟨w.heap.size + 3, 0, none⟩) (by first | omega | (simp; done) | (simp; omega))).trans f0
        have f1 : w1.frozen? ⟨w.heap.size + 3, 1, none⟩ = false := (hb1.frozen (p := ⟨w.heap.size + 3, 1, none⟩) (by first | omega | (simp; done) | (simp; omega))).trans f1
        have f2 : w1.frozen? ⟨w.heap.size + 3, 2, none⟩ = false := (hb1.frozen (p := ⟨w.heap.size + 3, 2, none⟩) (by first | omega | (simp; done) | (simp; omega))).trans f2
        have f3 : w1.frozen? ⟨w.heap.size + 3, 3, none⟩ = false := (hb1.frozen (p := ⟨w.heap.size + 3, 3, none⟩) (by first | omega | (simp; done) | (simp; omega))).trans f3
        have HGR := Lib.hid ((hb1.block (w.heap.size + 3) (by omega)).trans HGR.out)
        go_wp2_with fail
        refine (impl_FindAttributeL (c0_0 := c9) (symS g.fSymbols (symbolAt x oc.fPos)) HNS.out oc.fName _ (Nat.le_refl _) HSA.out).mono ?_
        rintro e w2 ⟨rfl, hb2⟩
        have HB := Lib.hid (HB1.out.trans (hb2.mono HB1.out.size))
        have hm1 := hb1.size
        have y0 : w2.cell? ⟨w.heap.size + 3, 0, none⟩ = some (.string ⟨#[]⟩) := (hb2.cell (p := ⟨w.heap.size + 3, 0, none⟩) (by first | omega | (simp; done) | (simp; omega))).trans y0
        have y1 : w2.cell? ⟨w.heap.size + 3, 1, none⟩ = some (.int .i64 0) := (hb2.cell (p := ⟨w.heap.size + 3, 1, none⟩) (by first | omega | (simp; done) | (simp; omega))).trans y1
        have y2 : w2.cell? ⟨w.heap.size + 3, 2, none⟩ = some (.int .i64 0) := (hb2.cell (p := ⟨w.heap.size + 3, 2, none⟩) (by first | omega | (simp; done) | (simp; omega))).trans y2
        have y3 : w2.cell? ⟨w.heap.size + 3, 3, none⟩ = some (.bool false) := (hb2.cell (p := ⟨w.heap.size + 3, 3, none⟩) (by first | omega | (simp; done) | (simp; omega))).trans y3
        have f0 : w2.frozen? ⟨w.heap.size + 3, 0, none⟩ = false := (hb2.frozen (p := ⟨w.heap.size + 3, 0, none⟩) (by first | omega | (simp; done) | (simp; omega))).trans f0
        have f1 : w2.frozen? ⟨w.heap.size + 3, 1, none⟩ = false := (hb2.frozen (p := ⟨w.heap.size + 3, 1, none⟩) (by first | omega | (simp; done) | (simp; omega))).trans f1
        have f2 : w2.frozen? ⟨w.heap.size + 3, 2, none⟩ = false := (hb2.frozen (p := ⟨w.heap.size + 3, 2, none⟩) (by first | omega | (simp; done) | (simp; omega))).trans f2
        have f3 : w2.frozen? ⟨w.heap.size + 3, 3, none⟩ = false := (hb2.frozen (p := ⟨w.heap.size + 3, 3, none⟩) (by first | omega | (simp; done) | (simp; omega))).trans f3
        have HGR := Lib.hid ((hb2.block (w.heap.size + 3) (by omega)).trans HGR.out)
        have hsz2 := hb2.size
        have hlt2 : w.heap.size + 3 < w2.heap.size := by omega
        clear hb2 hb1 o0 o1
        generalize hf : findAttr (symS g.fSymbols (symbolAt x oc.fPos)) oc.fName = f at *
        clear hf
        obtain ⟨⟨f1, f2, f3, f4⟩, f5⟩ := f
        dsimp only
        go_wp2
        refine bodyPost_ret (v := .tuple #[.agg #[.string f1, .int .i64 f2, .int .i64 f3, .bool f4], .bool f5]) (results_cell_tmp Try.results32 _ _ (w.heap.size + 3) 66 #[.string f1, .int .i64 f2, .int .i64 f3, .bool f4] (0, 0) _ rfl (by (repeat (with_reducible refine blk_alloc (by simp [World.setCell]; omega) ?_)); refine Eq.trans (blk_set (cs := #[.string f1, .int .i64 f2, .int .i64 f3, .bool false]) (t := 66) (fr := (0, 0)) ?_) rfl; refine Eq.trans (blk_set (cs := #[.string f1, .int .i64 f2, .int .i64 0, .bool false]) (t := 66) (fr := (0, 0)) ?_) rfl; refine Eq.trans (blk_set (cs := #[.string f1, .int .i64 0, .int .i64 0, .bool false]) (t := 66) (fr := (0, 0)) ?_) rfl; refine Eq.trans (blk_set (cs := #[.string ⟨#[]⟩, .int .i64 0, .int .i64 0, .bool false]) (t := 66) (fr := (0, 0)) ?_) rfl; exact HGR.out) Try.underlying66 rfl rfl) rfl ⟨att_ret HP.out rfl, ?_⟩
        exact (by repeat (first | (with_reducible exact HB.out) | (refine Below.setCell ?_ (by first | omega | (simp <;> omega)) _) | (refine Below.alloc ?_ (by first | omega | (simp <;> omega)) _)))
  · have hp' : inR oc.fPos 0 x.fRight.length = false := by simpa using hp
    have HP := Lib.hid (attAt_no (g := g) hp')
    have HI := Lib.hid (fun (W : World) => by have h := impl_hasPosition (a2 := b2) (a4 := b4) (a5 := b5) (c0_0 := c1_0) (c0_1 := c1_1) (c0_2 := c1_2) x hnx oc.fPos W; rw [hp'] at h; exact h)
    clear hp hp'
    go_enter Try.func32, Try.ntmps32
    go_wp2_with fail
    refine (HI.out _).mono ?_
    rintro e w9 ⟨rfl, hb9⟩
    have g0 : w9.cell? ⟨w.heap.size, 0, none⟩ = some (.slice a0 g.fSymbols.length c0_0) := (hb9.cell (p := ⟨w.heap.size, 0, none⟩) (by first | omega | (simp; done) | (simp; omega))).trans (by go_simp)
    have g1 : w9.cell? ⟨w.heap.size, 1, none⟩ = some (.slice a1 g.fRules.length c0_1) := (hb9.cell (p := ⟨w.heap.size, 1, none⟩) (by first | omega | (simp; done) | (simp; omega))).trans (by go_simp)
    have r0 : w9.cell? ⟨w.heap.size + 1, 0, none⟩ = some (.string x.fName) := (hb9.cell (p := ⟨w.heap.size + 1, 0, none⟩) (by first | omega | (simp; done) | (simp; omega))).trans (by go_simp)
    have r1 : w9.cell? ⟨w.heap.size + 1, 1, none⟩ = some (.string x.fLeft) := (hb9.cell (p := ⟨w.heap.size + 1, 1, none⟩) (by first | omega | (simp; done) | (simp; omega))).trans (by go_simp)
    have r2 : w9.cell? ⟨w.heap.size + 1, 2, none⟩ = some (.slice b2 x.fRight.length c1_0) := (hb9.cell (p := ⟨w.heap.size + 1, 2, none⟩) (by first | omega | (simp; done) | (simp; omega))).trans (by go_simp)
    have r3 : w9.cell? ⟨w.heap.size + 1, 3, none⟩ = some (.bool x.fLiteral) := (hb9.cell (p := ⟨w.heap.size + 1, 3, none⟩) (by first | omega | (simp; done) | (simp; omega))).trans (by go_simp)
    have r4 : w9.cell? ⟨w.heap.size + 1, 4, none⟩ = some (.slice b4 x.fEquations.length c1_1) := (hb9.cell (p := ⟨w.heap.size + 1, 4, none⟩) (by first | omega | (simp; done) | (simp; omega))).trans (by go_simp)
    have r5 : w9.cell? ⟨w.heap.size + 1, 5, none⟩ = some (.slice b5 x.fContributions.length c1_2) := (hb9.cell (p := ⟨w.heap.size + 1, 5, none⟩) (by first | omega | (simp; done) | (simp; omega))).trans (by go_simp)
    have o0 : w9.cell? ⟨w.heap.size + 2, 0, none⟩ = some (.int .i64 oc.fPos) := (hb9.cell (p := ⟨w.heap.size + 2, 0, none⟩) (by first | omega | (simp; done) | (simp; omega))).trans (by go_simp)
    have o1 : w9.cell? ⟨w.heap.size + 2, 1, none⟩ = some (.string oc.fName) := (hb9.cell (p := ⟨w.heap.size + 2, 1, none⟩) (by first | omega | (simp; done) | (simp; omega))).trans (by go_simp)
    have y0 : w9.cell? ⟨w.heap.size + 3, 0, none⟩ = some (.string ⟨#[]⟩) := (hb9.cell (p := ⟨w.heap.size + 3, 0, none⟩) (by first | omega | (simp; done) | (simp; omega))).trans (by go_simp)
    have y1 : w9.cell? ⟨w.heap.size + 3, 1, none⟩ = some (.int .i64 0) := (hb9.cell (p := ⟨w.heap.size + 3, 1, none⟩) (by first | omega | (simp; done) | (simp; omega))).trans (by go_simp)
    have y2 : w9.cell? ⟨w.heap.size + 3, 2, none⟩ = some (.int .i64 0) := (hb9.cell (p := ⟨w.heap.size + 3, 2, none⟩) (by first | omega | (simp; done) | (simp; omega))).trans (by go_simp)
    have y3 : w9.cell? ⟨w.heap.size + 3, 3, none⟩ = some (.bool false) := (hb9.cell (p := ⟨w.heap.size + 3, 3, none⟩) (by first | omega | (simp; done) | (simp; omega))).trans (by go_simp)
    have f0 : w9.frozen? ⟨w.heap.size + 3, 0, none⟩ = false := (hb9.frozen (p := ⟨w.heap.size + 3, 0, none⟩) (by first | omega | (simp; done) | (simp; omega))).trans (by go_simp)
    have f1 : w9.frozen? ⟨w.heap.size + 3, 1, none⟩ = false := (hb9.frozen (p := ⟨w.heap.size + 3, 1, none⟩) (by first | omega | (simp; done) | (simp; omega))).trans (by go_simp)
    have f2 : w9.frozen? ⟨w.heap.size + 3, 2, none⟩ = false := (hb9.frozen (p := ⟨w.heap.size + 3, 2, none⟩) (by first | omega | (simp; done) | (simp; omega))).trans (by go_simp)
    have f3 : w9.frozen? ⟨w.heap.size + 3, 3, none⟩ = false := (hb9.frozen (p := ⟨w.heap.size + 3, 3, none⟩) (by first | omega | (simp; done) | (simp; omega))).trans (by go_simp)
    have HGR := Lib.hid ((hb9.block (w.heap.size + 3) (by first | omega | (simp; done) | (simp; omega))).trans (show ((((w.alloc (.cells #[.slice a0 g.fSymbols.length c0_0, .slice a1 g.fRules.length c0_1] 38)).alloc (.cells #[.string x.fName, .string x.fLeft, .slice b2 x.fRight.length c1_0, .bool x.fLiteral, .slice b4 x.fEquations.length c1_1, .slice b5 x.fContributions.length c1_2] 43)).alloc (.cells #[.int .i64 oc.fPos, .string oc.fName] 64)).alloc (.cells #[.string ⟨#[]⟩, .int .i64 0, .int .i64 0, .bool false] 66)).heap[w.heap.size + 3]? = some (.cells #[.string ⟨#[]⟩, .int .i64 0, .int .i64 0, .bool false] 66) from blk_new (by simp)))
    have hsz9 : w.heap.size + 4 ≤ w9.heap.size := by have := hb9.size; simp at this; omega
    have hk0 : w.heap.size + 0 < w9.heap.size := by omega
    have hk1 : w.heap.size + 1 < w9.heap.size := by omega
    have hk2 : w.heap.size + 2 < w9.heap.size := by omega
    have hk3 : w.heap.size + 3 < w9.heap.size := by omega
    have HSY := Lib.hid (HSY.out.later hb9 HHI.out)
    have HR1 := Lib.hid (HR1.out.later hb9 HHI.out)
    have HR2 := Lib.hid (HR2.out.later hb9 HHI.out)
    have HR4 := Lib.hid (HR4.out.later hb9 HHI.out)
    have HR5 := Lib.hid (HR5.out.later hb9 HHI.out)
    have HHI := Lib.hid (Nat.le_trans HHI.out hb9.size)
    have HB := Lib.hid (HB.out.trans (hb9.mono HB.out.size))
    clear hb9
    go_wp2
    refine bodyPost_ret (v := .tuple #[.agg #[.string ⟨#[]⟩, .int .i64 0, .int .i64 0, .bool false], .bool false]) (results_cell_tmp Try.results32 _ _ (w.heap.size + 3) 66 #[.string ⟨#[]⟩, .int .i64 0, .int .i64 0, .bool false] (0, 0) _ rfl (by (repeat (with_reducible refine blk_alloc (by simp [World.setCell]; omega) ?_)); refine Eq.trans (blk_set (cs := #[.string ⟨#[]⟩, .int .i64 0, .int .i64 0, .bool false]) (t := 66) (fr := (0, 0)) ?_) rfl; refine Eq.trans (blk_set (cs := #[.string ⟨#[]⟩, .int .i64 0, .int .i64 0, .bool false]) (t := 66) (fr := (0, 0)) ?_) rfl; refine Eq.trans (blk_set (cs := #[.string ⟨#[]⟩, .int .i64 0, .int .i64 0, .bool false]) (t := 66) (fr := (0, 0)) ?_) rfl; refine Eq.trans (blk_set (cs := #[.string ⟨#[]⟩, .int .i64 0, .int .i64 0, .bool false]) (t := 66) (fr := (0, 0)) ?_) rfl; exact HGR.out) Try.underlying66 rfl rfl) rfl ⟨att_ret HP.out rfl, ?_⟩
    exact (by repeat (first | (with_reducible exact HB.out) | (refine Below.setCell ?_ (by first | omega | (simp <;> omega)) _) | (refine Below.alloc ?_ (by first | omega | (simp <;> omega)) _)))
end Go.Proofs.Yticchgfhmfjknaa
