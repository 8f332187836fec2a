/-
  The type Session of the laws: its data, and the contracts of the laws' own helpers on it.
-/
import Derived.Test.YtjhgifpnpkcaoaaGreatTGrammar
import Derived.Test.YtjhgifpnpkcaoaaGreatTMemo
import Derived.Test.YtjhgifpnpkcaoaaGreatTTree
import Derived.WalkSpells
import Derived.WalkSmall
import Derived.WalkLawsBesides
import Derived.SliceStrings
import Derived.Deep.QuietTactic
import Derived.Deep.RegionWith
import Derived.BigQuiet
import Derived.Outline
import Derived.Laws.Rows
namespace Go.Proofs.YtjhgifpnpkcaoaaGreat
open Go.ChangeShapes Go.WideShapes Go.ChangeAt Go.RowKit Go.Deep

structure DSession where
  fGrammar : DGrammar
  fTree : DTree
  fMemo : DMemo
  fNext : Int
  deriving Inhabited

def DSession.ct (x : DSession) : Nat → Ct
  | 0 => .sl 2 x.fGrammar.fSymbols.length (fun k => DSymbol.ct (x.fGrammar.fSymbols.getD k default))
  | 1 => .sl 6 x.fGrammar.fRules.length (fun k => DRule.ct (x.fGrammar.fRules.getD k default))
  | 2 => .sl 6 x.fTree.fNodes.length (fun k => DNode.ct (x.fTree.fNodes.getD k default))
  | 3 => .sl 9 x.fMemo.fEntries.length (fun k => DEntry.ct (x.fMemo.fEntries.getD k default))
  | 4 => .sl 2 x.fMemo.fEvaluated.length (fun k => DInstance.ct (x.fMemo.fEvaluated.getD k default))
  | 5 => .lit (.int .i64 x.fNext)
  | _ => .lit .nilFunc

def DSession.ok (x : DSession) : Prop := DGrammar.ok x.fGrammar ∧ DTree.ok x.fTree ∧ DMemo.ok x.fMemo ∧ okI x.fNext

def DSession.sz (x : DSession) : Nat := DGrammar.sz x.fGrammar + DTree.sz x.fTree + DMemo.sz x.fMemo

theorem DSession.open {lo hi b o : Nat} {w : World} {x : DSession} (h : ∀ j, j < 6 → ∃ u, w.cell? ⟨b, o + j, none⟩ = some u ∧ Lies lo hi w (x.ct j) u) :
    ∃ a0 c0, ∃ a1 c1, ∃ a2 c2, ∃ a3 c3, ∃ a4 c4, w.cell? ⟨b, o, none⟩ = some (.slice a0 x.fGrammar.fSymbols.length c0) ∧ w.cell? ⟨b, o + 1, none⟩ = some (.slice a1 x.fGrammar.fRules.length c1) ∧ w.cell? ⟨b, o + 2, none⟩ = some (.slice a2 x.fTree.fNodes.length c2) ∧ w.cell? ⟨b, o + 3, none⟩ = some (.slice a3 x.fMemo.fEntries.length c3) ∧ w.cell? ⟨b, o + 4, none⟩ = some (.slice a4 x.fMemo.fEvaluated.length c4) ∧ w.cell? ⟨b, o + 5, none⟩ = some (.int .i64 x.fNext) ∧ Sl lo hi w 2 x.fGrammar.fSymbols.length (fun k => DSymbol.ct (x.fGrammar.fSymbols.getD k default)) a0 ∧ Sl lo hi w 6 x.fGrammar.fRules.length (fun k => DRule.ct (x.fGrammar.fRules.getD k default)) a1 ∧ Sl lo hi w 6 x.fTree.fNodes.length (fun k => DNode.ct (x.fTree.fNodes.getD k default)) a2 ∧ Sl lo hi w 9 x.fMemo.fEntries.length (fun k => DEntry.ct (x.fMemo.fEntries.getD k default)) a3 ∧ Sl lo hi w 2 x.fMemo.fEvaluated.length (fun k => DInstance.ct (x.fMemo.fEvaluated.getD k default)) a4 := by
  obtain ⟨u0, hc0, hl0⟩ := h 0 (by decide)
  obtain ⟨a0, c0, rfl, hs0⟩ := lies_sl hl0
  obtain ⟨u1, hc1, hl1⟩ := h 1 (by decide)
  obtain ⟨a1, c1, rfl, hs1⟩ := lies_sl hl1
  obtain ⟨u2, hc2, hl2⟩ := h 2 (by decide)
  obtain ⟨a2, c2, rfl, hs2⟩ := lies_sl hl2
  obtain ⟨u3, hc3, hl3⟩ := h 3 (by decide)
  obtain ⟨a3, c3, rfl, hs3⟩ := lies_sl hl3
  obtain ⟨u4, hc4, hl4⟩ := h 4 (by decide)
  obtain ⟨a4, c4, rfl, hs4⟩ := lies_sl hl4
  obtain ⟨u5, hc5, hl5⟩ := h 5 (by decide)
  obtain rfl := lies_lit hl5
  exact ⟨a0, c0, a1, c1, a2, c2, a3, c3, a4, c4, hc0, hc1, hc2, hc3, hc4, hc5, hs0, hs1, hs2, hs3, hs4⟩

theorem opens_session {H : Type} {enc : TypeId × Value → H} {w : World} (fuel : Nat) : Opens enc Tryz.prog w 34 6 DSession.ct DSession.ok fuel := by
  intro cs x h
  have hl := opens_len Tryz.underlying34 h
  obtain ⟨y0, k0, q0⟩ := opens_field Tryz.underlying34 h 0 _ rfl (ft := 25) (o := 0) (n := 2) rfl rfl (fun m _ => opens_grammar m) (by kernel_rfl)
  obtain ⟨y1, k1, q1⟩ := opens_field Tryz.underlying34 h 1 _ rfl (ft := 28) (o := 2) (n := 1) rfl rfl (fun m _ => opens_tree m) (by kernel_rfl)
  obtain ⟨y2, k2, q2⟩ := opens_field Tryz.underlying34 h 2 _ rfl (ft := 32) (o := 3) (n := 2) rfl rfl (fun m _ => opens_memo m) (by kernel_rfl)
  obtain ⟨y3, k3, q3⟩ := opens_field Tryz.underlying34 h 3 _ rfl (ft := 3) (o := 5) (n := 1) rfl rfl (fun m _ => opens_int Tryz.underlying3 m) (by kernel_rfl)
  refine ⟨⟨y0, y1, y2, y3⟩, ⟨k0, k1, k2, k3⟩, hl.trans (by kernel_rfl), fun j hj => ?_⟩
  match j, hj with
  | 0, _ => exact q0 0 (by decide)
  | 1, _ => exact q0 1 (by decide)
  | 2, _ => exact q1 0 (by decide)
  | 3, _ => exact q2 0 (by decide)
  | 4, _ => exact q2 1 (by decide)
  | 5, _ => exact q3 0 (by decide)

open Go.WideElems Go.WideMaps in
set_option maxRecDepth 100000 in
theorem arg_session {H : Type} {enc : TypeId × Value → H} {W : World} {base : Nat} {v : Value} {d : DataW H} {p : List MemPlace} (hv : Value.okWide Tryz.prog W .any base 34 v) (h : DataW.Trod enc Tryz.prog W 0 (fun _ => true) true 34 v d p) :
    ∃ (x : DSession) (a0 : Option Addr) (c0 : Nat) (a1 : Option Addr) (c1 : Nat) (a2 : Option Addr) (c2 : Nat) (a3 : Option Addr) (c3 : Nat) (a4 : Option Addr) (c4 : Nat), v = .agg #[.slice a0 x.fGrammar.fSymbols.length c0, .slice a1 x.fGrammar.fRules.length c1, .slice a2 x.fTree.fNodes.length c2, .slice a3 x.fMemo.fEntries.length c3, .slice a4 x.fMemo.fEvaluated.length c4, .int .i64 x.fNext] ∧ x.ok ∧ Sl 0 W.heap.size W 2 x.fGrammar.fSymbols.length (fun k => DSymbol.ct (x.fGrammar.fSymbols.getD k default)) a0 ∧ Sl 0 W.heap.size W 6 x.fGrammar.fRules.length (fun k => DRule.ct (x.fGrammar.fRules.getD k default)) a1 ∧ Sl 0 W.heap.size W 6 x.fTree.fNodes.length (fun k => DNode.ct (x.fTree.fNodes.getD k default)) a2 ∧ Sl 0 W.heap.size W 9 x.fMemo.fEntries.length (fun k => DEntry.ct (x.fMemo.fEntries.getD k default)) a3 ∧ Sl 0 W.heap.size W 2 x.fMemo.fEvaluated.length (fun k => DInstance.ct (x.fMemo.fEvaluated.getD k default)) a4 := by
  obtain ⟨cs, rfl, hsz⟩ := okWide_struct Tryz.underlying34 hv
  obtain ⟨fuel, hf⟩ := h
  obtain ⟨x, hx, hl, hj⟩ := opens_session fuel _ _ hf
  obtain ⟨l⟩ := cs
  match l, hl, hj with
  | [e0, e1, e2, e3, e4, e5], _, hj =>
    obtain ⟨u0, hu0, hl0⟩ := hj 0 (by decide)
    obtain ⟨a0, c0, rfl, hs0⟩ := lies_sl hl0
    obtain rfl : e0 = _ := Option.some.inj hu0
    obtain ⟨u1, hu1, hl1⟩ := hj 1 (by decide)
    obtain ⟨a1, c1, rfl, hs1⟩ := lies_sl hl1
    obtain rfl : e1 = _ := Option.some.inj hu1
    obtain ⟨u2, hu2, hl2⟩ := hj 2 (by decide)
    obtain ⟨a2, c2, rfl, hs2⟩ := lies_sl hl2
    obtain rfl : e2 = _ := Option.some.inj hu2
    obtain ⟨u3, hu3, hl3⟩ := hj 3 (by decide)
    obtain ⟨a3, c3, rfl, hs3⟩ := lies_sl hl3
    obtain rfl : e3 = _ := Option.some.inj hu3
    obtain ⟨u4, hu4, hl4⟩ := hj 4 (by decide)
    obtain ⟨a4, c4, rfl, hs4⟩ := lies_sl hl4
    obtain rfl : e4 = _ := Option.some.inj hu4
    obtain ⟨u5, hu5, hl5⟩ := hj 5 (by decide)
    obtain rfl := lies_lit hl5
    obtain rfl : e5 = _ := Option.some.inj hu5
    exact ⟨x, a0, c0, a1, c1, a2, c2, a3, c3, a4, c4, rfl, hx, hs0, hs1, hs2, hs3, hs4⟩

set_option maxHeartbeats 1600000 in
set_option maxRecDepth 100000 in
theorem laws_szSession {lo hi : Nat} {a0 : Option Addr} {c0 : Nat} {a1 : Option Addr} {c1 : Nat} {a2 : Option Addr} {c2 : Nat} {a3 : Option Addr} {c3 : Nat} {a4 : Option Addr} {c4 : Nat} (x : DSession) (L : Int) (hL0 : 0 ≤ L) (hL1 : L ≤ 1048576) (hx : x.ok) (w : World) (hhi : hi ≤ w.heap.size) (hs0 : Sl lo hi w 2 x.fGrammar.fSymbols.length (fun k => DSymbol.ct (x.fGrammar.fSymbols.getD k default)) a0) (hs1 : Sl lo hi w 6 x.fGrammar.fRules.length (fun k => DRule.ct (x.fGrammar.fRules.getD k default)) a1) (hs2 : Sl lo hi w 6 x.fTree.fNodes.length (fun k => DNode.ct (x.fTree.fNodes.getD k default)) a2) (hs3 : Sl lo hi w 9 x.fMemo.fEntries.length (fun k => DEntry.ct (x.fMemo.fEntries.getD k default)) a3) (hs4 : Sl lo hi w 2 x.fMemo.fEvaluated.length (fun k => DInstance.ct (x.fMemo.fEvaluated.getD k default)) a4) :
    Calls Tryz.prog 4 #[.agg #[.slice a0 x.fGrammar.fSymbols.length c0, .slice a1 x.fGrammar.fRules.length c1, .slice a2 x.fTree.fNodes.length c2, .slice a3 x.fMemo.fEntries.length c3, .slice a4 x.fMemo.fEvaluated.length c4, .int .i64 x.fNext], .int .i64 L] w fun e w' => e = .returned (.int .i64 (szR L x.sz)) ∧ Below w.heap.size w w' := by
  have HS0 := Lib.hid hs0
  have HS1 := Lib.hid hs1
  have HS2 := Lib.hid hs2
  have HS3 := Lib.hid hs3
  have HS4 := Lib.hid hs4
  clear hs0 hs1 hs2 hs3 hs4
  have HX := Lib.hid hx
  clear hx
  have HB0 := Lib.hid ((Below.refl w.heap.size w).alloc (Nat.le_refl _) (.cells #[.slice a0 x.fGrammar.fSymbols.length c0, .slice a1 x.fGrammar.fRules.length c1, .slice a2 x.fTree.fNodes.length c2, .slice a3 x.fMemo.fEntries.length c3, .slice a4 x.fMemo.fEvaluated.length c4, .int .i64 x.fNext] 34))
  by_cases h0 : L < ((DGrammar.sz x.fGrammar : Nat) : Int)
  · skip
    have hz0 := fun (w' : World) (hhi : hi ≤ w'.heap.size) (hs0 : Sl lo hi w' 2 x.fGrammar.fSymbols.length (fun k => DSymbol.ct (x.fGrammar.fSymbols.getD k default)) a0) (hs1 : Sl lo hi w' 6 x.fGrammar.fRules.length (fun k => DRule.ct (x.fGrammar.fRules.getD k default)) a1) => laws_szGrammar (c0 := c0) (c1 := c1) x.fGrammar L (by omega) (by omega) HX.out.1 w' hhi hs0 hs1
    rw [szR_gt (by omega)] at hz0
    have HZ0 := Lib.hid hz0
    clear hz0
    have fin := Lib.hid (szR_gt (n := x.sz) (L := L) (by unfold DSession.sz; omega))
    go_enter Tryz.func4, Tryz.ntmps4
    go_wp2_with fail
    refine (HZ0.out _ (Nat.le_trans hhi HB0.out.size) (HS0.out.later HB0.out hhi) (HS1.out.later HB0.out hhi)).mono ?_
    rintro e w1 ⟨rfl, hb1⟩
    have hsz1 : w.heap.size < w1.heap.size := Nat.lt_of_lt_of_le (by first | omega | (simp; done) | (simp; omega)) hb1.size
    have HB1 := Lib.hid (HB0.out.trans (hb1.mono HB0.out.size))
    clear hb1
    go_wp2
    go_ret
    exact ⟨ret_i (by rw [fin.out]), HB1.out⟩
  · skip
    by_cases h1 : (L - (DGrammar.sz x.fGrammar : Nat)) < ((DTree.sz x.fTree : Nat) : Int)
    · skip
      have hz0 := fun (w' : World) (hhi : hi ≤ w'.heap.size) (hs0 : Sl lo hi w' 2 x.fGrammar.fSymbols.length (fun k => DSymbol.ct (x.fGrammar.fSymbols.getD k default)) a0) (hs1 : Sl lo hi w' 6 x.fGrammar.fRules.length (fun k => DRule.ct (x.fGrammar.fRules.getD k default)) a1) => laws_szGrammar (c0 := c0) (c1 := c1) x.fGrammar L (by omega) (by omega) HX.out.1 w' hhi hs0 hs1
      rw [szR_le (by omega)] at hz0
      have HZ0 := Lib.hid hz0
      clear hz0
      have hz1 := fun (w' : World) (hhi : hi ≤ w'.heap.size) (hs2 : Sl lo hi w' 6 x.fTree.fNodes.length (fun k => DNode.ct (x.fTree.fNodes.getD k default)) a2) => laws_szTree (c0 := c2) x.fTree (L - (DGrammar.sz x.fGrammar : Nat)) (by omega) (by omega) HX.out.2.1 w' hhi hs2
      rw [szR_gt (by omega)] at hz1
      have HZ1 := Lib.hid hz1
      clear hz1
      have fin := Lib.hid (szR_gt (n := x.sz) (L := L) (by unfold DSession.sz; omega))
      go_enter Tryz.func4, Tryz.ntmps4
      go_wp2_with fail
      refine (HZ0.out _ (Nat.le_trans hhi HB0.out.size) (HS0.out.later HB0.out hhi) (HS1.out.later HB0.out hhi)).mono ?_
      rintro e w1 ⟨rfl, hb1⟩
      have hsz1 : w.heap.size < w1.heap.size := Nat.lt_of_lt_of_le (by first | omega | (simp; done) | (simp; omega)) hb1.size
      have x1_0_2 : w1.cell? ⟨w.heap.size, 2, none⟩ = some (.slice a2 x.fTree.fNodes.length c2) := (hb1.cell (p := ⟨w.heap.size, 2, none⟩) (by first | omega | (simp; done) | (simp; omega) | (simp [World.setCell]; omega))).trans (by go_simp)
      have HB1 := Lib.hid (HB0.out.trans (hb1.mono HB0.out.size))
      clear hb1
      go_wp2_with fail
      refine (HZ1.out _ (Nat.le_trans hhi HB1.out.size) (HS2.out.later HB1.out hhi)).mono ?_
      rintro e w2 ⟨rfl, hb2⟩
      have hsz2 : w.heap.size < w2.heap.size := Nat.lt_of_lt_of_le (by first | omega | (simp; done) | (simp; omega)) hb2.size
      have HB2 := Lib.hid (HB1.out.trans (hb2.mono HB1.out.size))
      clear hb2
      go_wp2
      go_ret
      exact ⟨ret_i (by rw [fin.out]), HB2.out⟩
    · skip
      by_cases h2 : ((L - (DGrammar.sz x.fGrammar : Nat)) - (DTree.sz x.fTree : Nat)) < ((DMemo.sz x.fMemo : Nat) : Int)
      · skip
        have hz0 := fun (w' : World) (hhi : hi ≤ w'.heap.size) (hs0 : Sl lo hi w' 2 x.fGrammar.fSymbols.length (fun k => DSymbol.ct (x.fGrammar.fSymbols.getD k default)) a0) (hs1 : Sl lo hi w' 6 x.fGrammar.fRules.length (fun k => DRule.ct (x.fGrammar.fRules.getD k default)) a1) => laws_szGrammar (c0 := c0) (c1 := c1) x.fGrammar L (by omega) (by omega) HX.out.1 w' hhi hs0 hs1
        rw [szR_le (by omega)] at hz0
        have HZ0 := Lib.hid hz0
        clear hz0
        have hz1 := fun (w' : World) (hhi : hi ≤ w'.heap.size) (hs2 : Sl lo hi w' 6 x.fTree.fNodes.length (fun k => DNode.ct (x.fTree.fNodes.getD k default)) a2) => laws_szTree (c0 := c2) x.fTree (L - (DGrammar.sz x.fGrammar : Nat)) (by omega) (by omega) HX.out.2.1 w' hhi hs2
        rw [szR_le (by omega)] at hz1
        have HZ1 := Lib.hid hz1
        clear hz1
        have hz2 := fun (w' : World) (hhi : hi ≤ w'.heap.size) (hs3 : Sl lo hi w' 9 x.fMemo.fEntries.length (fun k => DEntry.ct (x.fMemo.fEntries.getD k default)) a3) (hs4 : Sl lo hi w' 2 x.fMemo.fEvaluated.length (fun k => DInstance.ct (x.fMemo.fEvaluated.getD k default)) a4) => laws_szMemo (c0 := c3) (c1 := c4) x.fMemo ((L - (DGrammar.sz x.fGrammar : Nat)) - (DTree.sz x.fTree : Nat)) (by omega) (by omega) HX.out.2.2.1 w' hhi hs3 hs4
        rw [szR_gt (by omega)] at hz2
        have HZ2 := Lib.hid hz2
        clear hz2
        have fin := Lib.hid (szR_gt (n := x.sz) (L := L) (by unfold DSession.sz; omega))
        go_enter Tryz.func4, Tryz.ntmps4
        go_wp2_with fail
        refine (HZ0.out _ (Nat.le_trans hhi HB0.out.size) (HS0.out.later HB0.out hhi) (HS1.out.later HB0.out hhi)).mono ?_
        rintro e w1 ⟨rfl, hb1⟩
        have hsz1 : w.heap.size < w1.heap.size := Nat.lt_of_lt_of_le (by first | omega | (simp; done) | (simp; omega)) hb1.size
        have x1_0_2 : w1.cell? ⟨w.heap.size, 2, none⟩ = some (.slice a2 x.fTree.fNodes.length c2) := (hb1.cell (p := ⟨w.heap.size, 2, none⟩) (by first | omega | (simp; done) | (simp; omega) | (simp [World.setCell]; omega))).trans (by go_simp)
        have x1_0_3 : w1.cell? ⟨w.heap.size, 3, none⟩ = some (.slice a3 x.fMemo.fEntries.length c3) := (hb1.cell (p := ⟨w.heap.size, 3, none⟩) (by first | omega | (simp; done) | (simp; omega) | (simp [World.setCell]; omega))).trans (by go_simp)
        have x1_0_4 : w1.cell? ⟨w.heap.size, 4, none⟩ = some (.slice a4 x.fMemo.fEvaluated.length c4) := (hb1.cell (p := ⟨w.heap.size, 4, none⟩) (by first | omega | (simp; done) | (simp; omega) | (simp [World.setCell]; omega))).trans (by go_simp)
        have HB1 := Lib.hid (HB0.out.trans (hb1.mono HB0.out.size))
        clear hb1
        go_wp2_with fail
        refine (HZ1.out _ (Nat.le_trans hhi HB1.out.size) (HS2.out.later HB1.out hhi)).mono ?_
        rintro e w2 ⟨rfl, hb2⟩
        have hsz2 : w.heap.size < w2.heap.size := Nat.lt_of_lt_of_le (by first | omega | (simp; done) | (simp; omega)) hb2.size
        have x2_0_3 : w2.cell? ⟨w.heap.size, 3, none⟩ = some (.slice a3 x.fMemo.fEntries.length c3) := (hb2.cell (p := ⟨w.heap.size, 3, none⟩) (by first | omega | (simp; done) | (simp; omega) | (simp [World.setCell]; omega))).trans (by go_simp)
        have x2_0_4 : w2.cell? ⟨w.heap.size, 4, none⟩ = some (.slice a4 x.fMemo.fEvaluated.length c4) := (hb2.cell (p := ⟨w.heap.size, 4, none⟩) (by first | omega | (simp; done) | (simp; omega) | (simp [World.setCell]; omega))).trans (by go_simp)
        have HB2 := Lib.hid (HB1.out.trans (hb2.mono HB1.out.size))
        clear hb2
        go_wp2_with fail
        refine (HZ2.out _ (Nat.le_trans hhi HB2.out.size) (HS3.out.later HB2.out hhi) (HS4.out.later HB2.out hhi)).mono ?_
        rintro e w3 ⟨rfl, hb3⟩
        have hsz3 : w.heap.size < w3.heap.size := Nat.lt_of_lt_of_le (by first | omega | (simp; done) | (simp; omega)) hb3.size
        have HB3 := Lib.hid (HB2.out.trans (hb3.mono HB2.out.size))
        clear hb3
        go_wp2
        go_ret
        exact ⟨ret_i (by rw [fin.out]), HB3.out⟩
      · skip
        have hz0 := fun (w' : World) (hhi : hi ≤ w'.heap.size) (hs0 : Sl lo hi w' 2 x.fGrammar.fSymbols.length (fun k => DSymbol.ct (x.fGrammar.fSymbols.getD k default)) a0) (hs1 : Sl lo hi w' 6 x.fGrammar.fRules.length (fun k => DRule.ct (x.fGrammar.fRules.getD k default)) a1) => laws_szGrammar (c0 := c0) (c1 := c1) x.fGrammar L (by omega) (by omega) HX.out.1 w' hhi hs0 hs1
        rw [szR_le (by omega)] at hz0
        have HZ0 := Lib.hid hz0
        clear hz0
        have hz1 := fun (w' : World) (hhi : hi ≤ w'.heap.size) (hs2 : Sl lo hi w' 6 x.fTree.fNodes.length (fun k => DNode.ct (x.fTree.fNodes.getD k default)) a2) => laws_szTree (c0 := c2) x.fTree (L - (DGrammar.sz x.fGrammar : Nat)) (by omega) (by omega) HX.out.2.1 w' hhi hs2
        rw [szR_le (by omega)] at hz1
        have HZ1 := Lib.hid hz1
        clear hz1
        have hz2 := fun (w' : World) (hhi : hi ≤ w'.heap.size) (hs3 : Sl lo hi w' 9 x.fMemo.fEntries.length (fun k => DEntry.ct (x.fMemo.fEntries.getD k default)) a3) (hs4 : Sl lo hi w' 2 x.fMemo.fEvaluated.length (fun k => DInstance.ct (x.fMemo.fEvaluated.getD k default)) a4) => laws_szMemo (c0 := c3) (c1 := c4) x.fMemo ((L - (DGrammar.sz x.fGrammar : Nat)) - (DTree.sz x.fTree : Nat)) (by omega) (by omega) HX.out.2.2.1 w' hhi hs3 hs4
        rw [szR_le (by omega)] at hz2
        have HZ2 := Lib.hid hz2
        clear hz2
        have fin := Lib.hid (szR_le (n := x.sz) (L := L) (by unfold DSession.sz; omega))
        go_enter Tryz.func4, Tryz.ntmps4
        go_wp2_with fail
        refine (HZ0.out _ (Nat.le_trans hhi HB0.out.size) (HS0.out.later HB0.out hhi) (HS1.out.later HB0.out hhi)).mono ?_
        rintro e w1 ⟨rfl, hb1⟩
        have hsz1 : w.heap.size < w1.heap.size := Nat.lt_of_lt_of_le (by first | omega | (simp; done) | (simp; omega)) hb1.size
        have x1_0_2 : w1.cell? ⟨w.heap.size, 2, none⟩ = some (.slice a2 x.fTree.fNodes.length c2) := (hb1.cell (p := ⟨w.heap.size, 2, none⟩) (by first | omega | (simp; done) | (simp; omega) | (simp [World.setCell]; omega))).trans (by go_simp)
        have x1_0_3 : w1.cell? ⟨w.heap.size, 3, none⟩ = some (.slice a3 x.fMemo.fEntries.length c3) := (hb1.cell (p := ⟨w.heap.size, 3, none⟩) (by first | omega | (simp; done) | (simp; omega) | (simp [World.setCell]; omega))).trans (by go_simp)
        have x1_0_4 : w1.cell? ⟨w.heap.size, 4, none⟩ = some (.slice a4 x.fMemo.fEvaluated.length c4) := (hb1.cell (p := ⟨w.heap.size, 4, none⟩) (by first | omega | (simp; done) | (simp; omega) | (simp [World.setCell]; omega))).trans (by go_simp)
        have HB1 := Lib.hid (HB0.out.trans (hb1.mono HB0.out.size))
        clear hb1
        go_wp2_with fail
        refine (HZ1.out _ (Nat.le_trans hhi HB1.out.size) (HS2.out.later HB1.out hhi)).mono ?_
        rintro e w2 ⟨rfl, hb2⟩
        have hsz2 : w.heap.size < w2.heap.size := Nat.lt_of_lt_of_le (by first | omega | (simp; done) | (simp; omega)) hb2.size
        have x2_0_3 : w2.cell? ⟨w.heap.size, 3, none⟩ = some (.slice a3 x.fMemo.fEntries.length c3) := (hb2.cell (p := ⟨w.heap.size, 3, none⟩) (by first | omega | (simp; done) | (simp; omega) | (simp [World.setCell]; omega))).trans (by go_simp)
        have x2_0_4 : w2.cell? ⟨w.heap.size, 4, none⟩ = some (.slice a4 x.fMemo.fEvaluated.length c4) := (hb2.cell (p := ⟨w.heap.size, 4, none⟩) (by first | omega | (simp; done) | (simp; omega) | (simp [World.setCell]; omega))).trans (by go_simp)
        have HB2 := Lib.hid (HB1.out.trans (hb2.mono HB1.out.size))
        clear hb2
        go_wp2_with fail
        refine (HZ2.out _ (Nat.le_trans hhi HB2.out.size) (HS3.out.later HB2.out hhi) (HS4.out.later HB2.out hhi)).mono ?_
        rintro e w3 ⟨rfl, hb3⟩
        have hsz3 : w.heap.size < w3.heap.size := Nat.lt_of_lt_of_le (by first | omega | (simp; done) | (simp; omega)) hb3.size
        have HB3 := Lib.hid (HB2.out.trans (hb3.mono HB2.out.size))
        clear hb3
        go_wp2
        go_ret
        exact ⟨ret_i (by rw [fin.out]; unfold DSession.sz; omega), HB3.out⟩

set_option maxHeartbeats 1600000 in
set_option maxRecDepth 100000 in
theorem laws_toSession {lo hi : Nat} {a0 : Option Addr} {c0 : Nat} {a1 : Option Addr} {c1 : Nat} {a2 : Option Addr} {c2 : Nat} {a3 : Option Addr} {c3 : Nat} {a4 : Option Addr} {c4 : Nat} (x : DSession) (hsz : x.sz ≤ 1048576) (w : World) (hhi : hi ≤ w.heap.size) (hs0 : Sl lo hi w 2 x.fGrammar.fSymbols.length (fun k => DSymbol.ct (x.fGrammar.fSymbols.getD k default)) a0) (hs1 : Sl lo hi w 6 x.fGrammar.fRules.length (fun k => DRule.ct (x.fGrammar.fRules.getD k default)) a1) (hs2 : Sl lo hi w 6 x.fTree.fNodes.length (fun k => DNode.ct (x.fTree.fNodes.getD k default)) a2) (hs3 : Sl lo hi w 9 x.fMemo.fEntries.length (fun k => DEntry.ct (x.fMemo.fEntries.getD k default)) a3) (hs4 : Sl lo hi w 2 x.fMemo.fEvaluated.length (fun k => DInstance.ct (x.fMemo.fEvaluated.getD k default)) a4) :
    Calls Tryz.prog 6 #[.agg #[.slice a0 x.fGrammar.fSymbols.length c0, .slice a1 x.fGrammar.fRules.length c1, .slice a2 x.fTree.fNodes.length c2, .slice a3 x.fMemo.fEntries.length c3, .slice a4 x.fMemo.fEvaluated.length c4, .int .i64 x.fNext]] w fun e w' => ∃ a0r c0r a1r c1r a2r c2r a3r c3r a4r c4r, e = .returned (.agg #[.slice a0r x.fGrammar.fSymbols.length c0r, .slice a1r x.fGrammar.fRules.length c1r, .slice a2r x.fTree.fNodes.length c2r, .slice a3r x.fMemo.fEntries.length c3r, .slice a4r x.fMemo.fEvaluated.length c4r, .int .i64 x.fNext]) ∧ OwnR w' (fun y => w.heap.size ≤ y ∧ y < w'.heap.size) 6 x.ct (fun j => [.slice a0r x.fGrammar.fSymbols.length c0r, .slice a1r x.fGrammar.fRules.length c1r, .slice a2r x.fTree.fNodes.length c2r, .slice a3r x.fMemo.fEntries.length c3r, .slice a4r x.fMemo.fEvaluated.length c4r, .int .i64 x.fNext].getD j .nilFunc) ∧ Below w.heap.size w w' := by
  have HS0 := Lib.hid hs0
  have HS1 := Lib.hid hs1
  have HS2 := Lib.hid hs2
  have HS3 := Lib.hid hs3
  have HS4 := Lib.hid hs4
  clear hs0 hs1 hs2 hs3 hs4
  have HW := Lib.hid hsz
  clear hsz
  have HB0 := Lib.hid (((((Below.refl w.heap.size w).alloc (Nat.le_refl _) (.cells #[.slice a0 x.fGrammar.fSymbols.length c0, .slice a1 x.fGrammar.fRules.length c1, .slice a2 x.fTree.fNodes.length c2, .slice a3 x.fMemo.fEntries.length c3, .slice a4 x.fMemo.fEvaluated.length c4, .int .i64 x.fNext] 34)).alloc (by simp <;> omega) (.cells #[.slice none 0 0, .slice none 0 0, .slice none 0 0, .slice none 0 0, .slice none 0 0, .int .i64 0] 49))).alloc (by simp <;> omega) (.cells #[.slice none 0 0, .slice none 0 0, .slice none 0 0, .slice none 0 0, .slice none 0 0, .int .i64 0] 49))
  have HSZ0 := Lib.hid (show w.heap.size + 2 < (((w.alloc (.cells #[.slice a0 x.fGrammar.fSymbols.length c0, .slice a1 x.fGrammar.fRules.length c1, .slice a2 x.fTree.fNodes.length c2, .slice a3 x.fMemo.fEntries.length c3, .slice a4 x.fMemo.fEvaluated.length c4, .int .i64 x.fNext] 34)).alloc (.cells #[.slice none 0 0, .slice none 0 0, .slice none 0 0, .slice none 0 0, .slice none 0 0, .int .i64 0] 49)).alloc (.cells #[.slice none 0 0, .slice none 0 0, .slice none 0 0, .slice none 0 0, .slice none 0 0, .int .i64 0] 49)).heap.size by simp)
  have ht0 := fun (w' : World) (hhi : hi ≤ w'.heap.size) (hs0 : Sl lo hi w' 2 x.fGrammar.fSymbols.length (fun k => DSymbol.ct (x.fGrammar.fSymbols.getD k default)) a0) (hs1 : Sl lo hi w' 6 x.fGrammar.fRules.length (fun k => DRule.ct (x.fGrammar.fRules.getD k default)) a1) => laws_toGrammar (c0 := c0) (c1 := c1) x.fGrammar (by have h := HW.out; unfold DSession.sz at h; omega) w' hhi hs0 hs1
  have HT0 := Lib.hid ht0
  clear ht0
  have ht1 := fun (w' : World) (hhi : hi ≤ w'.heap.size) (hs2 : Sl lo hi w' 6 x.fTree.fNodes.length (fun k => DNode.ct (x.fTree.fNodes.getD k default)) a2) => laws_toTree (c0 := c2) x.fTree (by have h := HW.out; unfold DSession.sz at h; omega) w' hhi hs2
  have HT1 := Lib.hid ht1
  clear ht1
  have ht2 := fun (w' : World) (hhi : hi ≤ w'.heap.size) (hs3 : Sl lo hi w' 9 x.fMemo.fEntries.length (fun k => DEntry.ct (x.fMemo.fEntries.getD k default)) a3) (hs4 : Sl lo hi w' 2 x.fMemo.fEvaluated.length (fun k => DInstance.ct (x.fMemo.fEvaluated.getD k default)) a4) => laws_toMemo (c0 := c3) (c1 := c4) x.fMemo (by have h := HW.out; unfold DSession.sz at h; omega) w' hhi hs3 hs4
  have HT2 := Lib.hid ht2
  clear ht2
  go_enter Tryz.func6, Tryz.ntmps6
  go_wp2_with fail
  refine (HT0.out _ (Nat.le_trans hhi (Below.size ((by repeat (first | (with_reducible exact HB0.out) | (with_reducible exact Below.refl _ _) | (refine Below.setCell ?_ (by simp <;> omega) _) | (refine Below.alloc ?_ (by simp <;> omega) _)) : Below w.heap.size w _)))) (HS0.out.later ((by repeat (first | (with_reducible exact HB0.out) | (with_reducible exact Below.refl _ _) | (refine Below.setCell ?_ (by simp <;> omega) _) | (refine Below.alloc ?_ (by simp <;> omega) _)) : Below w.heap.size w _)) hhi) (HS1.out.later ((by repeat (first | (with_reducible exact HB0.out) | (with_reducible exact Below.refl _ _) | (refine Below.setCell ?_ (by simp <;> omega) _) | (refine Below.alloc ?_ (by simp <;> omega) _)) : Below w.heap.size w _)) hhi)).mono ?_
  rintro e w1 ⟨a0r, c0r, a1r, c1r, rfl, ho1, hb1⟩
  have hsz1 : w.heap.size + 2 < w1.heap.size := Nat.lt_of_lt_of_le (by have h := HSZ0.out; first | (with_reducible exact h) | (simp; done) | (simp; omega) | (simp [World.setCell]; omega)) hb1.size
  have hlo1 : w.heap.size + 3 ≤ w1.heap.size := Nat.le_trans (by first | (with_reducible exact Nat.le_refl _) | (simp; done) | (simp; omega) | (simp [World.setCell]; omega)) hb1.size
  have hbw1 : Below w.heap.size w w1 := Below.trans ((by repeat (first | (with_reducible exact HB0.out) | (with_reducible exact Below.refl _ _) | (refine Below.setCell ?_ (by simp <;> omega) _) | (refine Below.alloc ?_ (by simp <;> omega) _)) : Below w.heap.size w _)) (hb1.mono (Below.size ((by repeat (first | (with_reducible exact HB0.out) | (with_reducible exact Below.refl _ _) | (refine Below.setCell ?_ (by simp <;> omega) _) | (refine Below.alloc ?_ (by simp <;> omega) _)) : Below w.heap.size w _))))
  have HO1_1 := Lib.hid (ho1.sub (F' := fun y => w.heap.size + 3 ≤ y ∧ y < w1.heap.size) (fun y hy => ⟨Nat.le_trans (by first | (with_reducible exact Nat.le_refl _) | (simp; done) | (simp; omega) | (simp [World.setCell]; done) | (simp [World.setCell]; omega)) hy.1, hy.2⟩))
  clear ho1
  have x1_0_2 : w1.cell? ⟨w.heap.size, 2, none⟩ = some (.slice a2 x.fTree.fNodes.length c2) := (hb1.cell (p := ⟨w.heap.size, 2, none⟩) (by first | omega | (simp; done) | (simp; omega) | (simp [World.setCell]; omega))).trans (by go_simp)
  have x1_0_3 : w1.cell? ⟨w.heap.size, 3, none⟩ = some (.slice a3 x.fMemo.fEntries.length c3) := (hb1.cell (p := ⟨w.heap.size, 3, none⟩) (by first | omega | (simp; done) | (simp; omega) | (simp [World.setCell]; omega))).trans (by go_simp)
  have x1_0_4 : w1.cell? ⟨w.heap.size, 4, none⟩ = some (.slice a4 x.fMemo.fEvaluated.length c4) := (hb1.cell (p := ⟨w.heap.size, 4, none⟩) (by first | omega | (simp; done) | (simp; omega) | (simp [World.setCell]; omega))).trans (by go_simp)
  have x1_0_5 : w1.cell? ⟨w.heap.size, 5, none⟩ = some (.int .i64 x.fNext) := (hb1.cell (p := ⟨w.heap.size, 5, none⟩) (by first | omega | (simp; done) | (simp; omega) | (simp [World.setCell]; omega))).trans (by go_simp)
  have x1_1_0 : w1.cell? ⟨w.heap.size + 1, 0, none⟩ = some (.slice none 0 0) := (hb1.cell (p := ⟨w.heap.size + 1, 0, none⟩) (by first | omega | (simp; done) | (simp; omega) | (simp [World.setCell]; omega))).trans (by go_simp)
  have z1_1_0 : w1.frozen? ⟨w.heap.size + 1, 0, none⟩ = false := (hb1.frozen (p := ⟨w.heap.size + 1, 0, none⟩) (by first | omega | (simp; done) | (simp; omega) | (simp [World.setCell]; omega))).trans (by go_simp)
  have x1_1_1 : w1.cell? ⟨w.heap.size + 1, 1, none⟩ = some (.slice none 0 0) := (hb1.cell (p := ⟨w.heap.size + 1, 1, none⟩) (by first | omega | (simp; done) | (simp; omega) | (simp [World.setCell]; omega))).trans (by go_simp)
  have z1_1_1 : w1.frozen? ⟨w.heap.size + 1, 1, none⟩ = false := (hb1.frozen (p := ⟨w.heap.size + 1, 1, none⟩) (by first | omega | (simp; done) | (simp; omega) | (simp [World.setCell]; omega))).trans (by go_simp)
  have x1_1_2 : w1.cell? ⟨w.heap.size + 1, 2, none⟩ = some (.slice none 0 0) := (hb1.cell (p := ⟨w.heap.size + 1, 2, none⟩) (by first | omega | (simp; done) | (simp; omega) | (simp [World.setCell]; omega))).trans (by go_simp)
  have z1_1_2 : w1.frozen? ⟨w.heap.size + 1, 2, none⟩ = false := (hb1.frozen (p := ⟨w.heap.size + 1, 2, none⟩) (by first | omega | (simp; done) | (simp; omega) | (simp [World.setCell]; omega))).trans (by go_simp)
  have x1_1_3 : w1.cell? ⟨w.heap.size + 1, 3, none⟩ = some (.slice none 0 0) := (hb1.cell (p := ⟨w.heap.size + 1, 3, none⟩) (by first | omega | (simp; done) | (simp; omega) | (simp [World.setCell]; omega))).trans (by go_simp)
  have z1_1_3 : w1.frozen? ⟨w.heap.size + 1, 3, none⟩ = false := (hb1.frozen (p := ⟨w.heap.size + 1, 3, none⟩) (by first | omega | (simp; done) | (simp; omega) | (simp [World.setCell]; omega))).trans (by go_simp)
  have x1_1_4 : w1.cell? ⟨w.heap.size + 1, 4, none⟩ = some (.slice none 0 0) := (hb1.cell (p := ⟨w.heap.size + 1, 4, none⟩) (by first | omega | (simp; done) | (simp; omega) | (simp [World.setCell]; omega))).trans (by go_simp)
  have z1_1_4 : w1.frozen? ⟨w.heap.size + 1, 4, none⟩ = false := (hb1.frozen (p := ⟨w.heap.size + 1, 4, none⟩) (by first | omega | (simp; done) | (simp; omega) | (simp [World.setCell]; omega))).trans (by go_simp)
  have x1_1_5 : w1.cell? ⟨w.heap.size + 1, 5, none⟩ = some (.int .i64 0) := (hb1.cell (p := ⟨w.heap.size + 1, 5, none⟩) (by first | omega | (simp; done) | (simp; omega) | (simp [World.setCell]; omega))).trans (by go_simp)
  have z1_1_5 : w1.frozen? ⟨w.heap.size + 1, 5, none⟩ = false := (hb1.frozen (p := ⟨w.heap.size + 1, 5, none⟩) (by first | omega | (simp; done) | (simp; omega) | (simp [World.setCell]; omega))).trans (by go_simp)
  have x1_2_0 : w1.cell? ⟨w.heap.size + 2, 0, none⟩ = some (.slice none 0 0) := (hb1.cell (p := ⟨w.heap.size + 2, 0, none⟩) (by first | omega | (simp; done) | (simp; omega) | (simp [World.setCell]; omega))).trans (by go_simp)
  have z1_2_0 : w1.frozen? ⟨w.heap.size + 2, 0, none⟩ = false := (hb1.frozen (p := ⟨w.heap.size + 2, 0, none⟩) (by first | omega | (simp; done) | (simp; omega) | (simp [World.setCell]; omega))).trans (by go_simp)
  have x1_2_1 : w1.cell? ⟨w.heap.size + 2, 1, none⟩ = some (.slice none 0 0) := (hb1.cell (p := ⟨w.heap.size + 2, 1, none⟩) (by first | omega | (simp; done) | (simp; omega) | (simp [World.setCell]; omega))).trans (by go_simp)
  have z1_2_1 : w1.frozen? ⟨w.heap.size + 2, 1, none⟩ = false := (hb1.frozen (p := ⟨w.heap.size + 2, 1, none⟩) (by first | omega | (simp; done) | (simp; omega) | (simp [World.setCell]; omega))).trans (by go_simp)
  have x1_2_2 : w1.cell? ⟨w.heap.size + 2, 2, none⟩ = some (.slice none 0 0) := (hb1.cell (p := ⟨w.heap.size + 2, 2, none⟩) (by first | omega | (simp; done) | (simp; omega) | (simp [World.setCell]; omega))).trans (by go_simp)
  have z1_2_2 : w1.frozen? ⟨w.heap.size + 2, 2, none⟩ = false := (hb1.frozen (p := ⟨w.heap.size + 2, 2, none⟩) (by first | omega | (simp; done) | (simp; omega) | (simp [World.setCell]; omega))).trans (by go_simp)
  have x1_2_3 : w1.cell? ⟨w.heap.size + 2, 3, none⟩ = some (.slice none 0 0) := (hb1.cell (p := ⟨w.heap.size + 2, 3, none⟩) (by first | omega | (simp; done) | (simp; omega) | (simp [World.setCell]; omega))).trans (by go_simp)
  have z1_2_3 : w1.frozen? ⟨w.heap.size + 2, 3, none⟩ = false := (hb1.frozen (p := ⟨w.heap.size + 2, 3, none⟩) (by first | omega | (simp; done) | (simp; omega) | (simp [World.setCell]; omega))).trans (by go_simp)
  have x1_2_4 : w1.cell? ⟨w.heap.size + 2, 4, none⟩ = some (.slice none 0 0) := (hb1.cell (p := ⟨w.heap.size + 2, 4, none⟩) (by first | omega | (simp; done) | (simp; omega) | (simp [World.setCell]; omega))).trans (by go_simp)
  have z1_2_4 : w1.frozen? ⟨w.heap.size + 2, 4, none⟩ = false := (hb1.frozen (p := ⟨w.heap.size + 2, 4, none⟩) (by first | omega | (simp; done) | (simp; omega) | (simp [World.setCell]; omega))).trans (by go_simp)
  have x1_2_5 : w1.cell? ⟨w.heap.size + 2, 5, none⟩ = some (.int .i64 0) := (hb1.cell (p := ⟨w.heap.size + 2, 5, none⟩) (by first | omega | (simp; done) | (simp; omega) | (simp [World.setCell]; omega))).trans (by go_simp)
  have z1_2_5 : w1.frozen? ⟨w.heap.size + 2, 5, none⟩ = false := (hb1.frozen (p := ⟨w.heap.size + 2, 5, none⟩) (by first | omega | (simp; done) | (simp; omega) | (simp [World.setCell]; omega))).trans (by go_simp)
  have HG1 := Lib.hid (show w1.heap[w.heap.size + 1]? = some (.cells #[.slice none 0 0, .slice none 0 0, .slice none 0 0, .slice none 0 0, .slice none 0 0, .int .i64 0] 49) from (hb1.block _ (by first | omega | (simp; done) | (simp; omega) | (simp [World.setCell]; omega))).trans (by (repeat (refine blk_other (by simp) ?_)); exact blk_alloc (by simp) (blk_new (by simp))))
  have HB1 := Lib.hid hbw1
  have HSZ1 := Lib.hid hsz1
  have HLO1 := Lib.hid hlo1
  clear hb1 hbw1 hsz1 hlo1
  go_wp2_with fail
  refine (HT1.out _ (Nat.le_trans hhi (Below.size ((by repeat (first | (with_reducible exact HB1.out) | (with_reducible exact Below.refl _ _) | (refine Below.setCell ?_ (by simp <;> omega) _) | (refine Below.alloc ?_ (by simp <;> omega) _)) : Below w.heap.size w _)))) (HS2.out.later ((by repeat (first | (with_reducible exact HB1.out) | (with_reducible exact Below.refl _ _) | (refine Below.setCell ?_ (by simp <;> omega) _) | (refine Below.alloc ?_ (by simp <;> omega) _)) : Below w.heap.size w _)) hhi)).mono ?_
  rintro e w2 ⟨a2r, c2r, rfl, ho2, hb2⟩
  have hsz2 : w.heap.size + 2 < w2.heap.size := Nat.lt_of_lt_of_le (by have h := HSZ1.out; first | (with_reducible exact h) | (simp; done) | (simp; omega) | (simp [World.setCell]; omega)) hb2.size
  have hlo2 : w1.heap.size ≤ w2.heap.size := Nat.le_trans (by first | (with_reducible exact Nat.le_refl _) | (simp; done) | (simp; omega) | (simp [World.setCell]; omega)) hb2.size
  have hbw2 : Below w.heap.size w w2 := Below.trans ((by repeat (first | (with_reducible exact HB1.out) | (with_reducible exact Below.refl _ _) | (refine Below.setCell ?_ (by simp <;> omega) _) | (refine Below.alloc ?_ (by simp <;> omega) _)) : Below w.heap.size w _)) (hb2.mono (Below.size ((by repeat (first | (with_reducible exact HB1.out) | (with_reducible exact Below.refl _ _) | (refine Below.setCell ?_ (by simp <;> omega) _) | (refine Below.alloc ?_ (by simp <;> omega) _)) : Below w.heap.size w _))))
  have HO1_2 := Lib.hid (HO1_1.out.kept (Kept.trans (by repeat (first | (with_reducible exact Kept.refl) | (refine Kept.put ?_ (by rintro ⟨h1, h2⟩; dsimp only at h1; have h3 := HSZ0.out; omega)))) (Kept.of_below_all hb2)))
  clear HO1_1
  have HO2_2 := Lib.hid (ho2.sub (F' := fun y => w1.heap.size ≤ y ∧ y < w2.heap.size) (fun y hy => ⟨Nat.le_trans (by first | (with_reducible exact Nat.le_refl _) | (simp; done) | (simp; omega) | (simp [World.setCell]; done) | (simp [World.setCell]; omega)) hy.1, hy.2⟩))
  clear ho2
  have hsp := HSZ1.out
  have x2_0_3 : w2.cell? ⟨w.heap.size, 3, none⟩ = some (.slice a3 x.fMemo.fEntries.length c3) := (hb2.cell (p := ⟨w.heap.size, 3, none⟩) (by first | omega | (simp; done) | (simp; omega) | (simp [World.setCell]; omega))).trans (by go_simp)
  have x2_0_4 : w2.cell? ⟨w.heap.size, 4, none⟩ = some (.slice a4 x.fMemo.fEvaluated.length c4) := (hb2.cell (p := ⟨w.heap.size, 4, none⟩) (by first | omega | (simp; done) | (simp; omega) | (simp [World.setCell]; omega))).trans (by go_simp)
  have x2_0_5 : w2.cell? ⟨w.heap.size, 5, none⟩ = some (.int .i64 x.fNext) := (hb2.cell (p := ⟨w.heap.size, 5, none⟩) (by first | omega | (simp; done) | (simp; omega) | (simp [World.setCell]; omega))).trans (by go_simp)
  have x2_1_0 : w2.cell? ⟨w.heap.size + 1, 0, none⟩ = some (.slice none 0 0) := (hb2.cell (p := ⟨w.heap.size + 1, 0, none⟩) (by first | omega | (simp; done) | (simp; omega) | (simp [World.setCell]; omega))).trans (by go_simp)
  have z2_1_0 : w2.frozen? ⟨w.heap.size + 1, 0, none⟩ = false := (hb2.frozen (p := ⟨w.heap.size + 1, 0, none⟩) (by first | omega | (simp; done) | (simp; omega) | (simp [World.setCell]; omega))).trans (by go_simp)
  have x2_1_1 : w2.cell? ⟨w.heap.size + 1, 1, none⟩ = some (.slice none 0 0) := (hb2.cell (p := ⟨w.heap.size + 1, 1, none⟩) (by first | omega | (simp; done) | (simp; omega) | (simp [World.setCell]; omega))).trans (by go_simp)
  have z2_1_1 : w2.frozen? ⟨w.heap.size + 1, 1, none⟩ = false := (hb2.frozen (p := ⟨w.heap.size + 1, 1, none⟩) (by first | omega | (simp; done) | (simp; omega) | (simp [World.setCell]; omega))).trans (by go_simp)
  have x2_1_2 : w2.cell? ⟨w.heap.size + 1, 2, none⟩ = some (.slice none 0 0) := (hb2.cell (p := ⟨w.heap.size + 1, 2, none⟩) (by first | omega | (simp; done) | (simp; omega) | (simp [World.setCell]; omega))).trans (by go_simp)
  have z2_1_2 : w2.frozen? ⟨w.heap.size + 1, 2, none⟩ = false := (hb2.frozen (p := ⟨w.heap.size + 1, 2, none⟩) (by first | omega | (simp; done) | (simp; omega) | (simp [World.setCell]; omega))).trans (by go_simp)
  have x2_1_3 : w2.cell? ⟨w.heap.size + 1, 3, none⟩ = some (.slice none 0 0) := (hb2.cell (p := ⟨w.heap.size + 1, 3, none⟩) (by first | omega | (simp; done) | (simp; omega) | (simp [World.setCell]; omega))).trans (by go_simp)
  have z2_1_3 : w2.frozen? ⟨w.heap.size + 1, 3, none⟩ = false := (hb2.frozen (p := ⟨w.heap.size + 1, 3, none⟩) (by first | omega | (simp; done) | (simp; omega) | (simp [World.setCell]; omega))).trans (by go_simp)
  have x2_1_4 : w2.cell? ⟨w.heap.size + 1, 4, none⟩ = some (.slice none 0 0) := (hb2.cell (p := ⟨w.heap.size + 1, 4, none⟩) (by first | omega | (simp; done) | (simp; omega) | (simp [World.setCell]; omega))).trans (by go_simp)
  have z2_1_4 : w2.frozen? ⟨w.heap.size + 1, 4, none⟩ = false := (hb2.frozen (p := ⟨w.heap.size + 1, 4, none⟩) (by first | omega | (simp; done) | (simp; omega) | (simp [World.setCell]; omega))).trans (by go_simp)
  have x2_1_5 : w2.cell? ⟨w.heap.size + 1, 5, none⟩ = some (.int .i64 0) := (hb2.cell (p := ⟨w.heap.size + 1, 5, none⟩) (by first | omega | (simp; done) | (simp; omega) | (simp [World.setCell]; omega))).trans (by go_simp)
  have z2_1_5 : w2.frozen? ⟨w.heap.size + 1, 5, none⟩ = false := (hb2.frozen (p := ⟨w.heap.size + 1, 5, none⟩) (by first | omega | (simp; done) | (simp; omega) | (simp [World.setCell]; omega))).trans (by go_simp)
  have x2_2_0 : w2.cell? ⟨w.heap.size + 2, 0, none⟩ = some (.slice a0r x.fGrammar.fSymbols.length c0r) := (hb2.cell (p := ⟨w.heap.size + 2, 0, none⟩) (by first | omega | (simp; done) | (simp; omega) | (simp [World.setCell]; omega))).trans (by go_simp)
  have z2_2_0 : w2.frozen? ⟨w.heap.size + 2, 0, none⟩ = false := (hb2.frozen (p := ⟨w.heap.size + 2, 0, none⟩) (by first | omega | (simp; done) | (simp; omega) | (simp [World.setCell]; omega))).trans (by go_simp)
  have x2_2_1 : w2.cell? ⟨w.heap.size + 2, 1, none⟩ = some (.slice a1r x.fGrammar.fRules.length c1r) := (hb2.cell (p := ⟨w.heap.size + 2, 1, none⟩) (by first | omega | (simp; done) | (simp; omega) | (simp [World.setCell]; omega))).trans (by go_simp)
  have z2_2_1 : w2.frozen? ⟨w.heap.size + 2, 1, none⟩ = false := (hb2.frozen (p := ⟨w.heap.size + 2, 1, none⟩) (by first | omega | (simp; done) | (simp; omega) | (simp [World.setCell]; omega))).trans (by go_simp)
  have x2_2_2 : w2.cell? ⟨w.heap.size + 2, 2, none⟩ = some (.slice none 0 0) := (hb2.cell (p := ⟨w.heap.size + 2, 2, none⟩) (by first | omega | (simp; done) | (simp; omega) | (simp [World.setCell]; omega))).trans (by go_simp)
  have z2_2_2 : w2.frozen? ⟨w.heap.size + 2, 2, none⟩ = false := (hb2.frozen (p := ⟨w.heap.size + 2, 2, none⟩) (by first | omega | (simp; done) | (simp; omega) | (simp [World.setCell]; omega))).trans (by go_simp)
  have x2_2_3 : w2.cell? ⟨w.heap.size + 2, 3, none⟩ = some (.slice none 0 0) := (hb2.cell (p := ⟨w.heap.size + 2, 3, none⟩) (by first | omega | (simp; done) | (simp; omega) | (simp [World.setCell]; omega))).trans (by go_simp)
  have z2_2_3 : w2.frozen? ⟨w.heap.size + 2, 3, none⟩ = false := (hb2.frozen (p := ⟨w.heap.size + 2, 3, none⟩) (by first | omega | (simp; done) | (simp; omega) | (simp [World.setCell]; omega))).trans (by go_simp)
  have x2_2_4 : w2.cell? ⟨w.heap.size + 2, 4, none⟩ = some (.slice none 0 0) := (hb2.cell (p := ⟨w.heap.size + 2, 4, none⟩) (by first | omega | (simp; done) | (simp; omega) | (simp [World.setCell]; omega))).trans (by go_simp)
  have z2_2_4 : w2.frozen? ⟨w.heap.size + 2, 4, none⟩ = false := (hb2.frozen (p := ⟨w.heap.size + 2, 4, none⟩) (by first | omega | (simp; done) | (simp; omega) | (simp [World.setCell]; omega))).trans (by go_simp)
  have x2_2_5 : w2.cell? ⟨w.heap.size + 2, 5, none⟩ = some (.int .i64 0) := (hb2.cell (p := ⟨w.heap.size + 2, 5, none⟩) (by first | omega | (simp; done) | (simp; omega) | (simp [World.setCell]; omega))).trans (by go_simp)
  have z2_2_5 : w2.frozen? ⟨w.heap.size + 2, 5, none⟩ = false := (hb2.frozen (p := ⟨w.heap.size + 2, 5, none⟩) (by first | omega | (simp; done) | (simp; omega) | (simp [World.setCell]; omega))).trans (by go_simp)
  have HG2 := Lib.hid (show w2.heap[w.heap.size + 1]? = some (.cells #[.slice none 0 0, .slice none 0 0, .slice none 0 0, .slice none 0 0, .slice none 0 0, .int .i64 0] 49) from (hb2.block _ (by first | omega | (simp; done) | (simp; omega) | (simp [World.setCell]; omega))).trans (by repeat (first | (with_reducible exact HG1.out) | (refine blk_other (by simp) ?_))))
  have HB2 := Lib.hid hbw2
  have HSZ2 := Lib.hid hsz2
  have HLO2 := Lib.hid hlo2
  clear hb2 hbw2 hsz2 hlo2 hsp
  clear x1_0_2 x1_0_3 x1_0_4 x1_0_5 x1_1_0 x1_1_1 x1_1_2 x1_1_3 x1_1_4 x1_1_5 x1_2_0 x1_2_1 x1_2_2 x1_2_3 x1_2_4 x1_2_5 z1_1_0 z1_1_1 z1_1_2 z1_1_3 z1_1_4 z1_1_5 z1_2_0 z1_2_1 z1_2_2 z1_2_3 z1_2_4 z1_2_5
  go_wp2_with fail
  refine (HT2.out _ (Nat.le_trans hhi (Below.size ((by repeat (first | (with_reducible exact HB2.out) | (with_reducible exact Below.refl _ _) | (refine Below.setCell ?_ (by simp <;> omega) _) | (refine Below.alloc ?_ (by simp <;> omega) _)) : Below w.heap.size w _)))) (HS3.out.later ((by repeat (first | (with_reducible exact HB2.out) | (with_reducible exact Below.refl _ _) | (refine Below.setCell ?_ (by simp <;> omega) _) | (refine Below.alloc ?_ (by simp <;> omega) _)) : Below w.heap.size w _)) hhi) (HS4.out.later ((by repeat (first | (with_reducible exact HB2.out) | (with_reducible exact Below.refl _ _) | (refine Below.setCell ?_ (by simp <;> omega) _) | (refine Below.alloc ?_ (by simp <;> omega) _)) : Below w.heap.size w _)) hhi)).mono ?_
  rintro e w3 ⟨a3r, c3r, a4r, c4r, rfl, ho3, hb3⟩
  have hsz3 : w.heap.size + 2 < w3.heap.size := Nat.lt_of_lt_of_le (by have h := HSZ2.out; first | (with_reducible exact h) | (simp; done) | (simp; omega) | (simp [World.setCell]; omega)) hb3.size
  have hlo3 : w2.heap.size ≤ w3.heap.size := Nat.le_trans (by first | (with_reducible exact Nat.le_refl _) | (simp; done) | (simp; omega) | (simp [World.setCell]; omega)) hb3.size
  have hbw3 : Below w.heap.size w w3 := Below.trans ((by repeat (first | (with_reducible exact HB2.out) | (with_reducible exact Below.refl _ _) | (refine Below.setCell ?_ (by simp <;> omega) _) | (refine Below.alloc ?_ (by simp <;> omega) _)) : Below w.heap.size w _)) (hb3.mono (Below.size ((by repeat (first | (with_reducible exact HB2.out) | (with_reducible exact Below.refl _ _) | (refine Below.setCell ?_ (by simp <;> omega) _) | (refine Below.alloc ?_ (by simp <;> omega) _)) : Below w.heap.size w _))))
  have HO1_3 := Lib.hid (HO1_2.out.kept (Kept.trans (by repeat (first | (with_reducible exact Kept.refl) | (refine Kept.put ?_ (by rintro ⟨h1, h2⟩; dsimp only at h1; have h3 := HSZ0.out; omega)))) (Kept.of_below_all hb3)))
  clear HO1_2
  have HO2_3 := Lib.hid (HO2_2.out.kept (Kept.trans (by repeat (first | (with_reducible exact Kept.refl) | (refine Kept.put ?_ (by rintro ⟨h1, h2⟩; dsimp only at h1; have h3 := HSZ1.out; omega)))) (Kept.of_below_all hb3)))
  clear HO2_2
  have HO3_3 := Lib.hid (ho3.sub (F' := fun y => w2.heap.size ≤ y ∧ y < w3.heap.size) (fun y hy => ⟨Nat.le_trans (by first | (with_reducible exact Nat.le_refl _) | (simp; done) | (simp; omega) | (simp [World.setCell]; done) | (simp [World.setCell]; omega)) hy.1, hy.2⟩))
  clear ho3
  have hsp := HSZ2.out
  have x3_0_5 : w3.cell? ⟨w.heap.size, 5, none⟩ = some (.int .i64 x.fNext) := (hb3.cell (p := ⟨w.heap.size, 5, none⟩) (by first | omega | (simp; done) | (simp; omega) | (simp [World.setCell]; omega))).trans (by go_simp)
  have x3_1_0 : w3.cell? ⟨w.heap.size + 1, 0, none⟩ = some (.slice none 0 0) := (hb3.cell (p := ⟨w.heap.size + 1, 0, none⟩) (by first | omega | (simp; done) | (simp; omega) | (simp [World.setCell]; omega))).trans (by go_simp)
  have z3_1_0 : w3.frozen? ⟨w.heap.size + 1, 0, none⟩ = false := (hb3.frozen (p := ⟨w.heap.size + 1, 0, none⟩) (by first | omega | (simp; done) | (simp; omega) | (simp [World.setCell]; omega))).trans (by go_simp)
  have x3_1_1 : w3.cell? ⟨w.heap.size + 1, 1, none⟩ = some (.slice none 0 0) := (hb3.cell (p := ⟨w.heap.size + 1, 1, none⟩) (by first | omega | (simp; done) | (simp; omega) | (simp [World.setCell]; omega))).trans (by go_simp)
  have z3_1_1 : w3.frozen? ⟨w.heap.size + 1, 1, none⟩ = false := (hb3.frozen (p := ⟨w.heap.size + 1, 1, none⟩) (by first | omega | (simp; done) | (simp; omega) | (simp [World.setCell]; omega))).trans (by go_simp)
  have x3_1_2 : w3.cell? ⟨w.heap.size + 1, 2, none⟩ = some (.slice none 0 0) := (hb3.cell (p := ⟨w.heap.size + 1, 2, none⟩) (by first | omega | (simp; done) | (simp; omega) | (simp [World.setCell]; omega))).trans (by go_simp)
  have z3_1_2 : w3.frozen? ⟨w.heap.size + 1, 2, none⟩ = false := (hb3.frozen (p := ⟨w.heap.size + 1, 2, none⟩) (by first | omega | (simp; done) | (simp; omega) | (simp [World.setCell]; omega))).trans (by go_simp)
  have x3_1_3 : w3.cell? ⟨w.heap.size + 1, 3, none⟩ = some (.slice none 0 0) := (hb3.cell (p := ⟨w.heap.size + 1, 3, none⟩) (by first | omega | (simp; done) | (simp; omega) | (simp [World.setCell]; omega))).trans (by go_simp)
  have z3_1_3 : w3.frozen? ⟨w.heap.size + 1, 3, none⟩ = false := (hb3.frozen (p := ⟨w.heap.size + 1, 3, none⟩) (by first | omega | (simp; done) | (simp; omega) | (simp [World.setCell]; omega))).trans (by go_simp)
  have x3_1_4 : w3.cell? ⟨w.heap.size + 1, 4, none⟩ = some (.slice none 0 0) := (hb3.cell (p := ⟨w.heap.size + 1, 4, none⟩) (by first | omega | (simp; done) | (simp; omega) | (simp [World.setCell]; omega))).trans (by go_simp)
  have z3_1_4 : w3.frozen? ⟨w.heap.size + 1, 4, none⟩ = false := (hb3.frozen (p := ⟨w.heap.size + 1, 4, none⟩) (by first | omega | (simp; done) | (simp; omega) | (simp [World.setCell]; omega))).trans (by go_simp)
  have x3_1_5 : w3.cell? ⟨w.heap.size + 1, 5, none⟩ = some (.int .i64 0) := (hb3.cell (p := ⟨w.heap.size + 1, 5, none⟩) (by first | omega | (simp; done) | (simp; omega) | (simp [World.setCell]; omega))).trans (by go_simp)
  have z3_1_5 : w3.frozen? ⟨w.heap.size + 1, 5, none⟩ = false := (hb3.frozen (p := ⟨w.heap.size + 1, 5, none⟩) (by first | omega | (simp; done) | (simp; omega) | (simp [World.setCell]; omega))).trans (by go_simp)
  have x3_2_0 : w3.cell? ⟨w.heap.size + 2, 0, none⟩ = some (.slice a0r x.fGrammar.fSymbols.length c0r) := (hb3.cell (p := ⟨w.heap.size + 2, 0, none⟩) (by first | omega | (simp; done) | (simp; omega) | (simp [World.setCell]; omega))).trans (by go_simp)
  have z3_2_0 : w3.frozen? ⟨w.heap.size + 2, 0, none⟩ = false := (hb3.frozen (p := ⟨w.heap.size + 2, 0, none⟩) (by first | omega | (simp; done) | (simp; omega) | (simp [World.setCell]; omega))).trans (by go_simp)
  have x3_2_1 : w3.cell? ⟨w.heap.size + 2, 1, none⟩ = some (.slice a1r x.fGrammar.fRules.length c1r) := (hb3.cell (p := ⟨w.heap.size + 2, 1, none⟩) (by first | omega | (simp; done) | (simp; omega) | (simp [World.setCell]; omega))).trans (by go_simp)
  have z3_2_1 : w3.frozen? ⟨w.heap.size + 2, 1, none⟩ = false := (hb3.frozen (p := ⟨w.heap.size + 2, 1, none⟩) (by first | omega | (simp; done) | (simp; omega) | (simp [World.setCell]; omega))).trans (by go_simp)
  have x3_2_2 : w3.cell? ⟨w.heap.size + 2, 2, none⟩ = some (.slice a2r x.fTree.fNodes.length c2r) := (hb3.cell (p := ⟨w.heap.size + 2, 2, none⟩) (by first | omega | (simp; done) | (simp; omega) | (simp [World.setCell]; omega))).trans (by go_simp)
  have z3_2_2 : w3.frozen? ⟨w.heap.size + 2, 2, none⟩ = false := (hb3.frozen (p := ⟨w.heap.size + 2, 2, none⟩) (by first | omega | (simp; done) | (simp; omega) | (simp [World.setCell]; omega))).trans (by go_simp)
  have x3_2_3 : w3.cell? ⟨w.heap.size + 2, 3, none⟩ = some (.slice none 0 0) := (hb3.cell (p := ⟨w.heap.size + 2, 3, none⟩) (by first | omega | (simp; done) | (simp; omega) | (simp [World.setCell]; omega))).trans (by go_simp)
  have z3_2_3 : w3.frozen? ⟨w.heap.size + 2, 3, none⟩ = false := (hb3.frozen (p := ⟨w.heap.size + 2, 3, none⟩) (by first | omega | (simp; done) | (simp; omega) | (simp [World.setCell]; omega))).trans (by go_simp)
  have x3_2_4 : w3.cell? ⟨w.heap.size + 2, 4, none⟩ = some (.slice none 0 0) := (hb3.cell (p := ⟨w.heap.size + 2, 4, none⟩) (by first | omega | (simp; done) | (simp; omega) | (simp [World.setCell]; omega))).trans (by go_simp)
  have z3_2_4 : w3.frozen? ⟨w.heap.size + 2, 4, none⟩ = false := (hb3.frozen (p := ⟨w.heap.size + 2, 4, none⟩) (by first | omega | (simp; done) | (simp; omega) | (simp [World.setCell]; omega))).trans (by go_simp)
  have x3_2_5 : w3.cell? ⟨w.heap.size + 2, 5, none⟩ = some (.int .i64 0) := (hb3.cell (p := ⟨w.heap.size + 2, 5, none⟩) (by first | omega | (simp; done) | (simp; omega) | (simp [World.setCell]; omega))).trans (by go_simp)
  have z3_2_5 : w3.frozen? ⟨w.heap.size + 2, 5, none⟩ = false := (hb3.frozen (p := ⟨w.heap.size + 2, 5, none⟩) (by first | omega | (simp; done) | (simp; omega) | (simp [World.setCell]; omega))).trans (by go_simp)
  have HG3 := Lib.hid (show w3.heap[w.heap.size + 1]? = some (.cells #[.slice none 0 0, .slice none 0 0, .slice none 0 0, .slice none 0 0, .slice none 0 0, .int .i64 0] 49) from (hb3.block _ (by first | omega | (simp; done) | (simp; omega) | (simp [World.setCell]; omega))).trans (by repeat (first | (with_reducible exact HG2.out) | (refine blk_other (by simp) ?_))))
  have HB3 := Lib.hid hbw3
  have HSZ3 := Lib.hid hsz3
  have HLO3 := Lib.hid hlo3
  clear hb3 hbw3 hsz3 hlo3 hsp
  clear x2_0_3 x2_0_4 x2_0_5 x2_1_0 x2_1_1 x2_1_2 x2_1_3 x2_1_4 x2_1_5 x2_2_0 x2_2_1 x2_2_2 x2_2_3 x2_2_4 x2_2_5 z2_1_0 z2_1_1 z2_1_2 z2_1_3 z2_1_4 z2_1_5 z2_2_0 z2_2_1 z2_2_2 z2_2_3 z2_2_4 z2_2_5
  go_wp2
  refine bodyPost_ret (v := .agg #[.slice a0r x.fGrammar.fSymbols.length c0r, .slice a1r x.fGrammar.fRules.length c1r, .slice a2r x.fTree.fNodes.length c2r, .slice a3r x.fMemo.fEntries.length c3r, .slice a4r x.fMemo.fEvaluated.length c4r, .int .i64 x.fNext]) (results_cell_row Tryz.results6 _ _ (w.heap.size + 1) 49 #[.slice a0r x.fGrammar.fSymbols.length c0r, .slice a1r x.fGrammar.fRules.length c1r, .slice a2r x.fTree.fNodes.length c2r, .slice a3r x.fMemo.fEntries.length c3r, .slice a4r x.fMemo.fEvaluated.length c4r, .int .i64 x.fNext] (0, 0) _ rfl (by refine Eq.trans (blk_set (cs := #[.slice a0r x.fGrammar.fSymbols.length c0r, .slice a1r x.fGrammar.fRules.length c1r, .slice a2r x.fTree.fNodes.length c2r, .slice a3r x.fMemo.fEntries.length c3r, .slice a4r x.fMemo.fEvaluated.length c4r, .int .i64 0]) (t := 49) (fr := (0, 0)) ?_) rfl; refine Eq.trans (blk_set (cs := #[.slice a0r x.fGrammar.fSymbols.length c0r, .slice a1r x.fGrammar.fRules.length c1r, .slice a2r x.fTree.fNodes.length c2r, .slice a3r x.fMemo.fEntries.length c3r, .slice none 0 0, .int .i64 0]) (t := 49) (fr := (0, 0)) ?_) rfl; refine Eq.trans (blk_set (cs := #[.slice a0r x.fGrammar.fSymbols.length c0r, .slice a1r x.fGrammar.fRules.length c1r, .slice a2r x.fTree.fNodes.length c2r, .slice none 0 0, .slice none 0 0, .int .i64 0]) (t := 49) (fr := (0, 0)) ?_) rfl; refine Eq.trans (blk_set (cs := #[.slice a0r x.fGrammar.fSymbols.length c0r, .slice a1r x.fGrammar.fRules.length c1r, .slice none 0 0, .slice none 0 0, .slice none 0 0, .int .i64 0]) (t := 49) (fr := (0, 0)) ?_) rfl; refine Eq.trans (blk_set (cs := #[.slice a0r x.fGrammar.fSymbols.length c0r, .slice none 0 0, .slice none 0 0, .slice none 0 0, .slice none 0 0, .int .i64 0]) (t := 49) (fr := (0, 0)) ?_) rfl; refine Eq.trans (blk_set (cs := #[.slice none 0 0, .slice none 0 0, .slice none 0 0, .slice none 0 0, .slice none 0 0, .int .i64 0]) (t := 49) (fr := (0, 0)) ?_) rfl; repeat (first | (with_reducible exact HG3.out) | (refine blk_other (by simp) ?_))) Tryz.underlying49 rfl rfl) rfl ⟨a0r, c0r, a1r, c1r, a2r, c2r, a3r, c3r, a4r, c4r, rfl, ?_, (by repeat (first | (with_reducible exact HB3.out) | (with_reducible exact Below.refl _ _) | (refine Below.setCell ?_ (by simp <;> omega) _) | (refine Below.alloc ?_ (by simp <;> omega) _)) : Below w.heap.size w _)⟩
  have ho1 := HO1_3.out
  clear HO1_3
  have ho2 := HO2_3.out
  clear HO2_3
  have ho3 := HO3_3.out
  clear HO3_3
  have q1 := HLO1.out
  have q2 := HLO2.out
  have q3 := HLO3.out
  skip
  skip
  skip
  have hkk : ∀ w9 : World, Kept (fun y => w.heap.size + 3 ≤ y) w3 w9 → OwnR w9 (fun y => w.heap.size ≤ y ∧ y < w3.heap.size) 6 x.ct (fun j => [.slice a0r x.fGrammar.fSymbols.length c0r, .slice a1r x.fGrammar.fRules.length c1r, .slice a2r x.fTree.fNodes.length c2r, .slice a3r x.fMemo.fEntries.length c3r, .slice a4r x.fMemo.fEvaluated.length c4r, .int .i64 x.fNext].getD j .nilFunc) := fun w9 hk => by
    refine OwnR.append (F1 := fun y => w.heap.size + 3 ≤ y ∧ y < w1.heap.size) (F2 := fun y => w1.heap.size ≤ y ∧ y < w3.heap.size) (m := 2) (n := 4) ?_ ?_ (by intro y h1 h2; first | exact h1.elim | exact h2.elim | (have h3 := h1.2; have h4 := h2.1; omega)) (by intro y h1; first | exact h1.elim | (have h3 := h1.1; have h4 := h1.2; exact ⟨by omega, by omega⟩)) (by intro y h1; first | exact h1.elim | (have h3 := h1.1; have h4 := h1.2; exact ⟨by omega, by omega⟩))
    · skip
      refine OwnR.congr (ho1.kept (hk.sub fun y hy => by have h := hy.1; omega)) (fun j hj => ?_) (fun j hj => ?_)
      · match j, hj with
        | 0, _ => rfl
        | 1, _ => rfl
      · match j, hj with
        | 0, _ => rfl
        | 1, _ => rfl
    · skip
      refine OwnR.append (F1 := fun y => w1.heap.size ≤ y ∧ y < w2.heap.size) (F2 := fun y => w2.heap.size ≤ y ∧ y < w3.heap.size) (m := 1) (n := 3) ?_ ?_ (by intro y h1 h2; first | exact h1.elim | exact h2.elim | (have h3 := h1.2; have h4 := h2.1; omega)) (by intro y h1; first | exact h1.elim | (have h3 := h1.1; have h4 := h1.2; exact ⟨by omega, by omega⟩)) (by intro y h1; first | exact h1.elim | (have h3 := h1.1; have h4 := h1.2; exact ⟨by omega, by omega⟩))
      · skip
        refine OwnR.congr (ho2.kept (hk.sub fun y hy => by have h := hy.1; omega)) (fun j hj => ?_) (fun j hj => ?_)
        · match j, hj with
          | 0, _ => rfl
        · match j, hj with
          | 0, _ => rfl
      · skip
        refine OwnR.append (F1 := fun y => w2.heap.size ≤ y ∧ y < w3.heap.size) (F2 := fun _ => False) (m := 2) (n := 1) ?_ ?_ (by intro y h1 h2; first | exact h1.elim | exact h2.elim | (have h3 := h1.2; have h4 := h2.1; omega)) (by intro y h1; first | exact h1.elim | (have h3 := h1.1; have h4 := h1.2; exact ⟨by omega, by omega⟩)) (by intro y h1; first | exact h1.elim | (have h3 := h1.1; have h4 := h1.2; exact ⟨by omega, by omega⟩))
        · skip
          refine OwnR.congr (ho3.kept (hk.sub fun y hy => by have h := hy.1; omega)) (fun j hj => ?_) (fun j hj => ?_)
          · match j, hj with
            | 0, _ => rfl
            | 1, _ => rfl
          · match j, hj with
            | 0, _ => rfl
            | 1, _ => rfl
        · skip
          refine OwnR.lits (F := fun _ => False) fun j hj => ?_
          match j, hj with
          | 0, _ => rfl
  refine (hkk _ (by repeat (first | (with_reducible exact Kept.refl) | (refine Kept.put ?_ (by intro h1; dsimp only at h1; omega))))).sub (fun y hy => ⟨hy.1, Nat.lt_of_lt_of_le hy.2 (by simp)⟩)

theorem info_Session : (Tryz.prog.info? 49).map (fun i => (i.zero, i.size, i.bytes)) = some (some (.agg #[.slice none 0 0, .slice none 0 0, .slice none 0 0, .slice none 0 0, .slice none 0 0, .int .i64 0]), 6, 128) := by kernel_rfl

set_option maxHeartbeats 1600000 in
set_option maxRecDepth 100000 in
theorem laws_eqSession {lo hi lo2 hi2 : Nat} {a0 : Option Addr} {c0 : Nat} {a1 : Option Addr} {c1 : Nat} {a2 : Option Addr} {c2 : Nat} {a3 : Option Addr} {c3 : Nat} {a4 : Option Addr} {c4 : Nat} {a0q : Option Addr} {c0q : Nat} {a1q : Option Addr} {c1q : Nat} {a2q : Option Addr} {c2q : Nat} {a3q : Option Addr} {c3q : Nat} {a4q : Option Addr} {c4q : Nat} (x : DSession) (hsz : x.sz ≤ 1048576) (w : World) (hhi : hi ≤ w.heap.size) (hhi2 : hi2 ≤ w.heap.size) (hs0 : Sl lo hi w 2 x.fGrammar.fSymbols.length (fun k => DSymbol.ct (x.fGrammar.fSymbols.getD k default)) a0) (hs1 : Sl lo hi w 6 x.fGrammar.fRules.length (fun k => DRule.ct (x.fGrammar.fRules.getD k default)) a1) (hs2 : Sl lo hi w 6 x.fTree.fNodes.length (fun k => DNode.ct (x.fTree.fNodes.getD k default)) a2) (hs3 : Sl lo hi w 9 x.fMemo.fEntries.length (fun k => DEntry.ct (x.fMemo.fEntries.getD k default)) a3) (hs4 : Sl lo hi w 2 x.fMemo.fEvaluated.length (fun k => DInstance.ct (x.fMemo.fEvaluated.getD k default)) a4) (hs0q : Sl lo2 hi2 w 2 x.fGrammar.fSymbols.length (fun k => DSymbol.ct (x.fGrammar.fSymbols.getD k default)) a0q) (hs1q : Sl lo2 hi2 w 6 x.fGrammar.fRules.length (fun k => DRule.ct (x.fGrammar.fRules.getD k default)) a1q) (hs2q : Sl lo2 hi2 w 6 x.fTree.fNodes.length (fun k => DNode.ct (x.fTree.fNodes.getD k default)) a2q) (hs3q : Sl lo2 hi2 w 9 x.fMemo.fEntries.length (fun k => DEntry.ct (x.fMemo.fEntries.getD k default)) a3q) (hs4q : Sl lo2 hi2 w 2 x.fMemo.fEvaluated.length (fun k => DInstance.ct (x.fMemo.fEvaluated.getD k default)) a4q) :
    Calls Tryz.prog 8 #[.agg #[.slice a0 x.fGrammar.fSymbols.length c0, .slice a1 x.fGrammar.fRules.length c1, .slice a2 x.fTree.fNodes.length c2, .slice a3 x.fMemo.fEntries.length c3, .slice a4 x.fMemo.fEvaluated.length c4, .int .i64 x.fNext], .agg #[.slice a0q x.fGrammar.fSymbols.length c0q, .slice a1q x.fGrammar.fRules.length c1q, .slice a2q x.fTree.fNodes.length c2q, .slice a3q x.fMemo.fEntries.length c3q, .slice a4q x.fMemo.fEvaluated.length c4q, .int .i64 x.fNext]] w fun e w' => e = .returned (.bool true) ∧ Below w.heap.size w w' := by
  have HS0 := Lib.hid hs0
  have HS0q := Lib.hid hs0q
  have HS1 := Lib.hid hs1
  have HS1q := Lib.hid hs1q
  have HS2 := Lib.hid hs2
  have HS2q := Lib.hid hs2q
  have HS3 := Lib.hid hs3
  have HS3q := Lib.hid hs3q
  have HS4 := Lib.hid hs4
  have HS4q := Lib.hid hs4q
  clear hs0 hs0q hs1 hs1q hs2 hs2q hs3 hs3q hs4 hs4q
  have HW := Lib.hid hsz
  clear hsz
  have HB0 := Lib.hid (((Below.refl w.heap.size w).alloc (Nat.le_refl _) (.cells #[.slice a0 x.fGrammar.fSymbols.length c0, .slice a1 x.fGrammar.fRules.length c1, .slice a2 x.fTree.fNodes.length c2, .slice a3 x.fMemo.fEntries.length c3, .slice a4 x.fMemo.fEvaluated.length c4, .int .i64 x.fNext] 49)).alloc (by simp <;> omega) (.cells #[.slice a0q x.fGrammar.fSymbols.length c0q, .slice a1q x.fGrammar.fRules.length c1q, .slice a2q x.fTree.fNodes.length c2q, .slice a3q x.fMemo.fEntries.length c3q, .slice a4q x.fMemo.fEvaluated.length c4q, .int .i64 x.fNext] 49))
  have ht0 := fun (w' : World) (hhi : hi ≤ w'.heap.size) (hhi2 : hi2 ≤ w'.heap.size) (hs0 : Sl lo hi w' 2 x.fGrammar.fSymbols.length (fun k => DSymbol.ct (x.fGrammar.fSymbols.getD k default)) a0) (hs1 : Sl lo hi w' 6 x.fGrammar.fRules.length (fun k => DRule.ct (x.fGrammar.fRules.getD k default)) a1) (hs0q : Sl lo2 hi2 w' 2 x.fGrammar.fSymbols.length (fun k => DSymbol.ct (x.fGrammar.fSymbols.getD k default)) a0q) (hs1q : Sl lo2 hi2 w' 6 x.fGrammar.fRules.length (fun k => DRule.ct (x.fGrammar.fRules.getD k default)) a1q) => laws_eqGrammar (c0 := c0) (c0q := c0q) (c1 := c1) (c1q := c1q) x.fGrammar (by have h := HW.out; unfold DSession.sz at h; omega) w' hhi hhi2 hs0 hs1 hs0q hs1q
  have HT0 := Lib.hid ht0
  clear ht0
  have ht1 := fun (w' : World) (hhi : hi ≤ w'.heap.size) (hhi2 : hi2 ≤ w'.heap.size) (hs2 : Sl lo hi w' 6 x.fTree.fNodes.length (fun k => DNode.ct (x.fTree.fNodes.getD k default)) a2) (hs2q : Sl lo2 hi2 w' 6 x.fTree.fNodes.length (fun k => DNode.ct (x.fTree.fNodes.getD k default)) a2q) => laws_eqTree (c0 := c2) (c0q := c2q) x.fTree (by have h := HW.out; unfold DSession.sz at h; omega) w' hhi hhi2 hs2 hs2q
  have HT1 := Lib.hid ht1
  clear ht1
  have ht2 := fun (w' : World) (hhi : hi ≤ w'.heap.size) (hhi2 : hi2 ≤ w'.heap.size) (hs3 : Sl lo hi w' 9 x.fMemo.fEntries.length (fun k => DEntry.ct (x.fMemo.fEntries.getD k default)) a3) (hs4 : Sl lo hi w' 2 x.fMemo.fEvaluated.length (fun k => DInstance.ct (x.fMemo.fEvaluated.getD k default)) a4) (hs3q : Sl lo2 hi2 w' 9 x.fMemo.fEntries.length (fun k => DEntry.ct (x.fMemo.fEntries.getD k default)) a3q) (hs4q : Sl lo2 hi2 w' 2 x.fMemo.fEvaluated.length (fun k => DInstance.ct (x.fMemo.fEvaluated.getD k default)) a4q) => laws_eqMemo (c0 := c3) (c0q := c3q) (c1 := c4) (c1q := c4q) x.fMemo (by have h := HW.out; unfold DSession.sz at h; omega) w' hhi hhi2 hs3 hs4 hs3q hs4q
  have HT2 := Lib.hid ht2
  clear ht2
  go_enter Tryz.func8, Tryz.ntmps8
  go_wp2_with fail
  refine (HT0.out _ (Nat.le_trans hhi (HB0.out.size)) (Nat.le_trans hhi2 (HB0.out.size)) (HS0.out.later HB0.out hhi) (HS1.out.later HB0.out hhi) (HS0q.out.later HB0.out hhi2) (HS1q.out.later HB0.out hhi2)).mono ?_
  rintro e w1 ⟨rfl, hb1⟩
  have x1_0_2 : w1.cell? ⟨w.heap.size, 2, none⟩ = some (.slice a2 x.fTree.fNodes.length c2) := (hb1.cell (p := ⟨w.heap.size, 2, none⟩) (by first | omega | (simp; done) | (simp; omega) | (simp [World.setCell]; omega))).trans (by go_simp)
  have x1_0_3 : w1.cell? ⟨w.heap.size, 3, none⟩ = some (.slice a3 x.fMemo.fEntries.length c3) := (hb1.cell (p := ⟨w.heap.size, 3, none⟩) (by first | omega | (simp; done) | (simp; omega) | (simp [World.setCell]; omega))).trans (by go_simp)
  have x1_0_4 : w1.cell? ⟨w.heap.size, 4, none⟩ = some (.slice a4 x.fMemo.fEvaluated.length c4) := (hb1.cell (p := ⟨w.heap.size, 4, none⟩) (by first | omega | (simp; done) | (simp; omega) | (simp [World.setCell]; omega))).trans (by go_simp)
  have x1_0_5 : w1.cell? ⟨w.heap.size, 5, none⟩ = some (.int .i64 x.fNext) := (hb1.cell (p := ⟨w.heap.size, 5, none⟩) (by first | omega | (simp; done) | (simp; omega) | (simp [World.setCell]; omega))).trans (by go_simp)
  have x1_1_2 : w1.cell? ⟨w.heap.size + 1, 2, none⟩ = some (.slice a2q x.fTree.fNodes.length c2q) := (hb1.cell (p := ⟨w.heap.size + 1, 2, none⟩) (by first | omega | (simp; done) | (simp; omega) | (simp [World.setCell]; omega))).trans (by go_simp)
  have x1_1_3 : w1.cell? ⟨w.heap.size + 1, 3, none⟩ = some (.slice a3q x.fMemo.fEntries.length c3q) := (hb1.cell (p := ⟨w.heap.size + 1, 3, none⟩) (by first | omega | (simp; done) | (simp; omega) | (simp [World.setCell]; omega))).trans (by go_simp)
  have x1_1_4 : w1.cell? ⟨w.heap.size + 1, 4, none⟩ = some (.slice a4q x.fMemo.fEvaluated.length c4q) := (hb1.cell (p := ⟨w.heap.size + 1, 4, none⟩) (by first | omega | (simp; done) | (simp; omega) | (simp [World.setCell]; omega))).trans (by go_simp)
  have x1_1_5 : w1.cell? ⟨w.heap.size + 1, 5, none⟩ = some (.int .i64 x.fNext) := (hb1.cell (p := ⟨w.heap.size + 1, 5, none⟩) (by first | omega | (simp; done) | (simp; omega) | (simp [World.setCell]; omega))).trans (by go_simp)
  have hsz1 : w.heap.size + 1 < w1.heap.size := Nat.lt_of_lt_of_le (by first | omega | (simp; done) | (simp; omega) | (simp [World.setCell]; omega)) hb1.size
  have HB1 := Lib.hid (HB0.out.trans (hb1.mono HB0.out.size))
  clear hb1
  go_wp2_with fail
  refine (HT1.out _ (Nat.le_trans hhi (HB1.out.size)) (Nat.le_trans hhi2 (HB1.out.size)) (HS2.out.later HB1.out hhi) (HS2q.out.later HB1.out hhi2)).mono ?_
  rintro e w2 ⟨rfl, hb2⟩
  have x2_0_3 : w2.cell? ⟨w.heap.size, 3, none⟩ = some (.slice a3 x.fMemo.fEntries.length c3) := (hb2.cell (p := ⟨w.heap.size, 3, none⟩) (by first | omega | (simp; done) | (simp; omega) | (simp [World.setCell]; omega))).trans (by go_simp)
  have x2_0_4 : w2.cell? ⟨w.heap.size, 4, none⟩ = some (.slice a4 x.fMemo.fEvaluated.length c4) := (hb2.cell (p := ⟨w.heap.size, 4, none⟩) (by first | omega | (simp; done) | (simp; omega) | (simp [World.setCell]; omega))).trans (by go_simp)
  have x2_0_5 : w2.cell? ⟨w.heap.size, 5, none⟩ = some (.int .i64 x.fNext) := (hb2.cell (p := ⟨w.heap.size, 5, none⟩) (by first | omega | (simp; done) | (simp; omega) | (simp [World.setCell]; omega))).trans (by go_simp)
  have x2_1_3 : w2.cell? ⟨w.heap.size + 1, 3, none⟩ = some (.slice a3q x.fMemo.fEntries.length c3q) := (hb2.cell (p := ⟨w.heap.size + 1, 3, none⟩) (by first | omega | (simp; done) | (simp; omega) | (simp [World.setCell]; omega))).trans (by go_simp)
  have x2_1_4 : w2.cell? ⟨w.heap.size + 1, 4, none⟩ = some (.slice a4q x.fMemo.fEvaluated.length c4q) := (hb2.cell (p := ⟨w.heap.size + 1, 4, none⟩) (by first | omega | (simp; done) | (simp; omega) | (simp [World.setCell]; omega))).trans (by go_simp)
  have x2_1_5 : w2.cell? ⟨w.heap.size + 1, 5, none⟩ = some (.int .i64 x.fNext) := (hb2.cell (p := ⟨w.heap.size + 1, 5, none⟩) (by first | omega | (simp; done) | (simp; omega) | (simp [World.setCell]; omega))).trans (by go_simp)
  have hsz2 : w.heap.size + 1 < w2.heap.size := Nat.lt_of_lt_of_le (by first | omega | (simp; done) | (simp; omega) | (simp [World.setCell]; omega)) hb2.size
  have HB2 := Lib.hid (HB1.out.trans (hb2.mono HB1.out.size))
  clear hb2
  clear x1_0_2 x1_0_3 x1_0_4 x1_0_5 x1_1_2 x1_1_3 x1_1_4 x1_1_5 hsz1
  go_wp2_with fail
  refine (HT2.out _ (Nat.le_trans hhi (HB2.out.size)) (Nat.le_trans hhi2 (HB2.out.size)) (HS3.out.later HB2.out hhi) (HS4.out.later HB2.out hhi) (HS3q.out.later HB2.out hhi2) (HS4q.out.later HB2.out hhi2)).mono ?_
  rintro e w3 ⟨rfl, hb3⟩
  have x3_0_5 : w3.cell? ⟨w.heap.size, 5, none⟩ = some (.int .i64 x.fNext) := (hb3.cell (p := ⟨w.heap.size, 5, none⟩) (by first | omega | (simp; done) | (simp; omega) | (simp [World.setCell]; omega))).trans (by go_simp)
  have x3_1_5 : w3.cell? ⟨w.heap.size + 1, 5, none⟩ = some (.int .i64 x.fNext) := (hb3.cell (p := ⟨w.heap.size + 1, 5, none⟩) (by first | omega | (simp; done) | (simp; omega) | (simp [World.setCell]; omega))).trans (by go_simp)
  have HB3 := Lib.hid (HB2.out.trans (hb3.mono HB2.out.size))
  clear hb3
  clear x2_0_3 x2_0_4 x2_0_5 x2_1_3 x2_1_4 x2_1_5 hsz2
  go_wp2
  go_ret
  exact ⟨rfl, HB3.out⟩
end Go.Proofs.YtjhgifpnpkcaoaaGreat
