/-
  EqualGrammar, in the model and in the program.
-/
import Derived.Test.YtjhgifpnpkcaoaaGreatEqGram
import Derived.Test.YtjhgifpnpkcaoaaGreatFree
import Derived.Deep.QuietTactic
import Derived.BigQuiet
namespace Go.Proofs.YtjhgifpnpkcaoaaGreat
open Go.ChangeShapes Go.WideShapes Go.ChangeAt Go.RowKit Go.Deep

def CondG (x y : DGrammar) : Prop := allEq eqSy x.fSymbols y.fSymbols = true ∧ allEq eqR x.fRules y.fRules = true
/-- Whether two grammars agree. -/
noncomputable def eqG (x y : DGrammar) : Bool := by classical exact decide (CondG x y)
theorem eqG_no {x y : DGrammar} (h : ¬ CondG x y) : eqG x y = false := by classical unfold eqG; exact decide_eq_false h
theorem eqG_yes {x y : DGrammar} (h : CondG x y) : eqG x y = true := by classical unfold eqG; exact decide_eq_true h

set_option maxHeartbeats 6400000 in
set_option maxRecDepth 100000 in
theorem impl_EqualGrammar {lo hi : Nat} {a0 a1 b0 b1 : Option Addr} {c0_0 c0_1 c1_0 c1_1 : Nat} (x : DGrammar) (okx : x.ok) (hx : x.sz ≤ 1048576) (y : DGrammar) (oky : y.ok) (hy : y.sz ≤ 1048576) (w : World) (hhi : hi ≤ w.heap.size) (hs0 : Sf lo hi w 2 x.fSymbols.length (fun k => DSymbol.ct (x.fSymbols.getD k default)) a0) (hs1 : Sf lo hi w 6 x.fRules.length (fun k => DRule.ct (x.fRules.getD k default)) a1) (ht0 : Sf lo hi w 2 y.fSymbols.length (fun k => DSymbol.ct (y.fSymbols.getD k default)) b0) (ht1 : Sf lo hi w 6 y.fRules.length (fun k => DRule.ct (y.fRules.getD k default)) b1) :
    Calls Tryz.prog 18 #[.agg #[.slice a0 x.fSymbols.length c0_0, .slice a1 x.fRules.length c0_1], .agg #[.slice b0 y.fSymbols.length c1_0, .slice b1 y.fRules.length c1_1]] w fun e w' => e = .returned (.bool (eqG x y)) ∧ Below w.heap.size w w' := by
  have z0x : lsz DSymbol.sz x.fSymbols ≤ 1048576 := by unfold DGrammar.sz at hx; omega
  have z1x : lsz DRule.sz x.fRules ≤ 1048576 := by unfold DGrammar.sz at hx; omega
  have z0y : lsz DSymbol.sz y.fSymbols ≤ 1048576 := by unfold DGrammar.sz at hy; omega
  have z1y : lsz DRule.sz y.fRules ≤ 1048576 := by unfold DGrammar.sz at hy; omega
  have hno := @eqG_no x y
  have hyes := @eqG_yes x y
  unfold CondG at hno hyes
  have HB := Lib.hid (((Below.refl w.heap.size w).alloc (Nat.le_refl _) (.cells #[.slice a0 x.fSymbols.length c0_0, .slice a1 x.fRules.length c0_1] 40)).alloc (by simp) (.cells #[.slice b0 y.fSymbols.length c1_0, .slice b1 y.fRules.length c1_1] 40))
  have HQ0 := Lib.hid (fun (W : World) (hW : Below w.heap.size w W) => EqualFunc_symbols (cap := c0_0) (cap2 := c1_0) x.fSymbols y.fSymbols okx.1 oky.1 z0x z0y W (Nat.le_trans hhi hW.size) (hs0.sl.later hW hhi) (ht0.sl.later hW hhi))
  have HQ1 := Lib.hid (fun (W : World) (hW : Below w.heap.size w W) => EqualFunc_rules (cap := c0_1) (cap2 := c1_1) x.fRules y.fRules okx.2 oky.2 z1x z1y W (Nat.le_trans hhi hW.size) (hs1.later hW hhi) (ht1.later hW hhi))
  clear hs0 hs1 ht0 ht1 hx hy okx oky z0x z0y z1x z1y
  generalize eqG x y = res at *
  generalize allEq eqSy x.fSymbols y.fSymbols = q4 at *
  generalize allEq eqR x.fRules y.fRules = q5 at *
  have HRES := Lib.hid (show res = (q4 && q5) from by
    cases q4
    · exact hno (fun e => by cases e.1)
    · cases q5
      · exact hno (fun e => by cases e.2)
      · exact hyes ⟨rfl, rfl⟩)
  clear hno hyes
  generalize x.fSymbols.length = nx0 at *
  generalize y.fSymbols.length = ny0 at *
  generalize x.fRules.length = nx1 at *
  generalize y.fRules.length = ny1 at *
  go_enter Tryz.func18, Tryz.ntmps18
  go_wp2_with fail
  refine (HQ0.out _ HB.out).mono ?_
  rintro e w2 ⟨rfl, hb2⟩
  have pX1 : w2.cell? ⟨w.heap.size, 1, none⟩ = some (.slice a1 nx1 c0_1) := (hb2.cell (p := ⟨w.heap.size, 1, none⟩) (by simp <;> omega)).trans (by go_simp)
  have pY1 : w2.cell? ⟨w.heap.size + 1, 1, none⟩ = some (.slice b1 ny1 c1_1) := (hb2.cell (p := ⟨w.heap.size + 1, 1, none⟩) (by simp <;> omega)).trans (by go_simp)
  have HB2 := Lib.hid (HB.out.trans (hb2.mono HB.out.size))
  clear hb2
  cases q4
  · have fin := Lib.hid (show res = false from HRES.out)
    clear HRES HQ1
    go_wp2
    go_ret
    exact ⟨ret_b fin.out.symm, HB2.out⟩
  · go_wp2_with fail
    refine (HQ1.out _ HB2.out).mono ?_
    rintro e w3 ⟨rfl, hb3⟩
    have HB3 := Lib.hid (HB2.out.trans (hb3.mono HB2.out.size))
    clear hb3
    have fin := Lib.hid (show q5 = res from HRES.out.symm)
    go_wp2
    go_ret
    exact ⟨ret_b fin.out, HB3.out⟩

set_option maxHeartbeats 6400000 in
set_option maxRecDepth 100000 in
theorem spec_EqualGrammar {lo hi : Nat} {a0 a1 b0 b1 : Option Addr} {c0_0 c0_1 c1_0 c1_1 : Nat} (x : DGrammar) (okx : x.ok) (hx : x.sz ≤ 1048576) (y : DGrammar) (oky : y.ok) (hy : y.sz ≤ 1048576) (w : World) (hhi : hi ≤ w.heap.size) (hs0 : Sl lo hi w 2 x.fSymbols.length (fun k => DSymbol.ct (x.fSymbols.getD k default)) a0) (hs1 : Sl lo hi w 6 x.fRules.length (fun k => DRule.ct (x.fRules.getD k default)) a1) (ht0 : Sl lo hi w 2 y.fSymbols.length (fun k => DSymbol.ct (y.fSymbols.getD k default)) b0) (ht1 : Sl lo hi w 6 y.fRules.length (fun k => DRule.ct (y.fRules.getD k default)) b1) :
    Calls Tryz.prog 12 #[.agg #[.slice a0 x.fSymbols.length c0_0, .slice a1 x.fRules.length c0_1], .agg #[.slice b0 y.fSymbols.length c1_0, .slice b1 y.fRules.length c1_1]] w fun e w' => e = .returned (.bool (eqG x y)) ∧ Below w.heap.size w w' := by
  have z0x : lsz DSymbol.sz x.fSymbols ≤ 1048576 := by unfold DGrammar.sz at hx; omega
  have z1x : lsz DRule.sz x.fRules ≤ 1048576 := by unfold DGrammar.sz at hx; omega
  have z0y : lsz DSymbol.sz y.fSymbols ≤ 1048576 := by unfold DGrammar.sz at hy; omega
  have z1y : lsz DRule.sz y.fRules ≤ 1048576 := by unfold DGrammar.sz at hy; omega
  have hno := @eqG_no x y
  have hyes := @eqG_yes x y
  unfold CondG at hno hyes
  have HB := Lib.hid (((Below.refl w.heap.size w).alloc (Nat.le_refl _) (.cells #[.slice a0 x.fSymbols.length c0_0, .slice a1 x.fRules.length c0_1] 40)).alloc (by simp) (.cells #[.slice b0 y.fSymbols.length c1_0, .slice b1 y.fRules.length c1_1] 40))
  have HS0 := Lib.hid hs0
  have HS1 := Lib.hid hs1
  have HT0 := Lib.hid ht0
  have HT1 := Lib.hid ht1
  have HZ0 := Lib.hid (fun k (hk : k < x.fSymbols.length) => Nat.le_trans (szle_at (f := DSymbol.sz) x.fSymbols k hk) z0x)
  have HZ0' := Lib.hid (fun k (hk : k < y.fSymbols.length) => Nat.le_trans (szle_at (f := DSymbol.sz) y.fSymbols k hk) z0y)
  have HZ1 := Lib.hid (fun k (hk : k < x.fRules.length) => Nat.le_trans (szle_at (f := DRule.sz) x.fRules k hk) z1x)
  have HZ1' := Lib.hid (fun k (hk : k < y.fRules.length) => Nat.le_trans (szle_at (f := DRule.sz) y.fRules k hk) z1y)
  have HO0 := Lib.hid (fun k (hk : k < x.fSymbols.length) => okx.1.at hk)
  have HO0' := Lib.hid (fun k (hk : k < y.fSymbols.length) => oky.1.at hk)
  have HO1 := Lib.hid (fun k (hk : k < x.fRules.length) => okx.2.at hk)
  have HO1' := Lib.hid (fun k (hk : k < y.fRules.length) => oky.2.at hk)
  have HN0 := Lib.hid (show x.fSymbols.length ≤ 1048576 by unfold lsz at z0x; omega)
  have HN1 := Lib.hid (show x.fRules.length ≤ 1048576 by unfold lsz at z1x; omega)
  clear hs0 hs1 ht0 ht1 hx hy okx oky z0x z0y z1x z1y
  generalize eqG x y = res at *
  by_cases h4 : x.fSymbols.length = y.fSymbols.length
  rotate_left
  · have fin := Lib.hid (hno (fun e => by have e4 := e.1; rw [allEq_len h4] at e4; cases e4))
    have e1 := ln_ne h4
    clear hno hyes HS0 HS1 HT0 HT1 HZ0 HZ0' HZ1 HZ1' HO0 HO0' HO1 HO1'
    generalize x.fSymbols.length = nx0 at *
    generalize y.fSymbols.length = ny0 at *
    generalize x.fRules.length = nx1 at *
    generalize y.fRules.length = ny1 at *
    go_enter Tryz.func12, Tryz.ntmps12
    go_wp2
    go_ret
    exact ⟨ret_b fin.out.symm, HB.out⟩
  by_cases h5 : x.fRules.length = y.fRules.length
  rotate_left
  · have fin := Lib.hid (hno (fun e => by have e4 := e.2; rw [allEq_len h5] at e4; cases e4))
    have e1 := ln_ne h5
    have e4 := ln_eq h4
    clear h4
    clear hno hyes HS0 HS1 HT0 HT1 HZ0 HZ0' HZ1 HZ1' HO0 HO0' HO1 HO1'
    generalize x.fSymbols.length = nx0 at *
    generalize y.fSymbols.length = ny0 at *
    generalize x.fRules.length = nx1 at *
    generalize y.fRules.length = ny1 at *
    go_enter Tryz.func12, Tryz.ntmps12
    go_wp2
    go_ret
    exact ⟨ret_b fin.out.symm, HB.out⟩
  have e4 := ln_eq h4
  have e5 := ln_eq h5
  have HN := Lib.hid hno
  have HY := Lib.hid hyes
  have H4 := Lib.hid h4
  have H5 := Lib.hid h5
  clear hno hyes h4 h5
  generalize x.fSymbols = xs0 at *
  generalize y.fSymbols = ys0 at *
  generalize x.fRules = xs1 at *
  generalize y.fRules = ys1 at *
  have hz1 : ((w.alloc (.cells #[.slice a0 xs0.length c0_0, .slice a1 xs1.length c0_1] 40)).alloc (.cells #[.slice b0 ys0.length c1_0, .slice b1 ys1.length c1_1] 40)).heap.size = w.heap.size + 2 := by simp
  have pX0 : ((w.alloc (.cells #[.slice a0 xs0.length c0_0, .slice a1 xs1.length c0_1] 40)).alloc (.cells #[.slice b0 ys0.length c1_0, .slice b1 ys1.length c1_1] 40)).cell? ⟨w.heap.size, 0, none⟩ = some (.slice a0 xs0.length c0_0) := by go_simp
  have pX1 : ((w.alloc (.cells #[.slice a0 xs0.length c0_0, .slice a1 xs1.length c0_1] 40)).alloc (.cells #[.slice b0 ys0.length c1_0, .slice b1 ys1.length c1_1] 40)).cell? ⟨w.heap.size, 1, none⟩ = some (.slice a1 xs1.length c0_1) := by go_simp
  have pY0 : ((w.alloc (.cells #[.slice a0 xs0.length c0_0, .slice a1 xs1.length c0_1] 40)).alloc (.cells #[.slice b0 ys0.length c1_0, .slice b1 ys1.length c1_1] 40)).cell? ⟨w.heap.size + 1, 0, none⟩ = some (.slice b0 ys0.length c1_0) := by go_simp
  have pY1 : ((w.alloc (.cells #[.slice a0 xs0.length c0_0, .slice a1 xs1.length c0_1] 40)).alloc (.cells #[.slice b0 ys0.length c1_0, .slice b1 ys1.length c1_1] 40)).cell? ⟨w.heap.size + 1, 1, none⟩ = some (.slice b1 ys1.length c1_1) := by go_simp
  have HX0 := Lib.hid pX0
  have HX1 := Lib.hid pX1
  have HY0 := Lib.hid pY0
  have HY1 := Lib.hid pY1
  have HZW := Lib.hid hz1
  clear pX0 pX1 pY0 pY1 hz1
  go_enter Tryz.func12, Tryz.ntmps12
  go_wp2
  go_loopw [5] (fun i wr => ∃ k : Nat, k ≤ xs0.length ∧ i = .int .i64 (k : Int) ∧ (∀ jj, jj < k → eqSy (xs0.getD jj default) (ys0.getD jj default) = true) ∧ Below (w.heap.size + 2) ((w.alloc (.cells #[.slice a0 xs0.length c0_0, .slice a1 xs1.length c0_1] 40)).alloc (.cells #[.slice b0 ys0.length c1_0, .slice b1 ys1.length c1_1] 40)) wr) (fun i _ => xs0.length - (intOf i).toNat)
  case atStart => exact ⟨0, Nat.zero_le _, rfl, fun _ h => absurd h (Nat.not_lt_zero _), Below.refl _ _⟩
  case round =>
    obtain ⟨k, hk, rfl, heq, hbl⟩ := hrel
    have HE := Lib.hid heq
    have HBL := Lib.hid hbl
    have HBW := Lib.hid (HB.out.trans (hbl.mono (by omega)))
    have hz2 : w.heap.size + 2 ≤ wr.heap.size := by have := hbl.size; rw [HZW.out] at this; exact this
    have pX0 := (hbl.cell (p := ⟨w.heap.size, 0, none⟩) (by show w.heap.size < _; omega)).trans HX0.out
    have pX1 := (hbl.cell (p := ⟨w.heap.size, 1, none⟩) (by show w.heap.size < _; omega)).trans HX1.out
    have pY0 := (hbl.cell (p := ⟨w.heap.size + 1, 0, none⟩) (by show w.heap.size + 1 < _; omega)).trans HY0.out
    have pY1 := (hbl.cell (p := ⟨w.heap.size + 1, 1, none⟩) (by show w.heap.size + 1 < _; omega)).trans HY1.out
    have hn0 := HN0.out
    clear heq hbl
    by_cases hlt : k < xs0.length
    · have hltm : k < ys0.length := by rw [← H4.out]; exact hlt
      obtain ⟨rb, ro, rfl, _, hrb, hc⟩ := (HS0.out.later (HBW.out.mono hhi) (Nat.le_refl _)).at k hlt
      obtain ⟨rc, rp, rfl, _, hrc, hd⟩ := (HT0.out.later (HBW.out.mono hhi) (Nat.le_refl _)).at k hltm
      obtain ⟨a9, c9, hc0, hc1, hs9⟩ := DSymbol.open hc
      obtain ⟨b9, e9, hd0, hd1, ht9⟩ := DSymbol.open hd
      have bl1 : rb < wr.heap.size := Nat.lt_of_lt_of_le hrb (Nat.le_trans hhi HBW.out.size)
      have bl2 : rc < wr.heap.size := Nat.lt_of_lt_of_le hrc (Nat.le_trans hhi HBW.out.size)
      have nA : (xs0.getD k default).fAttributes.length ≤ 1048576 := by have h := HZ0.out k hlt; unfold DSymbol.sz lsz at h; omega
      have nB : (ys0.getD k default).fAttributes.length ≤ 1048576 := by have h := HZ0'.out k hltm; unfold DSymbol.sz lsz at h; omega
      have HC := Lib.hid (fun (W : World) (hW : Below wr.heap.size wr W) => spec_l10Attributes (cap := c9) (cap2 := e9) (xs0.getD k default).fAttributes (ys0.getD k default).fAttributes nA nB (allEq eqA (xs0.getD k default).fAttributes (ys0.getD k default).fAttributes) allA_iff W (hs9.later (hW.mono (Nat.le_trans hhi HBW.out.size)) (Nat.le_refl _)) (ht9.later (hW.mono (Nat.le_trans hhi HBW.out.size)) (Nat.le_refl _)))
      have HP := Lib.hid (fun h => all_step (p := fun j => eqSy (xs0.getD j default) (ys0.getD j default) = true) HE.out (k := k) h)
      have HNF := Lib.hid (fun (h : eqSy (xs0.getD k default) (ys0.getD k default) = false) => HN.out (fun e => by have e4 := e.1; rw [allEq_no hlt h] at e4; cases e4))
      have HQ := Lib.hid (@eqSy_last (xs0.getD k default) (ys0.getD k default))
      have HQN := Lib.hid (@eqSy_no (xs0.getD k default) (ys0.getD k default))
      clear hc hd hs9 ht9 nA nB
      generalize eqSy (xs0.getD k default) (ys0.getD k default) = qq at *
      unfold CondS at HQN
      generalize allEq eqA (xs0.getD k default).fAttributes (ys0.getD k default).fAttributes = rr at *
      generalize (xs0.getD k default).fName = p1 at *
      generalize (ys0.getD k default).fName = p2 at *
      generalize (xs0.getD k default).fAttributes.length = nA at *
      generalize (ys0.getD k default).fAttributes.length = nB at *
      by_cases g0 : p1 = p2
      rotate_left
      · have fin := Lib.hid (HNF.out (HQN.out (fun e => g0 e.1)))
        have e1 : (p1.toList == p2.toList) = false := ne_str g0
        clear g0 HQ HQN HP HNF HC
        go_wp2
        go_quiet (fail)
        go_wp2
        go_ret
        exact ⟨ret_b fin.out.symm, below_drewN HBW.out _⟩
      subst g0
      have HQ2 := Lib.hid (HQ.out rfl)
      clear HQ HQN
      go_wp2_with fail
      refine wp_region_free [([], none), ([0], none), ([], none), ([1, 2], none), ([3], none), ([4], none), ([], none), ([6], none), ([], none), ([7, 8], none), ([9], none), ([10], none), ([5, 11], none), ([12], none), ([13], none), ([13, 14], none), ([13], none), ([13, 15, 16], none), ([13, 17], none), ([13, 18], none), ([13], none), ([13, 20], none), ([13], none), ([13, 21, 22], none), ([13, 23], none), ([13, 24], none), ([13, 19, 25], none), ([13, 26], none), ([13, 27], none)] [0, 1, 2, 3, 4, 5, 6, 7, 8, 9, 10, 11, 12, 13, 14, 15, 16, 17, 18, 19, 20, 21, 22, 23, 24, 25, 26, 27, 28] (fun jq9 V L H wx => match jq9 with | 0 => V 0 = .pointer (some ⟨w.heap.size, 0, none⟩) | 1 => V 1 = .slice (some ⟨rb, ro, none⟩) xs0.length c0_0 | 2 => V 2 = .int .i64 (k : Int) | 3 => V 3 = .pointer (some ⟨rb, ro + k * 2, none⟩) | 4 => V 4 = .pointer (some ⟨rb, ro + k * 2, none⟩) | 5 => V 5 = .string p1 | 6 => V 6 = .pointer (some ⟨w.heap.size + 1, 0, none⟩) | 7 => V 7 = .slice (some ⟨rc, rp, none⟩) ys0.length c1_0 | 8 => V 8 = .int .i64 (k : Int) | 9 => V 9 = .pointer (some ⟨rc, rp + k * 2, none⟩) | 10 => V 10 = .pointer (some ⟨rc, rp + k * 2, none⟩) | 11 => V 11 = .string p1 | 12 => V 12 = .bool false | 13 => V 13 = .bool false | 14 => V 14 = .pointer (some ⟨w.heap.size, 0, none⟩) | 15 => V 15 = .slice (some ⟨rb, ro, none⟩) xs0.length c0_0 | 16 => V 16 = .int .i64 (k : Int) | 17 => V 17 = .pointer (some ⟨rb, ro + k * 2, none⟩) | 18 => V 18 = .pointer (some ⟨rb, ro + k * 2 + 1, none⟩) | 19 => V 19 = .slice a9 nA c9 | 20 => V 20 = .pointer (some ⟨w.heap.size + 1, 0, none⟩) | 21 => V 21 = .slice (some ⟨rc, rp, none⟩) ys0.length c1_0 | 22 => V 22 = .int .i64 (k : Int) | 23 => V 23 = .pointer (some ⟨rc, rp + k * 2, none⟩) | 24 => V 24 = .pointer (some ⟨rc, rp + k * 2 + 1, none⟩) | 25 => V 25 = .slice b9 nB e9 | 26 => V 26 = .bool rr | 27 => V 27 = .bool (!rr) | 28 => V 28 = .bool (!rr) | _ => True) (by kernel_rfl) (by kernel_rfl) ?loc ?lasts ?walk
      case loc =>
        intro k V V' L H wx h0 h1 hG
        match k with
        | 0 =>
          try dsimp only at hG ⊢
          rw [← h0]
          exact hG
        | 1 =>
          try dsimp only at hG ⊢
          rw [← h0]
          exact hG
        | 2 =>
          try dsimp only at hG ⊢
          rw [← h0]
          exact hG
        | 3 =>
          try dsimp only at hG ⊢
          rw [← h0]
          exact hG
        | 4 =>
          try dsimp only at hG ⊢
          rw [← h0]
          exact hG
        | 5 =>
          try dsimp only at hG ⊢
          rw [← h0]
          exact hG
        | 6 =>
          try dsimp only at hG ⊢
          rw [← h0]
          exact hG
        | 7 =>
          try dsimp only at hG ⊢
          rw [← h0]
          exact hG
        | 8 =>
          try dsimp only at hG ⊢
          rw [← h0]
          exact hG
        | 9 =>
          try dsimp only at hG ⊢
          rw [← h0]
          exact hG
        | 10 =>
          try dsimp only at hG ⊢
          rw [← h0]
          exact hG
        | 11 =>
          try dsimp only at hG ⊢
          rw [← h0]
          exact hG
        | 12 =>
          try dsimp only at hG ⊢
          rw [← h0]
          exact hG
        | 13 =>
          try dsimp only at hG ⊢
          rw [← h0]
          exact hG
        | 14 =>
          try dsimp only at hG ⊢
          rw [← h0]
          exact hG
        | 15 =>
          try dsimp only at hG ⊢
          rw [← h0]
          exact hG
        | 16 =>
          try dsimp only at hG ⊢
          rw [← h0]
          exact hG
        | 17 =>
          try dsimp only at hG ⊢
          rw [← h0]
          exact hG
        | 18 =>
          try dsimp only at hG ⊢
          rw [← h0]
          exact hG
        | 19 =>
          try dsimp only at hG ⊢
          rw [← h0]
          exact hG
        | 20 =>
          try dsimp only at hG ⊢
          rw [← h0]
          exact hG
        | 21 =>
          try dsimp only at hG ⊢
          rw [← h0]
          exact hG
        | 22 =>
          try dsimp only at hG ⊢
          rw [← h0]
          exact hG
        | 23 =>
          try dsimp only at hG ⊢
          rw [← h0]
          exact hG
        | 24 =>
          try dsimp only at hG ⊢
          rw [← h0]
          exact hG
        | 25 =>
          try dsimp only at hG ⊢
          rw [← h0]
          exact hG
        | 26 =>
          try dsimp only at hG ⊢
          rw [← h0]
          exact hG
        | 27 =>
          try dsimp only at hG ⊢
          rw [← h0]
          exact hG
        | 28 =>
          try dsimp only at hG ⊢
          rw [← h0]
          exact hG
        | n + 29 => trivial
      case lasts =>
        intro i hi V L H wx wy hB hH hk
        match i, hi with
        | 0, _ => exact fun h => h
        | 1, _ => exact fun h => h
        | 2, _ => exact fun h => h
        | 3, _ => exact fun h => h
        | 4, _ => exact fun h => h
        | 5, _ => exact fun h => h
        | 6, _ => exact fun h => h
        | 7, _ => exact fun h => h
        | 8, _ => exact fun h => h
        | 9, _ => exact fun h => h
        | 10, _ => exact fun h => h
        | 11, _ => exact fun h => h
        | 12, _ => exact fun h => h
        | 13, _ => exact fun h => h
        | 14, _ => exact fun h => h
        | 15, _ => exact fun h => h
        | 16, _ => exact fun h => h
        | 17, _ => exact fun h => h
        | 18, _ => exact fun h => h
        | 19, _ => exact fun h => h
        | 20, _ => exact fun h => h
        | 21, _ => exact fun h => h
        | 22, _ => exact fun h => h
        | 23, _ => exact fun h => h
        | 24, _ => exact fun h => h
        | 25, _ => exact fun h => h
        | 26, _ => exact fun h => h
        | 27, _ => exact fun h => h
        | 28, _ => exact fun h => h
        | n + 29, hn => exact absurd hn (by simp)
      case walk =>
        simp (maxSteps := 4000000) only [free, Nat.reduceAdd, Act.put, List.setIfInBounds_toArray, List.set_cons_succ, List.set_cons_zero]
        refine ⟨?_, ?_, ?_, ?_, ?_, ?_, ?_, ?_, ?_, ?_, ?_, ?_, ?_, ?_, ?_, ?_, ?_, ?_, ?_, ?_, ?_, ?_, ?_, ?_, ?_, ?_, ?_, ?_, ?_, ?_⟩
        · intro V L H w1_ hb1 hd
          clear hd
          go_wp2_with fail
          exact freePost _ rfl ⟨Below.refl _ _, upd_self⟩
        · intro V L H w1_ hb1 hd
          obtain ⟨⟨hL0, hM0, hH0, hv0⟩, -⟩ := hd
          rw [hv0]
          have HV0 := Lib.hid hv0
          clear hv0
          have pX0_ : w1_.cell? ⟨w.heap.size, 0, none⟩ = some (.slice (some ⟨rb, ro, none⟩) xs0.length c0_0) := (hb1.cell (p := ⟨w.heap.size, 0, none⟩) (by first | exact bl1 | exact bl2 | (show w.heap.size < _; omega) | (show w.heap.size + 1 < _; omega))).trans pX0
          go_wp2_with fail
          exact freePost _ rfl ⟨Below.refl _ _, upd_self⟩
        · intro V L H w1_ hb1 hd
          clear hd
          go_wp2_with fail
          exact freePost _ rfl ⟨Below.refl _ _, upd_self⟩
        · intro V L H w1_ hb1 hd
          obtain ⟨⟨hL1, hM1, hH1, hv1⟩, ⟨hL2, hM2, hH2, hv2⟩, -⟩ := hd
          rw [hv1, hv2]
          have HV1 := Lib.hid hv1
          have HV2 := Lib.hid hv2
          clear hv1 hv2
          go_wp2_with fail
          exact freePost _ rfl ⟨Below.refl _ _, upd_self⟩
        · intro V L H w1_ hb1 hd
          obtain ⟨⟨hL3, hM3, hH3, hv3⟩, -⟩ := hd
          rw [hv3]
          have HV3 := Lib.hid hv3
          clear hv3
          go_wp2_with fail
          exact freePost _ rfl ⟨Below.refl _ _, upd_self⟩
        · intro V L H w1_ hb1 hd
          obtain ⟨⟨hL4, hM4, hH4, hv4⟩, -⟩ := hd
          rw [hv4]
          have HV4 := Lib.hid hv4
          clear hv4
          have hc0_ : w1_.cell? ⟨rb, ro + k * 2, none⟩ = some (.string p1) := (hb1.cell (p := ⟨rb, ro + k * 2, none⟩) (by first | exact bl1 | exact bl2 | (show w.heap.size < _; omega) | (show w.heap.size + 1 < _; omega))).trans hc0
          go_wp2_with fail
          exact freePost _ rfl ⟨Below.refl _ _, upd_self⟩
        · intro V L H w1_ hb1 hd
          clear hd
          go_wp2_with fail
          exact freePost _ rfl ⟨Below.refl _ _, upd_self⟩
        · intro V L H w1_ hb1 hd
          obtain ⟨⟨hL6, hM6, hH6, hv6⟩, -⟩ := hd
          rw [hv6]
          have HV6 := Lib.hid hv6
          clear hv6
          have pY0_ : w1_.cell? ⟨w.heap.size + 1, 0, none⟩ = some (.slice (some ⟨rc, rp, none⟩) ys0.length c1_0) := (hb1.cell (p := ⟨w.heap.size + 1, 0, none⟩) (by first | exact bl1 | exact bl2 | (show w.heap.size < _; omega) | (show w.heap.size + 1 < _; omega))).trans pY0
          go_wp2_with fail
          exact freePost _ rfl ⟨Below.refl _ _, upd_self⟩
        · intro V L H w1_ hb1 hd
          clear hd
          go_wp2_with fail
          exact freePost _ rfl ⟨Below.refl _ _, upd_self⟩
        · intro V L H w1_ hb1 hd
          obtain ⟨⟨hL7, hM7, hH7, hv7⟩, ⟨hL8, hM8, hH8, hv8⟩, -⟩ := hd
          rw [hv7, hv8]
          have HV7 := Lib.hid hv7
          have HV8 := Lib.hid hv8
          clear hv7 hv8
          go_wp2_with fail
          exact freePost _ rfl ⟨Below.refl _ _, upd_self⟩
        · intro V L H w1_ hb1 hd
          obtain ⟨⟨hL9, hM9, hH9, hv9⟩, -⟩ := hd
          rw [hv9]
          have HV9 := Lib.hid hv9
          clear hv9
          go_wp2_with fail
          exact freePost _ rfl ⟨Below.refl _ _, upd_self⟩
        · intro V L H w1_ hb1 hd
          obtain ⟨⟨hL10, hM10, hH10, hv10⟩, -⟩ := hd
          rw [hv10]
          have HV10 := Lib.hid hv10
          clear hv10
          have hd0_ : w1_.cell? ⟨rc, rp + k * 2, none⟩ = some (.string p1) := (hb1.cell (p := ⟨rc, rp + k * 2, none⟩) (by first | exact bl1 | exact bl2 | (show w.heap.size < _; omega) | (show w.heap.size + 1 < _; omega))).trans hd0
          go_wp2_with fail
          exact freePost _ rfl ⟨Below.refl _ _, upd_self⟩
        · intro V L H w1_ hb1 hd
          obtain ⟨⟨hL5, hM5, hH5, hv5⟩, ⟨hL11, hM11, hH11, hv11⟩, -⟩ := hd
          rw [hv5, hv11]
          have HV5 := Lib.hid hv5
          have HV11 := Lib.hid hv11
          clear hv5 hv11
          go_wp2_with fail
          exact freePost _ rfl ⟨Below.refl _ _, upd_self⟩
        · intro V L H w1_ hb1 hd
          obtain ⟨⟨hL12, hM12, hH12, hv12⟩, -⟩ := hd
          rw [hv12]
          have HV12 := Lib.hid hv12
          clear hv12
          go_wp2_with fail
          exact freePost _ rfl ⟨Below.refl _ _, upd_self⟩
        · intro V L H w1_ hb1 hd
          obtain ⟨⟨hL13, hM13, hH13, hv13⟩, -⟩ := hd
          rw [hv13]
          have HV13 := Lib.hid hv13
          clear hv13
          go_wp2_with fail
          exact freePost _ rfl ⟨Below.refl _ _, upd_self⟩
        · intro V L H w1_ hb1 hd
          obtain ⟨⟨hL13, hM13, hH13, hv13⟩, ⟨hL14, hM14, hH14, hv14⟩, -⟩ := hd
          rw [hv13, hv14]
          have HV13 := Lib.hid hv13
          have HV14 := Lib.hid hv14
          clear hv13 hv14
          have pX0_ : w1_.cell? ⟨w.heap.size, 0, none⟩ = some (.slice (some ⟨rb, ro, none⟩) xs0.length c0_0) := (hb1.cell (p := ⟨w.heap.size, 0, none⟩) (by first | exact bl1 | exact bl2 | (show w.heap.size < _; omega) | (show w.heap.size + 1 < _; omega))).trans pX0
          go_wp2_with fail
          exact freePost _ rfl ⟨Below.refl _ _, upd_self⟩
        · intro V L H w1_ hb1 hd
          obtain ⟨⟨hL13, hM13, hH13, hv13⟩, -⟩ := hd
          rw [hv13]
          have HV13 := Lib.hid hv13
          clear hv13
          go_wp2_with fail
          exact freePost _ rfl ⟨Below.refl _ _, upd_self⟩
        · intro V L H w1_ hb1 hd
          obtain ⟨⟨hL13, hM13, hH13, hv13⟩, ⟨hL15, hM15, hH15, hv15⟩, ⟨hL16, hM16, hH16, hv16⟩, -⟩ := hd
          rw [hv13, hv15, hv16]
          have HV13 := Lib.hid hv13
          have HV15 := Lib.hid hv15
          have HV16 := Lib.hid hv16
          clear hv13 hv15 hv16
          go_wp2_with fail
          exact freePost _ rfl ⟨Below.refl _ _, upd_self⟩
        · intro V L H w1_ hb1 hd
          obtain ⟨⟨hL13, hM13, hH13, hv13⟩, ⟨hL17, hM17, hH17, hv17⟩, -⟩ := hd
          rw [hv13, hv17]
          have HV13 := Lib.hid hv13
          have HV17 := Lib.hid hv17
          clear hv13 hv17
          go_wp2_with fail
          exact freePost _ rfl ⟨Below.refl _ _, upd_self⟩
        · intro V L H w1_ hb1 hd
          obtain ⟨⟨hL13, hM13, hH13, hv13⟩, ⟨hL18, hM18, hH18, hv18⟩, -⟩ := hd
          rw [hv13, hv18]
          have HV13 := Lib.hid hv13
          have HV18 := Lib.hid hv18
          clear hv13 hv18
          have hc1_ : w1_.cell? ⟨rb, ro + k * 2 + 1, none⟩ = some (.slice a9 nA c9) := (hb1.cell (p := ⟨rb, ro + k * 2 + 1, none⟩) (by first | exact bl1 | exact bl2 | (show w.heap.size < _; omega) | (show w.heap.size + 1 < _; omega))).trans hc1
          go_wp2_with fail
          exact freePost _ rfl ⟨Below.refl _ _, upd_self⟩
        · intro V L H w1_ hb1 hd
          obtain ⟨⟨hL13, hM13, hH13, hv13⟩, -⟩ := hd
          rw [hv13]
          have HV13 := Lib.hid hv13
          clear hv13
          go_wp2_with fail
          exact freePost _ rfl ⟨Below.refl _ _, upd_self⟩
        · intro V L H w1_ hb1 hd
          obtain ⟨⟨hL13, hM13, hH13, hv13⟩, ⟨hL20, hM20, hH20, hv20⟩, -⟩ := hd
          rw [hv13, hv20]
          have HV13 := Lib.hid hv13
          have HV20 := Lib.hid hv20
          clear hv13 hv20
          have pY0_ : w1_.cell? ⟨w.heap.size + 1, 0, none⟩ = some (.slice (some ⟨rc, rp, none⟩) ys0.length c1_0) := (hb1.cell (p := ⟨w.heap.size + 1, 0, none⟩) (by first | exact bl1 | exact bl2 | (show w.heap.size < _; omega) | (show w.heap.size + 1 < _; omega))).trans pY0
          go_wp2_with fail
          exact freePost _ rfl ⟨Below.refl _ _, upd_self⟩
        · intro V L H w1_ hb1 hd
          obtain ⟨⟨hL13, hM13, hH13, hv13⟩, -⟩ := hd
          rw [hv13]
          have HV13 := Lib.hid hv13
          clear hv13
          go_wp2_with fail
          exact freePost _ rfl ⟨Below.refl _ _, upd_self⟩
        · intro V L H w1_ hb1 hd
          obtain ⟨⟨hL13, hM13, hH13, hv13⟩, ⟨hL21, hM21, hH21, hv21⟩, ⟨hL22, hM22, hH22, hv22⟩, -⟩ := hd
          rw [hv13, hv21, hv22]
          have HV13 := Lib.hid hv13
          have HV21 := Lib.hid hv21
          have HV22 := Lib.hid hv22
          clear hv13 hv21 hv22
          go_wp2_with fail
          exact freePost _ rfl ⟨Below.refl _ _, upd_self⟩
        · intro V L H w1_ hb1 hd
          obtain ⟨⟨hL13, hM13, hH13, hv13⟩, ⟨hL23, hM23, hH23, hv23⟩, -⟩ := hd
          rw [hv13, hv23]
          have HV13 := Lib.hid hv13
          have HV23 := Lib.hid hv23
          clear hv13 hv23
          go_wp2_with fail
          exact freePost _ rfl ⟨Below.refl _ _, upd_self⟩
        · intro V L H w1_ hb1 hd
          obtain ⟨⟨hL13, hM13, hH13, hv13⟩, ⟨hL24, hM24, hH24, hv24⟩, -⟩ := hd
          rw [hv13, hv24]
          have HV13 := Lib.hid hv13
          have HV24 := Lib.hid hv24
          clear hv13 hv24
          have hd1_ : w1_.cell? ⟨rc, rp + k * 2 + 1, none⟩ = some (.slice b9 nB e9) := (hb1.cell (p := ⟨rc, rp + k * 2 + 1, none⟩) (by first | exact bl1 | exact bl2 | (show w.heap.size < _; omega) | (show w.heap.size + 1 < _; omega))).trans hd1
          go_wp2_with fail
          exact freePost _ rfl ⟨Below.refl _ _, upd_self⟩
        · intro V L H w1_ hb1 hd
          obtain ⟨⟨hL13, hM13, hH13, hv13⟩, ⟨hL19, hM19, hH19, hv19⟩, ⟨hL25, hM25, hH25, hv25⟩, -⟩ := hd
          rw [hv13, hv19, hv25]
          have HV13 := Lib.hid hv13
          have HV19 := Lib.hid hv19
          have HV25 := Lib.hid hv25
          clear hv13 hv19 hv25
          go_wp2_with fail
          refine (HC.out _ hb1).mono ?_
          rintro e w2 ⟨rfl, q, rfl⟩
          have hb2 := below_drewN (Below.refl w1_.heap.size w1_) q
          go_wp2_with fail
          exact freePost _ rfl ⟨hb2, upd_self⟩
        · intro V L H w1_ hb1 hd
          obtain ⟨⟨hL13, hM13, hH13, hv13⟩, ⟨hL26, hM26, hH26, hv26⟩, -⟩ := hd
          rw [hv13, hv26]
          have HV13 := Lib.hid hv13
          have HV26 := Lib.hid hv26
          clear hv13 hv26
          go_wp2_with fail
          exact freePost _ rfl ⟨Below.refl _ _, upd_self⟩
        · intro V L H w1_ hb1 hd
          obtain ⟨⟨hL13, hM13, hH13, hv13⟩, ⟨hL27, hM27, hH27, hv27⟩, -⟩ := hd
          rw [hv13, hv27]
          have HV13 := Lib.hid hv13
          have HV27 := Lib.hid hv27
          clear hv13 hv27
          go_wp2_with fail
          exact freePost _ rfl ⟨Below.refl _ _, upd_self⟩
        · intro V L H w1_ hb1 hd hap hdead
          obtain ⟨⟨hL0, hM0, hH0, hv0⟩, ⟨hL1, hM1, hH1, hv1⟩, ⟨hL2, hM2, hH2, hv2⟩, ⟨hL3, hM3, hH3, hv3⟩, ⟨hL4, hM4, hH4, hv4⟩, ⟨hL5, hM5, hH5, hv5⟩, ⟨hL6, hM6, hH6, hv6⟩, ⟨hL7, hM7, hH7, hv7⟩, ⟨hL8, hM8, hH8, hv8⟩, ⟨hL9, hM9, hH9, hv9⟩, ⟨hL10, hM10, hH10, hv10⟩, ⟨hL11, hM11, hH11, hv11⟩, ⟨hL12, hM12, hH12, hv12⟩, ⟨hL13, hM13, hH13, hv13⟩, ⟨hL14, hM14, hH14, hv14⟩, ⟨hL15, hM15, hH15, hv15⟩, ⟨hL16, hM16, hH16, hv16⟩, ⟨hL17, hM17, hH17, hv17⟩, ⟨hL18, hM18, hH18, hv18⟩, ⟨hL19, hM19, hH19, hv19⟩, ⟨hL20, hM20, hH20, hv20⟩, ⟨hL21, hM21, hH21, hv21⟩, ⟨hL22, hM22, hH22, hv22⟩, ⟨hL23, hM23, hH23, hv23⟩, ⟨hL24, hM24, hH24, hv24⟩, ⟨hL25, hM25, hH25, hv25⟩, ⟨hL26, hM26, hH26, hv26⟩, ⟨hL27, hM27, hH27, hv27⟩, ⟨hL28, hM28, hH28, hv28⟩, -⟩ := hd
          rw [hv0, hv1, hv2, hv3, hv4, hv5, hv6, hv7, hv8, hv9, hv10, hv11, hv12, hv13, hv14, hv15, hv16, hv17, hv18, hv19, hv20, hv21, hv22, hv23, hv24, hv25, hv26, hv27, hv28]
          clear hv0 hv1 hv2 hv3 hv4 hv5 hv6 hv7 hv8 hv9 hv10 hv11 hv12 hv13 hv14 hv15 hv16 hv17 hv18 hv19 hv20 hv21 hv22 hv23 hv24 hv25 hv26 hv27 hv28
          have HB2 := Lib.hid (HBL.out.trans (hb1.mono hz2))
          have HB3 := Lib.hid (HBW.out.trans (hb1.mono HBW.out.size))
          clear hb1 HC hap hdead
          cases hrr : rr
          · have fin := Lib.hid (HNF.out (HQ2.out.trans hrr))
            clear HP HNF HQ2 hrr
            go_wp2
            go_ret
            exact ⟨ret_b fin.out.symm, HB3.out⟩
          · have HP2 := Lib.hid (HP.out (HQ2.out.trans hrr))
            clear HP HNF HQ2 hrr
            go_wp2
            go_roundw
            case rel => exact ⟨k + 1, by omega, by go_num, HP2.out, HB2.out⟩
            case measure => simp [intOf]; omega
    · obtain rfl : k = xs0.length := by omega
      have HA4 := Lib.hid (allEq_yes H4.out HE.out)
      have HBW' := Lib.hid HBW.out
      have HX1' := Lib.hid pX1
      have HY1' := Lib.hid pY1
      clear hlt hk HBL HS0 HT0 HZ0 HZ0' HO0 HO0' HE HX0 HY0 HN0 HBW HX1 HY1
      go_wp2
      go_loopw [6] (fun i wr' => ∃ k : Nat, k ≤ xs1.length ∧ i = .int .i64 (k : Int) ∧ (∀ jj, jj < k → eqR (xs1.getD jj default) (ys1.getD jj default) = true) ∧ Below wr.heap.size wr wr') (fun i _ => xs1.length - (intOf i).toNat)
      case atStart => exact ⟨0, Nat.zero_le _, rfl, fun _ h => absurd h (Nat.not_lt_zero _), Below.refl _ _⟩
      case round =>
        clear pX0 pX1 pY0 pY1
        obtain ⟨k, hk, rfl, heq, hbl⟩ := hrel
        have HE := Lib.hid heq
        have HBL := Lib.hid hbl
        have HBW := Lib.hid (HBW'.out.trans (hbl.mono HBW'.out.size))
        have hz3 : w.heap.size + 2 ≤ wr.heap.size := Nat.le_trans hz2 hbl.size
        have pX1 := (hbl.cell (p := ⟨w.heap.size, 1, none⟩) (by show w.heap.size < _; omega)).trans HX1'.out
        have pY1 := (hbl.cell (p := ⟨w.heap.size + 1, 1, none⟩) (by show w.heap.size + 1 < _; omega)).trans HY1'.out
        have hn1 := HN1.out
        clear heq hbl
        by_cases hlt : k < xs1.length
        · have hltm : k < ys1.length := by rw [← H5.out]; exact hlt
          obtain ⟨rb, ro, rfl, _, hrb, hc⟩ := (HS1.out.later (HBW.out.mono hhi) (Nat.le_refl _)).at k hlt
          obtain ⟨rc, rp, rfl, _, hrc, hd⟩ := (HT1.out.later (HBW.out.mono hhi) (Nat.le_refl _)).at k hltm
          obtain ⟨aa2, cc2, aa4, cc4, aa5, cc5, hc0, hc1, hc2, hc3, hc4, hc5, hs2, hs4, hs5⟩ := DRule.open hc
          obtain ⟨bb2, dd2, bb4, dd4, bb5, dd5, hd0, hd1, hd2, hd3, hd4, hd5, ht2, ht4, ht5⟩ := DRule.open hd
          have bl1 : rb < wr.heap.size := Nat.lt_of_lt_of_le hrb (Nat.le_trans hhi HBW.out.size)
          have bl2 : rc < wr.heap.size := Nat.lt_of_lt_of_le hrc (Nat.le_trans hhi HBW.out.size)
          have HC := Lib.hid (fun (W : World) (hW : Below wr.heap.size wr W) => spec_EqualRule (c0_0 := cc2) (c0_1 := cc4) (c0_2 := cc5) (c1_0 := dd2) (c1_1 := dd4) (c1_2 := dd5) (xs1.getD k default) (HO1.out k hlt) (HZ1.out k hlt) (ys1.getD k default) (HO1'.out k hltm) (HZ1'.out k hltm) W (Nat.le_trans hhi (Nat.le_trans HBW.out.size hW.size)) (hs2.later (hW.mono (Nat.le_trans hhi HBW.out.size)) (Nat.le_refl _)) (hs4.later (hW.mono (Nat.le_trans hhi HBW.out.size)) (Nat.le_refl _)) (hs5.later (hW.mono (Nat.le_trans hhi HBW.out.size)) (Nat.le_refl _)) (ht2.later (hW.mono (Nat.le_trans hhi HBW.out.size)) (Nat.le_refl _)) (ht4.later (hW.mono (Nat.le_trans hhi HBW.out.size)) (Nat.le_refl _)) (ht5.later (hW.mono (Nat.le_trans hhi HBW.out.size)) (Nat.le_refl _)))
          have HP := Lib.hid (fun h => all_step (p := fun j => eqR (xs1.getD j default) (ys1.getD j default) = true) HE.out (k := k) h)
          have HNF := Lib.hid (fun (h : eqR (xs1.getD k default) (ys1.getD k default) = false) => HN.out (fun e => by have e4 := e.2; rw [allEq_no hlt h] at e4; cases e4))
          clear hc hd hs2 hs4 hs5 ht2 ht4 ht5
          generalize eqR (xs1.getD k default) (ys1.getD k default) = rr at *
          generalize xs1.getD k default = x1 at *
          generalize ys1.getD k default = y1 at *
          go_wp2_with fail
          refine wp_region_free [([], none), ([0], none), ([], none), ([1, 2], none), ([3], none), ([], none), ([5], none), ([], none), ([6, 7], none), ([8], none), ([4, 9], none), ([10], none)] [0, 1, 2, 3, 4, 5, 6, 7, 8, 9, 10, 11] (fun jq9 V L H wx => match jq9 with | 0 => V 0 = .pointer (some ⟨w.heap.size, 1, none⟩) | 1 => V 1 = .slice (some ⟨rb, ro, none⟩) xs1.length c0_1 | 2 => V 2 = .int .i64 (k : Int) | 3 => V 3 = .pointer (some ⟨rb, ro + k * 6, none⟩) | 4 => V 4 = .agg #[.string x1.fName, .string x1.fLeft, .slice aa2 x1.fRight.length cc2, .bool x1.fLiteral, .slice aa4 x1.fEquations.length cc4, .slice aa5 x1.fContributions.length cc5] | 5 => V 5 = .pointer (some ⟨w.heap.size + 1, 1, none⟩) | 6 => V 6 = .slice (some ⟨rc, rp, none⟩) ys1.length c1_1 | 7 => V 7 = .int .i64 (k : Int) | 8 => V 8 = .pointer (some ⟨rc, rp + k * 6, none⟩) | 9 => V 9 = .agg #[.string y1.fName, .string y1.fLeft, .slice bb2 y1.fRight.length dd2, .bool y1.fLiteral, .slice bb4 y1.fEquations.length dd4, .slice bb5 y1.fContributions.length dd5] | 10 => V 10 = .bool rr | 11 => V 11 = .bool (!rr) | _ => True) (by kernel_rfl) (by kernel_rfl) ?loc ?lasts ?walk
          case loc =>
            intro k V V' L H wx h0 h1 hG
            match k with
            | 0 =>
              try dsimp only at hG ⊢
              rw [← h0]
              exact hG
            | 1 =>
              try dsimp only at hG ⊢
              rw [← h0]
              exact hG
            | 2 =>
              try dsimp only at hG ⊢
              rw [← h0]
              exact hG
            | 3 =>
              try dsimp only at hG ⊢
              rw [← h0]
              exact hG
            | 4 =>
              try dsimp only at hG ⊢
              rw [← h0]
              exact hG
            | 5 =>
              try dsimp only at hG ⊢
              rw [← h0]
              exact hG
            | 6 =>
              try dsimp only at hG ⊢
              rw [← h0]
              exact hG
            | 7 =>
              try dsimp only at hG ⊢
              rw [← h0]
              exact hG
            | 8 =>
              try dsimp only at hG ⊢
              rw [← h0]
              exact hG
            | 9 =>
              try dsimp only at hG ⊢
              rw [← h0]
              exact hG
            | 10 =>
              try dsimp only at hG ⊢
              rw [← h0]
              exact hG
            | 11 =>
              try dsimp only at hG ⊢
              rw [← h0]
              exact hG
            | n + 12 => trivial
          case lasts =>
            intro i hi V L H wx wy hB hH hk
            match i, hi with
            | 0, _ => exact fun h => h
            | 1, _ => exact fun h => h
            | 2, _ => exact fun h => h
            | 3, _ => exact fun h => h
            | 4, _ => exact fun h => h
            | 5, _ => exact fun h => h
            | 6, _ => exact fun h => h
            | 7, _ => exact fun h => h
            | 8, _ => exact fun h => h
            | 9, _ => exact fun h => h
            | 10, _ => exact fun h => h
            | 11, _ => exact fun h => h
            | n + 12, hn => exact absurd hn (by simp)
          case walk =>
            simp (maxSteps := 4000000) only [free, Nat.reduceAdd, Act.put, List.setIfInBounds_toArray, List.set_cons_succ, List.set_cons_zero]
            refine ⟨?_, ?_, ?_, ?_, ?_, ?_, ?_, ?_, ?_, ?_, ?_, ?_, ?_⟩
            · intro V L H w1_ hb1 hd
              clear hd
              go_wp2_with fail
              exact freePost _ rfl ⟨Below.refl _ _, upd_self⟩
            · intro V L H w1_ hb1 hd
              obtain ⟨⟨hL0, hM0, hH0, hv0⟩, -⟩ := hd
              rw [hv0]
              have HV0 := Lib.hid hv0
              clear hv0
              have pX1_ : w1_.cell? ⟨w.heap.size, 1, none⟩ = some (.slice (some ⟨rb, ro, none⟩) xs1.length c0_1) := (hb1.cell (p := ⟨w.heap.size, 1, none⟩) (by first | exact bl1 | exact bl2 | (show w.heap.size < _; omega) | (show w.heap.size + 1 < _; omega))).trans pX1
              go_wp2_with fail
              exact freePost _ rfl ⟨Below.refl _ _, upd_self⟩
            · intro V L H w1_ hb1 hd
              clear hd
              go_wp2_with fail
              exact freePost _ rfl ⟨Below.refl _ _, upd_self⟩
            · intro V L H w1_ hb1 hd
              obtain ⟨⟨hL1, hM1, hH1, hv1⟩, ⟨hL2, hM2, hH2, hv2⟩, -⟩ := hd
              rw [hv1, hv2]
              have HV1 := Lib.hid hv1
              have HV2 := Lib.hid hv2
              clear hv1 hv2
              go_wp2_with fail
              exact freePost _ rfl ⟨Below.refl _ _, upd_self⟩
            · intro V L H w1_ hb1 hd
              obtain ⟨⟨hL3, hM3, hH3, hv3⟩, -⟩ := hd
              rw [hv3]
              have HV3 := Lib.hid hv3
              clear hv3
              have hc0_ : w1_.cell? ⟨rb, ro + k * 6, none⟩ = some (.string x1.fName) := (hb1.cell (p := ⟨rb, ro + k * 6, none⟩) (by first | exact bl1 | exact bl2 | (show w.heap.size < _; omega) | (show w.heap.size + 1 < _; omega))).trans hc0
              have hc1_ : w1_.cell? ⟨rb, ro + k * 6 + 1, none⟩ = some (.string x1.fLeft) := (hb1.cell (p := ⟨rb, ro + k * 6 + 1, none⟩) (by first | exact bl1 | exact bl2 | (show w.heap.size < _; omega) | (show w.heap.size + 1 < _; omega))).trans hc1
              have hc2_ : w1_.cell? ⟨rb, ro + k * 6 + 2, none⟩ = some (.slice aa2 x1.fRight.length cc2) := (hb1.cell (p := ⟨rb, ro + k * 6 + 2, none⟩) (by first | exact bl1 | exact bl2 | (show w.heap.size < _; omega) | (show w.heap.size + 1 < _; omega))).trans hc2
              have hc3_ : w1_.cell? ⟨rb, ro + k * 6 + 3, none⟩ = some (.bool x1.fLiteral) := (hb1.cell (p := ⟨rb, ro + k * 6 + 3, none⟩) (by first | exact bl1 | exact bl2 | (show w.heap.size < _; omega) | (show w.heap.size + 1 < _; omega))).trans hc3
              have hc4_ : w1_.cell? ⟨rb, ro + k * 6 + 4, none⟩ = some (.slice aa4 x1.fEquations.length cc4) := (hb1.cell (p := ⟨rb, ro + k * 6 + 4, none⟩) (by first | exact bl1 | exact bl2 | (show w.heap.size < _; omega) | (show w.heap.size + 1 < _; omega))).trans hc4
              have hc5_ : w1_.cell? ⟨rb, ro + k * 6 + 5, none⟩ = some (.slice aa5 x1.fContributions.length cc5) := (hb1.cell (p := ⟨rb, ro + k * 6 + 5, none⟩) (by first | exact bl1 | exact bl2 | (show w.heap.size < _; omega) | (show w.heap.size + 1 < _; omega))).trans hc5
              go_wp2_with fail
              exact freePost _ rfl ⟨Below.refl _ _, upd_self⟩
            · intro V L H w1_ hb1 hd
              clear hd
              go_wp2_with fail
              exact freePost _ rfl ⟨Below.refl _ _, upd_self⟩
            · intro V L H w1_ hb1 hd
              obtain ⟨⟨hL5, hM5, hH5, hv5⟩, -⟩ := hd
              rw [hv5]
              have HV5 := Lib.hid hv5
              clear hv5
              have pY1_ : w1_.cell? ⟨w.heap.size + 1, 1, none⟩ = some (.slice (some ⟨rc, rp, none⟩) ys1.length c1_1) := (hb1.cell (p := ⟨w.heap.size + 1, 1, none⟩) (by first | exact bl1 | exact bl2 | (show w.heap.size < _; omega) | (show w.heap.size + 1 < _; omega))).trans pY1
              go_wp2_with fail
              exact freePost _ rfl ⟨Below.refl _ _, upd_self⟩
            · intro V L H w1_ hb1 hd
              clear hd
              go_wp2_with fail
              exact freePost _ rfl ⟨Below.refl _ _, upd_self⟩
            · intro V L H w1_ hb1 hd
              obtain ⟨⟨hL6, hM6, hH6, hv6⟩, ⟨hL7, hM7, hH7, hv7⟩, -⟩ := hd
              rw [hv6, hv7]
              have HV6 := Lib.hid hv6
              have HV7 := Lib.hid hv7
              clear hv6 hv7
              go_wp2_with fail
              exact freePost _ rfl ⟨Below.refl _ _, upd_self⟩
            · intro V L H w1_ hb1 hd
              obtain ⟨⟨hL8, hM8, hH8, hv8⟩, -⟩ := hd
              rw [hv8]
              have HV8 := Lib.hid hv8
              clear hv8
              have hd0_ : w1_.cell? ⟨rc, rp + k * 6, none⟩ = some (.string y1.fName) := (hb1.cell (p := ⟨rc, rp + k * 6, none⟩) (by first | exact bl1 | exact bl2 | (show w.heap.size < _; omega) | (show w.heap.size + 1 < _; omega))).trans hd0
              have hd1_ : w1_.cell? ⟨rc, rp + k * 6 + 1, none⟩ = some (.string y1.fLeft) := (hb1.cell (p := ⟨rc, rp + k * 6 + 1, none⟩) (by first | exact bl1 | exact bl2 | (show w.heap.size < _; omega) | (show w.heap.size + 1 < _; omega))).trans hd1
              have hd2_ : w1_.cell? ⟨rc, rp + k * 6 + 2, none⟩ = some (.slice bb2 y1.fRight.length dd2) := (hb1.cell (p := ⟨rc, rp + k * 6 + 2, none⟩) (by first | exact bl1 | exact bl2 | (show w.heap.size < _; omega) | (show w.heap.size + 1 < _; omega))).trans hd2
              have hd3_ : w1_.cell? ⟨rc, rp + k * 6 + 3, none⟩ = some (.bool y1.fLiteral) := (hb1.cell (p := ⟨rc, rp + k * 6 + 3, none⟩) (by first | exact bl1 | exact bl2 | (show w.heap.size < _; omega) | (show w.heap.size + 1 < _; omega))).trans hd3
              have hd4_ : w1_.cell? ⟨rc, rp + k * 6 + 4, none⟩ = some (.slice bb4 y1.fEquations.length dd4) := (hb1.cell (p := ⟨rc, rp + k * 6 + 4, none⟩) (by first | exact bl1 | exact bl2 | (show w.heap.size < _; omega) | (show w.heap.size + 1 < _; omega))).trans hd4
              have hd5_ : w1_.cell? ⟨rc, rp + k * 6 + 5, none⟩ = some (.slice bb5 y1.fContributions.length dd5) := (hb1.cell (p := ⟨rc, rp + k * 6 + 5, none⟩) (by first | exact bl1 | exact bl2 | (show w.heap.size < _; omega) | (show w.heap.size + 1 < _; omega))).trans hd5
              go_wp2_with fail
              exact freePost _ rfl ⟨Below.refl _ _, upd_self⟩
            · intro V L H w1_ hb1 hd
              obtain ⟨⟨hL4, hM4, hH4, hv4⟩, ⟨hL9, hM9, hH9, hv9⟩, -⟩ := hd
              rw [hv4, hv9]
              have HV4 := Lib.hid hv4
              have HV9 := Lib.hid hv9
              clear hv4 hv9
              go_wp2_with fail
              refine (HC.out _ hb1).mono ?_
              rintro e w2 ⟨rfl, hb2⟩
              go_wp2_with fail
              exact freePost _ rfl ⟨hb2, upd_self⟩
            · intro V L H w1_ hb1 hd
              obtain ⟨⟨hL10, hM10, hH10, hv10⟩, -⟩ := hd
              rw [hv10]
              have HV10 := Lib.hid hv10
              clear hv10
              go_wp2_with fail
              exact freePost _ rfl ⟨Below.refl _ _, upd_self⟩
            · intro V L H w1_ hb1 hd hap hdead
              obtain ⟨⟨hL0, hM0, hH0, hv0⟩, ⟨hL1, hM1, hH1, hv1⟩, ⟨hL2, hM2, hH2, hv2⟩, ⟨hL3, hM3, hH3, hv3⟩, ⟨hL4, hM4, hH4, hv4⟩, ⟨hL5, hM5, hH5, hv5⟩, ⟨hL6, hM6, hH6, hv6⟩, ⟨hL7, hM7, hH7, hv7⟩, ⟨hL8, hM8, hH8, hv8⟩, ⟨hL9, hM9, hH9, hv9⟩, ⟨hL10, hM10, hH10, hv10⟩, ⟨hL11, hM11, hH11, hv11⟩, -⟩ := hd
              rw [hv0, hv1, hv2, hv3, hv4, hv5, hv6, hv7, hv8, hv9, hv10, hv11]
              clear hv0 hv1 hv2 hv3 hv4 hv5 hv6 hv7 hv8 hv9 hv10 hv11
              have HB2 := Lib.hid (HBL.out.trans (hb1.mono HBL.out.size))
              have HB3 := Lib.hid (HBW.out.trans (hb1.mono HBW.out.size))
              clear hb1 HC hap hdead
              cases hrr : rr
              · have fin := Lib.hid (HNF.out hrr)
                clear HP HNF hrr
                go_wp2
                go_ret
                exact ⟨ret_b fin.out.symm, HB3.out⟩
              · have HP2 := Lib.hid (HP.out hrr)
                clear HP HNF hrr
                go_wp2
                go_roundw
                case rel => exact ⟨k + 1, by omega, by go_num, HP2.out, HB2.out⟩
                case measure => simp [intOf]; omega
        · obtain rfl : k = xs1.length := by omega
          have HA5 := Lib.hid (allEq_yes H5.out HE.out)
          have fin := Lib.hid (HY.out ⟨HA4.out, HA5.out⟩)
          go_wp2
          go_ret
          exact ⟨ret_b fin.out.symm, HBW.out⟩
end Go.Proofs.YtjhgifpnpkcaoaaGreat
