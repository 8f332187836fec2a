/-
  EqualRule, in the model and in the program.
-/
import Derived.Test.YtjhgifpnpkcaoaaGreatEqRule2
import Derived.Test.YtjhgifpnpkcaoaaGreatFree
import Derived.Deep.QuietTactic
import Derived.BigQuiet
namespace Go.Proofs.YtjhgifpnpkcaoaaGreat
open Go.ChangeShapes Go.WideShapes Go.ChangeAt Go.RowKit Go.Deep

def CondR (x y : DRule) : Prop := x.fName = y.fName ∧ x.fLeft = y.fLeft ∧ x.fRight = y.fRight ∧ x.fLiteral = y.fLiteral ∧ allEq eqQ x.fEquations y.fEquations = true ∧ allEq eqC x.fContributions y.fContributions = true
/-- Whether two rules agree in every field. -/
noncomputable def eqR (x y : DRule) : Bool := by classical exact decide (CondR x y)
theorem eqR_no {x y : DRule} (h : ¬ CondR x y) : eqR x y = false := by classical unfold eqR; exact decide_eq_false h
theorem eqR_yes {x y : DRule} (h : CondR x y) : eqR x y = true := by classical unfold eqR; exact decide_eq_true h

set_option maxHeartbeats 6400000 in
set_option maxRecDepth 100000 in
theorem impl_EqualRule {lo hi : Nat} {a2 a4 a5 b2 b4 b5 : Option Addr} {c0_0 c0_1 c0_2 c1_0 c1_1 c1_2 : Nat} (x : DRule) (okx : x.ok) (hx : x.sz ≤ 1048576) (y : DRule) (oky : y.ok) (hy : y.sz ≤ 1048576) (w : World) (hhi : hi ≤ w.heap.size) (hs2 : Sf lo hi w 1 x.fRight.length (fun k => ictS (x.fRight.getD k default)) a2) (hs4 : Sf lo hi w 9 x.fEquations.length (fun k => DEquation.ct (x.fEquations.getD k default)) a4) (hs5 : Sf lo hi w 16 x.fContributions.length (fun k => DContribution.ct (x.fContributions.getD k default)) a5) (ht2 : Sf lo hi w 1 y.fRight.length (fun k => ictS (y.fRight.getD k default)) b2) (ht4 : Sf lo hi w 9 y.fEquations.length (fun k => DEquation.ct (y.fEquations.getD k default)) b4) (ht5 : Sf lo hi w 16 y.fContributions.length (fun k => DContribution.ct (y.fContributions.getD k default)) b5) :
    Calls Tryz.prog 41 #[.agg #[.string x.fName, .string x.fLeft, .slice a2 x.fRight.length c0_0, .bool x.fLiteral, .slice a4 x.fEquations.length c0_1, .slice a5 x.fContributions.length c0_2], .agg #[.string y.fName, .string y.fLeft, .slice b2 y.fRight.length c1_0, .bool y.fLiteral, .slice b4 y.fEquations.length c1_1, .slice b5 y.fContributions.length c1_2]] w fun e w' => e = .returned (.bool (eqR x y)) ∧ Below w.heap.size w w' := by
  have n2x : x.fRight.length ≤ 1048576 := by unfold DRule.sz lsz at hx; omega
  have z4x : lsz DEquation.sz x.fEquations ≤ 1048576 := by unfold DRule.sz at hx; omega
  have z5x : lsz DContribution.sz x.fContributions ≤ 1048576 := by unfold DRule.sz at hx; omega
  have n2y : y.fRight.length ≤ 1048576 := by unfold DRule.sz lsz at hy; omega
  have z4y : lsz DEquation.sz y.fEquations ≤ 1048576 := by unfold DRule.sz at hy; omega
  have z5y : lsz DContribution.sz y.fContributions ≤ 1048576 := by unfold DRule.sz at hy; omega
  obtain ⟨r2, hr2⟩ : ∃ r : Bool, r = true ↔ x.fRight = y.fRight := by classical exact ⟨decide (x.fRight = y.fRight), decide_eq_true_iff⟩
  have hno := @eqR_no x y
  have hyes := @eqR_yes x y
  have HB := Lib.hid (((Below.refl w.heap.size w).alloc (Nat.le_refl _) (.cells #[.string x.fName, .string x.fLeft, .slice a2 x.fRight.length c0_0, .bool x.fLiteral, .slice a4 x.fEquations.length c0_1, .slice a5 x.fContributions.length c0_2] 75)).alloc (by simp) (.cells #[.string y.fName, .string y.fLeft, .slice b2 y.fRight.length c1_0, .bool y.fLiteral, .slice b4 y.fEquations.length c1_1, .slice b5 y.fContributions.length c1_2] 75))
  have HQ2 := Lib.hid (fun (W : World) (hW : Below w.heap.size w W) => Equal_strings (cap := c0_0) (cap2 := c1_0) x.fRight y.fRight n2x n2y r2 hr2 W (hs2.sl.later hW hhi) (ht2.sl.later hW hhi))
  have HQ4 := Lib.hid (fun (W : World) (hW : Below w.heap.size w W) => EqualFunc_equations (cap := c0_1) (cap2 := c1_1) x.fEquations y.fEquations okx.2.2.2.2.1 oky.2.2.2.2.1 z4x z4y W (Nat.le_trans hhi hW.size) (hs4.later hW hhi) (ht4.later hW hhi))
  have HQ5 := Lib.hid (fun (W : World) (hW : Below w.heap.size w W) => EqualFunc_contributions (cap := c0_2) (cap2 := c1_2) x.fContributions y.fContributions okx.2.2.2.2.2 oky.2.2.2.2.2 z5x z5y W (Nat.le_trans hhi hW.size) (hs5.later hW hhi) (ht5.later hW hhi))
  unfold CondR at hno hyes
  clear hs2 hs4 hs5 ht2 ht4 ht5 hx hy okx oky n2x n2y z4x z4y z5x z5y
  generalize eqR x y = res at *
  generalize allEq eqQ x.fEquations y.fEquations = q4 at *
  generalize allEq eqC x.fContributions y.fContributions = q5 at *
  have hr2' : r2 = false → ¬ x.fRight = y.fRight := fun h e => by rw [hr2.2 e] at h; cases h
  have hr2t := hr2.1
  clear hr2
  generalize x.fName = p1 at *
  generalize y.fName = p2 at *
  generalize x.fLeft = s1 at *
  generalize y.fLeft = s2 at *
  generalize x.fLiteral = l1 at *
  generalize y.fLiteral = l2 at *
  by_cases h0 : p1 = p2
  · subst h0
    by_cases h1 : s1 = s2
    · subst h1
      cases hq2 : r2
      · have fin := Lib.hid (hno (fun e => hr2' hq2 e.2.2.1))
        rw [hq2] at HQ2
        clear hno hyes HQ4 HQ5 hr2' hr2t hq2
        generalize x.fRight.length = nx2 at *
        generalize y.fRight.length = ny2 at *
        generalize x.fEquations.length = nx4 at *
        generalize y.fEquations.length = ny4 at *
        generalize x.fContributions.length = nx5 at *
        generalize y.fContributions.length = ny5 at *
        go_enter Tryz.func41, Tryz.ntmps41
        go_wp2_with fail
        refine (HQ2.out _ HB.out).mono ?_
        rintro e w1 ⟨rfl, q, rfl⟩
        go_wp2
        go_ret
        exact ⟨ret_b fin.out.symm, below_drewN HB.out _⟩
      · have heq2 := hr2t hq2
        rw [hq2] at HQ2
        clear hr2' hr2t hq2
        by_cases h3 : l1 = l2
        · subst h3
          have HRES := Lib.hid (show res = (q4 && q5) from by
            cases q4
            · exact hno (fun e => by cases e.2.2.2.2.1)
            · cases q5
              · exact hno (fun e => by cases e.2.2.2.2.2)
              · exact hyes ⟨rfl, rfl, heq2, rfl, rfl, rfl⟩)
          clear hno hyes heq2
          generalize x.fRight.length = nx2 at *
          generalize y.fRight.length = ny2 at *
          generalize x.fEquations.length = nx4 at *
          generalize y.fEquations.length = ny4 at *
          generalize x.fContributions.length = nx5 at *
          generalize y.fContributions.length = ny5 at *
          have hl : (l1 == l1) = true := beq_self_eq_true _
          go_enter Tryz.func41, Tryz.ntmps41
          go_wp2_with fail
          refine (HQ2.out _ HB.out).mono ?_
          rintro e w1 ⟨rfl, q, rfl⟩
          have HB1 := Lib.hid (below_drewN HB.out q)
          go_wp2_with fail
          refine (HQ4.out _ HB1.out).mono ?_
          rintro e w2 ⟨rfl, hb2⟩
          have pX5 : w2.cell? ⟨w.heap.size, 5, none⟩ = some (.slice a5 nx5 c0_2) := (hb2.cell (p := ⟨w.heap.size, 5, none⟩) (by simp <;> omega)).trans (by go_simp)
          have pY5 : w2.cell? ⟨w.heap.size + 1, 5, none⟩ = some (.slice b5 ny5 c1_2) := (hb2.cell (p := ⟨w.heap.size + 1, 5, none⟩) (by simp <;> omega)).trans (by go_simp)
          have HB2 := Lib.hid (HB1.out.trans (hb2.mono HB1.out.size))
          clear hb2
          cases q4
          · have fin := Lib.hid (show res = false from HRES.out)
            clear HRES HQ5
            go_wp2
            go_ret
            exact ⟨ret_b fin.out.symm, HB2.out⟩
          · go_wp2_with fail
            refine (HQ5.out _ HB2.out).mono ?_
            rintro e w3 ⟨rfl, hb3⟩
            have HB3 := Lib.hid (HB2.out.trans (hb3.mono HB2.out.size))
            clear hb3
            have fin := Lib.hid (show q5 = res from HRES.out.symm)
            go_wp2
            go_ret
            exact ⟨ret_b fin.out, HB3.out⟩
        · have fin := Lib.hid (hno (fun e => h3 e.2.2.2.1))
          have e1 : (l1 == l2) = false := beq_eq_false_iff_ne.2 h3
          clear hno hyes HQ4 HQ5 h3
          generalize x.fRight.length = nx2 at *
          generalize y.fRight.length = ny2 at *
          generalize x.fEquations.length = nx4 at *
          generalize y.fEquations.length = ny4 at *
          generalize x.fContributions.length = nx5 at *
          generalize y.fContributions.length = ny5 at *
          go_enter Tryz.func41, Tryz.ntmps41
          go_wp2_with fail
          refine (HQ2.out _ HB.out).mono ?_
          rintro e w1 ⟨rfl, q, rfl⟩
          go_wp2
          go_ret
          exact ⟨ret_b fin.out.symm, below_drewN HB.out _⟩
    · have fin := Lib.hid (hno (fun e => h1 e.2.1))
      have e1 : (s1.toList == s2.toList) = false := ne_str h1
      clear h1 hno hyes HQ2 HQ4 HQ5 hr2' hr2t
      go_enter Tryz.func41, Tryz.ntmps41
      go_wp2
      go_ret
      exact ⟨ret_b fin.out.symm, HB.out⟩
  · have fin := Lib.hid (hno (fun e => h0 e.1))
    have e1 : (p1.toList == p2.toList) = false := ne_str h0
    clear h0 hno hyes HQ2 HQ4 HQ5 hr2' hr2t
    go_enter Tryz.func41, Tryz.ntmps41
    go_wp2
    go_ret
    exact ⟨ret_b fin.out.symm, HB.out⟩

theorem ln_ne {a b : Nat} (h : a ≠ b) : ((a : Int) != (b : Int)) = true := by
  have : ((a : Int) == (b : Int)) = false := beq_eq_false_iff_ne.2 (by omega)
  rw [bne, this]; rfl
theorem ln_eq {a b : Nat} (h : a = b) : ((a : Int) != (b : Int)) = false := by rw [h, bne, beq_self_eq_true]; rfl
theorem all_step {p : Nat → Prop} {k : Nat} (h : ∀ j, j < k → p j) (hk : p k) : ∀ j, j < k + 1 → p j := by
  intro j hj
  rcases Nat.lt_succ_iff_lt_or_eq.1 hj with h1 | h1
  · exact h j h1
  · rw [h1]; exact hk

set_option maxHeartbeats 6400000 in
set_option maxRecDepth 100000 in
theorem spec_EqualRule {lo hi : Nat} {a2 a4 a5 b2 b4 b5 : Option Addr} {c0_0 c0_1 c0_2 c1_0 c1_1 c1_2 : Nat} (x : DRule) (okx : x.ok) (hx : x.sz ≤ 1048576) (y : DRule) (oky : y.ok) (hy : y.sz ≤ 1048576) (w : World) (hhi : hi ≤ w.heap.size) (hs2 : Sl lo hi w 1 x.fRight.length (fun k => ictS (x.fRight.getD k default)) a2) (hs4 : Sl lo hi w 9 x.fEquations.length (fun k => DEquation.ct (x.fEquations.getD k default)) a4) (hs5 : Sl lo hi w 16 x.fContributions.length (fun k => DContribution.ct (x.fContributions.getD k default)) a5) (ht2 : Sl lo hi w 1 y.fRight.length (fun k => ictS (y.fRight.getD k default)) b2) (ht4 : Sl lo hi w 9 y.fEquations.length (fun k => DEquation.ct (y.fEquations.getD k default)) b4) (ht5 : Sl lo hi w 16 y.fContributions.length (fun k => DContribution.ct (y.fContributions.getD k default)) b5) :
    Calls Tryz.prog 30 #[.agg #[.string x.fName, .string x.fLeft, .slice a2 x.fRight.length c0_0, .bool x.fLiteral, .slice a4 x.fEquations.length c0_1, .slice a5 x.fContributions.length c0_2], .agg #[.string y.fName, .string y.fLeft, .slice b2 y.fRight.length c1_0, .bool y.fLiteral, .slice b4 y.fEquations.length c1_1, .slice b5 y.fContributions.length c1_2]] w fun e w' => e = .returned (.bool (eqR x y)) ∧ Below w.heap.size w w' := by
  have n2x : x.fRight.length ≤ 1048576 := by unfold DRule.sz lsz at hx; omega
  have z4x : lsz DEquation.sz x.fEquations ≤ 1048576 := by unfold DRule.sz at hx; omega
  have z5x : lsz DContribution.sz x.fContributions ≤ 1048576 := by unfold DRule.sz at hx; omega
  have n2y : y.fRight.length ≤ 1048576 := by unfold DRule.sz lsz at hy; omega
  have z4y : lsz DEquation.sz y.fEquations ≤ 1048576 := by unfold DRule.sz at hy; omega
  have z5y : lsz DContribution.sz y.fContributions ≤ 1048576 := by unfold DRule.sz at hy; omega
  obtain ⟨r2, hr2⟩ : ∃ r : Bool, r = true ↔ x.fRight = y.fRight := by classical exact ⟨decide (x.fRight = y.fRight), decide_eq_true_iff⟩
  have hno := @eqR_no x y
  have hyes := @eqR_yes x y
  have HB := Lib.hid (((Below.refl w.heap.size w).alloc (Nat.le_refl _) (.cells #[.string x.fName, .string x.fLeft, .slice a2 x.fRight.length c0_0, .bool x.fLiteral, .slice a4 x.fEquations.length c0_1, .slice a5 x.fContributions.length c0_2] 75)).alloc (by simp) (.cells #[.string y.fName, .string y.fLeft, .slice b2 y.fRight.length c1_0, .bool y.fLiteral, .slice b4 y.fEquations.length c1_1, .slice b5 y.fContributions.length c1_2] 75))
  have HT2 := Lib.hid (fun (W : World) (hW : Below w.heap.size w W) => spec_l3Texts (cap := c0_0) (cap2 := c1_0) x.fRight y.fRight n2x n2y r2 hr2 W (hs2.later hW hhi) (ht2.later hW hhi))
  have HS4 := Lib.hid hs4
  have HS5 := Lib.hid hs5
  have HT4 := Lib.hid ht4
  have HT5 := Lib.hid ht5
  have HZ4 := Lib.hid (fun k (hk : k < x.fEquations.length) => Nat.le_trans (szle_at (f := DEquation.sz) x.fEquations k hk) z4x)
  have HZ4' := Lib.hid (fun k (hk : k < y.fEquations.length) => Nat.le_trans (szle_at (f := DEquation.sz) y.fEquations k hk) z4y)
  have HZ5 := Lib.hid (fun k (hk : k < x.fContributions.length) => Nat.le_trans (szle_at (f := DContribution.sz) x.fContributions k hk) z5x)
  have HZ5' := Lib.hid (fun k (hk : k < y.fContributions.length) => Nat.le_trans (szle_at (f := DContribution.sz) y.fContributions k hk) z5y)
  have HO4 := Lib.hid (fun k (hk : k < x.fEquations.length) => okx.2.2.2.2.1.at hk)
  have HO4' := Lib.hid (fun k (hk : k < y.fEquations.length) => oky.2.2.2.2.1.at hk)
  have HO5 := Lib.hid (fun k (hk : k < x.fContributions.length) => okx.2.2.2.2.2.at hk)
  have HO5' := Lib.hid (fun k (hk : k < y.fContributions.length) => oky.2.2.2.2.2.at hk)
  have hn4 : x.fEquations.length ≤ 1048576 := by unfold lsz at z4x; omega
  have hn5 : x.fContributions.length ≤ 1048576 := by unfold lsz at z5x; omega
  have HN4 := Lib.hid hn4
  have HN5 := Lib.hid hn5
  unfold CondR at hno hyes
  clear hs2 hs4 hs5 ht2 ht4 ht5 hx hy okx oky n2x n2y z4x z4y z5x z5y hn4 hn5
  generalize eqR x y = res at *
  have hr2' : r2 = false → ¬ x.fRight = y.fRight := fun h e => by rw [hr2.2 e] at h; cases h
  have hr2t := hr2.1
  clear hr2
  generalize x.fName = p1 at *
  generalize y.fName = p2 at *
  generalize x.fLeft = s1 at *
  generalize y.fLeft = s2 at *
  generalize x.fLiteral = l1 at *
  generalize y.fLiteral = l2 at *
  by_cases h0 : p1 = p2
  rotate_left
  · have fin := Lib.hid (hno (fun e => h0 e.1))
    have e1 : (p1.toList == p2.toList) = false := ne_str h0
    clear h0 hno hyes HT2 hr2' hr2t HS4 HS5 HT4 HT5 HZ4 HZ4' HZ5 HZ5' HO4 HO4' HO5 HO5'
    generalize x.fRight.length = nx2 at *
    generalize y.fRight.length = ny2 at *
    generalize x.fEquations.length = nx4 at *
    generalize y.fEquations.length = ny4 at *
    generalize x.fContributions.length = nx5 at *
    generalize y.fContributions.length = ny5 at *
    go_enter Tryz.func30, Tryz.ntmps30
    go_wp2
    go_ret
    exact ⟨ret_b fin.out.symm, HB.out⟩
  subst h0
  by_cases h1 : s1 = s2
  rotate_left
  · have fin := Lib.hid (hno (fun e => h1 e.2.1))
    have e1 : (s1.toList == s2.toList) = false := ne_str h1
    clear h1 hno hyes HT2 hr2' hr2t HS4 HS5 HT4 HT5 HZ4 HZ4' HZ5 HZ5' HO4 HO4' HO5 HO5'
    generalize x.fRight.length = nx2 at *
    generalize y.fRight.length = ny2 at *
    generalize x.fEquations.length = nx4 at *
    generalize y.fEquations.length = ny4 at *
    generalize x.fContributions.length = nx5 at *
    generalize y.fContributions.length = ny5 at *
    go_enter Tryz.func30, Tryz.ntmps30
    go_wp2
    go_ret
    exact ⟨ret_b fin.out.symm, HB.out⟩
  subst h1
  by_cases h3 : l1 = l2
  rotate_left
  · have fin := Lib.hid (hno (fun e => h3 e.2.2.2.1))
    have e1 : (l1 != l2) = true := by rw [bne, beq_eq_false_iff_ne.2 h3]; rfl
    have e2 : (l1 == l2) = false := beq_eq_false_iff_ne.2 h3
    clear h3 hno hyes HT2 hr2' hr2t HS4 HS5 HT4 HT5 HZ4 HZ4' HZ5 HZ5' HO4 HO4' HO5 HO5'
    generalize x.fRight.length = nx2 at *
    generalize y.fRight.length = ny2 at *
    generalize x.fEquations.length = nx4 at *
    generalize y.fEquations.length = ny4 at *
    generalize x.fContributions.length = nx5 at *
    generalize y.fContributions.length = ny5 at *
    go_enter Tryz.func30, Tryz.ntmps30
    go_wp2
    go_ret
    exact ⟨ret_b fin.out.symm, HB.out⟩
  subst h3
  have hl : (l1 == l1) = true := beq_self_eq_true _
  have hl2 : (l1 != l1) = false := by rw [bne, hl]; rfl
  cases hq2 : r2
  · have fin := Lib.hid (hno (fun e => hr2' hq2 e.2.2.1))
    rw [hq2] at HT2
    clear hno hyes hr2' hr2t hq2 HS4 HS5 HT4 HT5 HZ4 HZ4' HZ5 HZ5' HO4 HO4' HO5 HO5'
    generalize x.fRight.length = nx2 at *
    generalize y.fRight.length = ny2 at *
    generalize x.fEquations.length = nx4 at *
    generalize y.fEquations.length = ny4 at *
    generalize x.fContributions.length = nx5 at *
    generalize y.fContributions.length = ny5 at *
    go_enter Tryz.func30, Tryz.ntmps30
    go_wp2_with fail
    refine (HT2.out _ HB.out).mono ?_
    rintro e w1 ⟨rfl, q, rfl⟩
    go_wp2
    go_ret
    exact ⟨ret_b fin.out.symm, below_drewN HB.out _⟩
  have heq2 := hr2t hq2
  rw [hq2] at HT2
  clear hr2' hr2t hq2
  by_cases h4 : x.fEquations.length = y.fEquations.length
  rotate_left
  · have fin := Lib.hid (hno (fun e => by have e4 := e.2.2.2.2.1; rw [allEq_len h4] at e4; cases e4))
    have e1 := ln_ne h4
    clear hno hyes h4 heq2 HS4 HS5 HT4 HT5 HZ4 HZ4' HZ5 HZ5' HO4 HO4' HO5 HO5'
    generalize x.fRight.length = nx2 at *
    generalize y.fRight.length = ny2 at *
    generalize x.fEquations.length = nx4 at *
    generalize y.fEquations.length = ny4 at *
    generalize x.fContributions.length = nx5 at *
    generalize y.fContributions.length = ny5 at *
    go_enter Tryz.func30, Tryz.ntmps30
    go_wp2_with fail
    refine (HT2.out _ HB.out).mono ?_
    rintro e w1 ⟨rfl, q, rfl⟩
    go_wp2
    go_ret
    exact ⟨ret_b fin.out.symm, below_drewN HB.out _⟩
  by_cases h5 : x.fContributions.length = y.fContributions.length
  rotate_left
  · have fin := Lib.hid (hno (fun e => by have e5 := e.2.2.2.2.2; rw [allEq_len h5] at e5; cases e5))
    have e1 := ln_ne h5
    have e4 := ln_eq h4
    clear hno hyes h5 h4 heq2 HS4 HS5 HT4 HT5 HZ4 HZ4' HZ5 HZ5' HO4 HO4' HO5 HO5'
    generalize x.fRight.length = nx2 at *
    generalize y.fRight.length = ny2 at *
    generalize x.fEquations.length = nx4 at *
    generalize y.fEquations.length = ny4 at *
    generalize x.fContributions.length = nx5 at *
    generalize y.fContributions.length = ny5 at *
    go_enter Tryz.func30, Tryz.ntmps30
    go_wp2_with fail
    refine (HT2.out _ HB.out).mono ?_
    rintro e w1 ⟨rfl, q, rfl⟩
    go_wp2
    go_ret
    exact ⟨ret_b fin.out.symm, below_drewN HB.out _⟩
  have e4 := ln_eq h4
  have e5 := ln_eq h5
  have HN := Lib.hid (fun (h : ¬ (allEq eqQ x.fEquations y.fEquations = true ∧ allEq eqC x.fContributions y.fContributions = true)) => hno (fun e => h e.2.2.2.2))
  have HY := Lib.hid (fun (h : allEq eqQ x.fEquations y.fEquations = true ∧ allEq eqC x.fContributions y.fContributions = true) => hyes ⟨rfl, rfl, heq2, rfl, h⟩)
  have H4 := Lib.hid h4
  have H5 := Lib.hid h5
  clear hno hyes heq2 h4 h5
  generalize x.fRight.length = nx2 at *
  generalize y.fRight.length = ny2 at *
  generalize x.fEquations = xs4 at *
  generalize y.fEquations = ys4 at *
  generalize x.fContributions = xs5 at *
  generalize y.fContributions = ys5 at *
  go_enter Tryz.func30, Tryz.ntmps30
  go_wp2_with fail
  refine (HT2.out _ HB.out).mono ?_
  rintro e w1 ⟨rfl, q, rfl⟩
  have HB1 := Lib.hid (below_drewN HB.out q)
  have hz1 : w.heap.size + 2 ≤ (((w.alloc (.cells #[.string p1, .string s1, .slice a2 nx2 c0_0, .bool l1, .slice a4 xs4.length c0_1, .slice a5 xs5.length c0_2] 75)).alloc (.cells #[.string p1, .string s1, .slice b2 ny2 c1_0, .bool l1, .slice b4 ys4.length c1_1, .slice b5 ys5.length c1_2] 75)).drewN q).heap.size := by simp [World.drewN]
  have PXY : ∀ p : Addr, (((w.alloc (.cells #[.string p1, .string s1, .slice a2 nx2 c0_0, .bool l1, .slice a4 xs4.length c0_1, .slice a5 xs5.length c0_2] 75)).alloc (.cells #[.string p1, .string s1, .slice b2 ny2 c1_0, .bool l1, .slice b4 ys4.length c1_1, .slice b5 ys5.length c1_2] 75)).drewN q).cell? p = ((w.alloc (.cells #[.string p1, .string s1, .slice a2 nx2 c0_0, .bool l1, .slice a4 xs4.length c0_1, .slice a5 xs5.length c0_2] 75)).alloc (.cells #[.string p1, .string s1, .slice b2 ny2 c1_0, .bool l1, .slice b4 ys4.length c1_1, .slice b5 ys5.length c1_2] 75)).cell? p := fun p => rfl
  have pX4 : (((w.alloc (.cells #[.string p1, .string s1, .slice a2 nx2 c0_0, .bool l1, .slice a4 xs4.length c0_1, .slice a5 xs5.length c0_2] 75)).alloc (.cells #[.string p1, .string s1, .slice b2 ny2 c1_0, .bool l1, .slice b4 ys4.length c1_1, .slice b5 ys5.length c1_2] 75)).drewN q).cell? ⟨w.heap.size, 4, none⟩ = some (.slice a4 xs4.length c0_1) := (PXY _).trans (by go_simp)
  have pX5 : (((w.alloc (.cells #[.string p1, .string s1, .slice a2 nx2 c0_0, .bool l1, .slice a4 xs4.length c0_1, .slice a5 xs5.length c0_2] 75)).alloc (.cells #[.string p1, .string s1, .slice b2 ny2 c1_0, .bool l1, .slice b4 ys4.length c1_1, .slice b5 ys5.length c1_2] 75)).drewN q).cell? ⟨w.heap.size, 5, none⟩ = some (.slice a5 xs5.length c0_2) := (PXY _).trans (by go_simp)
  have pY4 : (((w.alloc (.cells #[.string p1, .string s1, .slice a2 nx2 c0_0, .bool l1, .slice a4 xs4.length c0_1, .slice a5 xs5.length c0_2] 75)).alloc (.cells #[.string p1, .string s1, .slice b2 ny2 c1_0, .bool l1, .slice b4 ys4.length c1_1, .slice b5 ys5.length c1_2] 75)).drewN q).cell? ⟨w.heap.size + 1, 4, none⟩ = some (.slice b4 ys4.length c1_1) := (PXY _).trans (by go_simp)
  have pY5 : (((w.alloc (.cells #[.string p1, .string s1, .slice a2 nx2 c0_0, .bool l1, .slice a4 xs4.length c0_1, .slice a5 xs5.length c0_2] 75)).alloc (.cells #[.string p1, .string s1, .slice b2 ny2 c1_0, .bool l1, .slice b4 ys4.length c1_1, .slice b5 ys5.length c1_2] 75)).drewN q).cell? ⟨w.heap.size + 1, 5, none⟩ = some (.slice b5 ys5.length c1_2) := (PXY _).trans (by go_simp)
  clear PXY HT2 HB
  generalize ((w.alloc (.cells #[.string p1, .string s1, .slice a2 nx2 c0_0, .bool l1, .slice a4 xs4.length c0_1, .slice a5 xs5.length c0_2] 75)).alloc (.cells #[.string p1, .string s1, .slice b2 ny2 c1_0, .bool l1, .slice b4 ys4.length c1_1, .slice b5 ys5.length c1_2] 75)).drewN q = w1 at *
  have HX4 := Lib.hid pX4
  have HX5 := Lib.hid pX5
  have HY4 := Lib.hid pY4
  have HY5 := Lib.hid pY5
  have HZ1 := Lib.hid hz1
  go_wp2
  go_loopw [5] (fun i wr => ∃ k : Nat, k ≤ xs4.length ∧ i = .int .i64 (k : Int) ∧ (∀ jj, jj < k → eqQ (xs4.getD jj default) (ys4.getD jj default) = true) ∧ Below w1.heap.size w1 wr) (fun i _ => xs4.length - (intOf i).toNat)
  case atStart => exact ⟨0, Nat.zero_le _, rfl, fun _ h => absurd h (Nat.not_lt_zero _), Below.refl _ _⟩
  case round =>
    clear pX4 pX5 pY4 pY5
    obtain ⟨k, hk, rfl, heq, hbl⟩ := hrel
    have HE := Lib.hid heq
    have HBL := Lib.hid hbl
    have HBW := Lib.hid (HB1.out.trans (hbl.mono HB1.out.size))
    have hz2 : w.heap.size + 2 ≤ wr.heap.size := Nat.le_trans HZ1.out hbl.size
    have pX4 := (hbl.cell (p := ⟨w.heap.size, 4, none⟩) (by show w.heap.size < _; omega)).trans HX4.out
    have pX5 := (hbl.cell (p := ⟨w.heap.size, 5, none⟩) (by show w.heap.size < _; omega)).trans HX5.out
    have pY4 := (hbl.cell (p := ⟨w.heap.size + 1, 4, none⟩) (by show w.heap.size + 1 < _; omega)).trans HY4.out
    have pY5 := (hbl.cell (p := ⟨w.heap.size + 1, 5, none⟩) (by show w.heap.size + 1 < _; omega)).trans HY5.out
    have hn4 := HN4.out
    clear heq hbl hz1
    by_cases hlt : k < xs4.length
    · have hltm : k < ys4.length := by rw [← H4.out]; exact hlt
      obtain ⟨rb, ro, rfl, _, hrb, hc⟩ := (HS4.out.later (HBW.out.mono hhi) (Nat.le_refl _)).at k hlt
      obtain ⟨rc, rp, rfl, _, hrc, hd⟩ := (HT4.out.later (HBW.out.mono hhi) (Nat.le_refl _)).at k hltm
      obtain ⟨a9, c9, hc0, hc1, hc2, hc3, hc4, hc5, hc6, hc7, hc8, hs9⟩ := DEquation.open hc
      obtain ⟨b9, e9, hd0, hd1, hd2, hd3, hd4, hd5, hd6, hd7, hd8, ht9⟩ := DEquation.open hd
      have bl1 : rb < wr.heap.size := Nat.lt_of_lt_of_le hrb (Nat.le_trans hhi HBW.out.size)
      have bl2 : rc < wr.heap.size := Nat.lt_of_lt_of_le hrc (Nat.le_trans hhi HBW.out.size)
      have HC := Lib.hid (fun (W : World) (hW : Below wr.heap.size wr W) => spec_EqualExpr (c0_0 := c9) (c1_0 := e9) (xs4.getD k default).fExpr (HO4.out k hlt).2 (Nat.le_trans (Nat.le_add_left _ _) (HZ4.out k hlt)) (ys4.getD k default).fExpr (HO4'.out k hltm).2 (Nat.le_trans (Nat.le_add_left _ _) (HZ4'.out k hltm)) W (Nat.le_trans hhi (Nat.le_trans HBW.out.size hW.size)) (hs9.later (hW.mono (Nat.le_trans hhi HBW.out.size)) (Nat.le_refl _)) (ht9.later (hW.mono (Nat.le_trans hhi HBW.out.size)) (Nat.le_refl _)))
      have HP := Lib.hid (fun h => all_step (p := fun j => eqQ (xs4.getD j default) (ys4.getD j default) = true) HE.out (k := k) h)
      have HNF := Lib.hid (fun (h : eqQ (xs4.getD k default) (ys4.getD k default) = false) => HN.out (fun e => by have e4 := e.1; rw [allEq_no hlt h] at e4; cases e4))
      have HQ := Lib.hid (@eqQ_last (xs4.getD k default) (ys4.getD k default))
      have HQN := Lib.hid (@eqQ_no (xs4.getD k default) (ys4.getD k default))
      clear hc hd hs9 ht9
      generalize eqQ (xs4.getD k default) (ys4.getD k default) = qq at *
      unfold CondQ at HQN
      generalize (xs4.getD k default).fAt.fPos = p1 at *
      generalize (ys4.getD k default).fAt.fPos = p2 at *
      generalize (xs4.getD k default).fAt.fName = t1 at *
      generalize (ys4.getD k default).fAt.fName = t2 at *
      generalize eqE (xs4.getD k default).fExpr (ys4.getD k default).fExpr = rr at *
      generalize (xs4.getD k default).fExpr = xe at *
      generalize (ys4.getD k default).fExpr = ye at *
      generalize xe.fKind = u0 at *
      generalize xe.fN = u1 at *
      generalize xe.fPos = u2 at *
      generalize xe.fType = u3 at *
      generalize xe.fSymbol = u4 at *
      generalize xe.fName = u5 at *
      generalize xe.fArgs.length = u6 at *
      generalize ye.fKind = v0 at *
      generalize ye.fN = v1 at *
      generalize ye.fPos = v2 at *
      generalize ye.fType = v3 at *
      generalize ye.fSymbol = v4 at *
      generalize ye.fName = v5 at *
      generalize ye.fArgs.length = v6 at *
      by_cases g0 : p1 = p2
      rotate_left
      · have fin := Lib.hid (HNF.out (HQN.out (fun e => g0 e.1)))
        have e1 : (p1 == p2) = false := beq_eq_false_iff_ne.2 g0
        clear g0 HQ HQN HP HNF HC
        go_wp2
        go_quiet (fail)
        go_wp2
        go_ret
        exact ⟨ret_b fin.out.symm, below_drewN HBW.out _⟩
      subst g0
      by_cases g1 : t1 = t2
      rotate_left
      · have fin := Lib.hid (HNF.out (HQN.out (fun e => g1 e.2.1)))
        have e1 : (t1.toList == t2.toList) = false := ne_str g1
        clear g1 HQ HQN HP HNF HC
        go_wp2
        go_quiet (fail)
        go_wp2
        go_ret
        exact ⟨ret_b fin.out.symm, below_drewN HBW.out _⟩
      subst g1
      have HQ2 := Lib.hid (HQ.out rfl rfl)
      clear HQ HQN
      go_wp2_with fail
      refine wp_region_free [([], none), ([0], none), ([], none), ([1, 2], none), ([3], none), ([4], none), ([], none), ([6], none), ([], none), ([7, 8], none), ([9], none), ([10], none), ([5, 11], none), ([12], none), ([13], none), ([13, 14], none), ([13], none), ([13, 15, 16], none), ([13, 17], none), ([13, 18], none), ([13], none), ([13, 20], none), ([13], none), ([13, 21, 22], none), ([13, 23], none), ([13, 24], none), ([13, 19, 25], none), ([13, 26], none), ([13, 27], none)] [0, 1, 2, 3, 4, 5, 6, 7, 8, 9, 10, 11, 12, 13, 14, 15, 16, 17, 18, 19, 20, 21, 22, 23, 24, 25, 26, 27, 28] (fun jq9 V L H wx => match jq9 with | 0 => V 0 = .pointer (some ⟨w.heap.size, 4, none⟩) | 1 => V 1 = .slice (some ⟨rb, ro, none⟩) xs4.length c0_1 | 2 => V 2 = .int .i64 (k : Int) | 3 => V 3 = .pointer (some ⟨rb, ro + k * 9, none⟩) | 4 => V 4 = .pointer (some ⟨rb, ro + k * 9, none⟩) | 5 => V 5 = .agg #[.int .i64 p1, .string t1] | 6 => V 6 = .pointer (some ⟨w.heap.size + 1, 4, none⟩) | 7 => V 7 = .slice (some ⟨rc, rp, none⟩) ys4.length c1_1 | 8 => V 8 = .int .i64 (k : Int) | 9 => V 9 = .pointer (some ⟨rc, rp + k * 9, none⟩) | 10 => V 10 = .pointer (some ⟨rc, rp + k * 9, none⟩) | 11 => V 11 = .agg #[.int .i64 p1, .string t1] | 12 => V 12 = .bool false | 13 => V 13 = .bool false | 14 => V 14 = .pointer (some ⟨w.heap.size, 4, none⟩) | 15 => V 15 = .slice (some ⟨rb, ro, none⟩) xs4.length c0_1 | 16 => V 16 = .int .i64 (k : Int) | 17 => V 17 = .pointer (some ⟨rb, ro + k * 9, none⟩) | 18 => V 18 = .pointer (some ⟨rb, ro + k * 9 + 2, none⟩) | 19 => V 19 = .agg #[.int .i64 u0, .int .i64 u1, .int .i64 u2, .int .i64 u3, .string u4, .string u5, .slice a9 u6 c9] | 20 => V 20 = .pointer (some ⟨w.heap.size + 1, 4, none⟩) | 21 => V 21 = .slice (some ⟨rc, rp, none⟩) ys4.length c1_1 | 22 => V 22 = .int .i64 (k : Int) | 23 => V 23 = .pointer (some ⟨rc, rp + k * 9, none⟩) | 24 => V 24 = .pointer (some ⟨rc, rp + k * 9 + 2, none⟩) | 25 => V 25 = .agg #[.int .i64 v0, .int .i64 v1, .int .i64 v2, .int .i64 v3, .string v4, .string v5, .slice b9 v6 e9] | 26 => V 26 = .bool rr | 27 => V 27 = .bool (!rr) | 28 => V 28 = .bool (!rr) | _ => True) (by kernel_rfl) (by kernel_rfl) ?loc ?lasts ?walk
      case loc =>
        intro k V V' L H wx h0 h1 hG
        match k with
        | 0 =>
          try dsimp only at hG ⊢
          rw [← h0]
          exact hG
        | 1 =>
          try dsimp only at hG ⊢
          rw [← h0]
          exact hG
        | 2 =>
          try dsimp only at hG ⊢
          rw [← h0]
          exact hG
        | 3 =>
          try dsimp only at hG ⊢
          rw [← h0]
          exact hG
        | 4 =>
          try dsimp only at hG ⊢
          rw [← h0]
          exact hG
        | 5 =>
          try dsimp only at hG ⊢
          rw [← h0]
          exact hG
        | 6 =>
          try dsimp only at hG ⊢
          rw [← h0]
          exact hG
        | 7 =>
          try dsimp only at hG ⊢
          rw [← h0]
          exact hG
        | 8 =>
          try dsimp only at hG ⊢
          rw [← h0]
          exact hG
        | 9 =>
          try dsimp only at hG ⊢
          rw [← h0]
          exact hG
        | 10 =>
          try dsimp only at hG ⊢
          rw [← h0]
          exact hG
        | 11 =>
          try dsimp only at hG ⊢
          rw [← h0]
          exact hG
        | 12 =>
          try dsimp only at hG ⊢
          rw [← h0]
          exact hG
        | 13 =>
          try dsimp only at hG ⊢
          rw [← h0]
          exact hG
        | 14 =>
          try dsimp only at hG ⊢
          rw [← h0]
          exact hG
        | 15 =>
          try dsimp only at hG ⊢
          rw [← h0]
          exact hG
        | 16 =>
          try dsimp only at hG ⊢
          rw [← h0]
          exact hG
        | 17 =>
          try dsimp only at hG ⊢
          rw [← h0]
          exact hG
        | 18 =>
          try dsimp only at hG ⊢
          rw [← h0]
          exact hG
        | 19 =>
          try dsimp only at hG ⊢
          rw [← h0]
          exact hG
        | 20 =>
          try dsimp only at hG ⊢
          rw [← h0]
          exact hG
        | 21 =>
          try dsimp only at hG ⊢
          rw [← h0]
          exact hG
        | 22 =>
          try dsimp only at hG ⊢
          rw [← h0]
          exact hG
        | 23 =>
          try dsimp only at hG ⊢
          rw [← h0]
          exact hG
        | 24 =>
          try dsimp only at hG ⊢
          rw [← h0]
          exact hG
        | 25 =>
          try dsimp only at hG ⊢
          rw [← h0]
          exact hG
        | 26 =>
          try dsimp only at hG ⊢
          rw [← h0]
          exact hG
        | 27 =>
          try dsimp only at hG ⊢
          rw [← h0]
          exact hG
        | 28 =>
          try dsimp only at hG ⊢
          rw [← h0]
          exact hG
        | n + 29 => trivial
      case lasts =>
        intro i hi V L H wx wy hB hH hk
        match i, hi with
        | 0, _ => exact fun h => h
        | 1, _ => exact fun h => h
        | 2, _ => exact fun h => h
        | 3, _ => exact fun h => h
        | 4, _ => exact fun h => h
        | 5, _ => exact fun h => h
        | 6, _ => exact fun h => h
        | 7, _ => exact fun h => h
        | 8, _ => exact fun h => h
        | 9, _ => exact fun h => h
        | 10, _ => exact fun h => h
        | 11, _ => exact fun h => h
        | 12, _ => exact fun h => h
        | 13, _ => exact fun h => h
        | 14, _ => exact fun h => h
        | 15, _ => exact fun h => h
        | 16, _ => exact fun h => h
        | 17, _ => exact fun h => h
        | 18, _ => exact fun h => h
        | 19, _ => exact fun h => h
        | 20, _ => exact fun h => h
        | 21, _ => exact fun h => h
        | 22, _ => exact fun h => h
        | 23, _ => exact fun h => h
        | 24, _ => exact fun h => h
        | 25, _ => exact fun h => h
        | 26, _ => exact fun h => h
        | 27, _ => exact fun h => h
        | 28, _ => exact fun h => h
        | n + 29, hn => exact absurd hn (by simp)
      case walk =>
        simp (maxSteps := 4000000) only [free, Nat.reduceAdd, Act.put, List.setIfInBounds_toArray, List.set_cons_succ, List.set_cons_zero]
        refine ⟨?_, ?_, ?_, ?_, ?_, ?_, ?_, ?_, ?_, ?_, ?_, ?_, ?_, ?_, ?_, ?_, ?_, ?_, ?_, ?_, ?_, ?_, ?_, ?_, ?_, ?_, ?_, ?_, ?_, ?_⟩
        · intro V L H w1_ hb1 hd
          clear hd
          go_wp2_with fail
          exact freePost _ rfl ⟨Below.refl _ _, upd_self⟩
        · intro V L H w1_ hb1 hd
          obtain ⟨⟨hL0, hM0, hH0, hv0⟩, -⟩ := hd
          rw [hv0]
          have HV0 := Lib.hid hv0
          clear hv0
          have pX4_ : w1_.cell? ⟨w.heap.size, 4, none⟩ = some (.slice (some ⟨rb, ro, none⟩) xs4.length c0_1) := (hb1.cell (p := ⟨w.heap.size, 4, none⟩) (by first | exact bl1 | exact bl2 | (show w.heap.size < _; omega) | (show w.heap.size + 1 < _; omega))).trans pX4
          go_wp2_with fail
          exact freePost _ rfl ⟨Below.refl _ _, upd_self⟩
        · intro V L H w1_ hb1 hd
          clear hd
          go_wp2_with fail
          exact freePost _ rfl ⟨Below.refl _ _, upd_self⟩
        · intro V L H w1_ hb1 hd
          obtain ⟨⟨hL1, hM1, hH1, hv1⟩, ⟨hL2, hM2, hH2, hv2⟩, -⟩ := hd
          rw [hv1, hv2]
          have HV1 := Lib.hid hv1
          have HV2 := Lib.hid hv2
          clear hv1 hv2
          go_wp2_with fail
          exact freePost _ rfl ⟨Below.refl _ _, upd_self⟩
        · intro V L H w1_ hb1 hd
          obtain ⟨⟨hL3, hM3, hH3, hv3⟩, -⟩ := hd
          rw [hv3]
          have HV3 := Lib.hid hv3
          clear hv3
          go_wp2_with fail
          exact freePost _ rfl ⟨Below.refl _ _, upd_self⟩
        · intro V L H w1_ hb1 hd
          obtain ⟨⟨hL4, hM4, hH4, hv4⟩, -⟩ := hd
          rw [hv4]
          have HV4 := Lib.hid hv4
          clear hv4
          have hc0_ : w1_.cell? ⟨rb, ro + k * 9, none⟩ = some (.int .i64 p1) := (hb1.cell (p := ⟨rb, ro + k * 9, none⟩) (by first | exact bl1 | exact bl2 | (show w.heap.size < _; omega) | (show w.heap.size + 1 < _; omega))).trans hc0
          have hc1_ : w1_.cell? ⟨rb, ro + k * 9 + 1, none⟩ = some (.string t1) := (hb1.cell (p := ⟨rb, ro + k * 9 + 1, none⟩) (by first | exact bl1 | exact bl2 | (show w.heap.size < _; omega) | (show w.heap.size + 1 < _; omega))).trans hc1
          go_wp2_with fail
          exact freePost _ rfl ⟨Below.refl _ _, upd_self⟩
        · intro V L H w1_ hb1 hd
          clear hd
          go_wp2_with fail
          exact freePost _ rfl ⟨Below.refl _ _, upd_self⟩
        · intro V L H w1_ hb1 hd
          obtain ⟨⟨hL6, hM6, hH6, hv6⟩, -⟩ := hd
          rw [hv6]
          have HV6 := Lib.hid hv6
          clear hv6
          have pY4_ : w1_.cell? ⟨w.heap.size + 1, 4, none⟩ = some (.slice (some ⟨rc, rp, none⟩) ys4.length c1_1) := (hb1.cell (p := ⟨w.heap.size + 1, 4, none⟩) (by first | exact bl1 | exact bl2 | (show w.heap.size < _; omega) | (show w.heap.size + 1 < _; omega))).trans pY4
          go_wp2_with fail
          exact freePost _ rfl ⟨Below.refl _ _, upd_self⟩
        · intro V L H w1_ hb1 hd
          clear hd
          go_wp2_with fail
          exact freePost _ rfl ⟨Below.refl _ _, upd_self⟩
        · intro V L H w1_ hb1 hd
          obtain ⟨⟨hL7, hM7, hH7, hv7⟩, ⟨hL8, hM8, hH8, hv8⟩, -⟩ := hd
          rw [hv7, hv8]
          have HV7 := Lib.hid hv7
          have HV8 := Lib.hid hv8
          clear hv7 hv8
          go_wp2_with fail
          exact freePost _ rfl ⟨Below.refl _ _, upd_self⟩
        · intro V L H w1_ hb1 hd
          obtain ⟨⟨hL9, hM9, hH9, hv9⟩, -⟩ := hd
          rw [hv9]
          have HV9 := Lib.hid hv9
          clear hv9
          go_wp2_with fail
          exact freePost _ rfl ⟨Below.refl _ _, upd_self⟩
        · intro V L H w1_ hb1 hd
          obtain ⟨⟨hL10, hM10, hH10, hv10⟩, -⟩ := hd
          rw [hv10]
          have HV10 := Lib.hid hv10
          clear hv10
          have hd0_ : w1_.cell? ⟨rc, rp + k * 9, none⟩ = some (.int .i64 p1) := (hb1.cell (p := ⟨rc, rp + k * 9, none⟩) (by first | exact bl1 | exact bl2 | (show w.heap.size < _; omega) | (show w.heap.size + 1 < _; omega))).trans hd0
          have hd1_ : w1_.cell? ⟨rc, rp + k * 9 + 1, none⟩ = some (.string t1) := (hb1.cell (p := ⟨rc, rp + k * 9 + 1, none⟩) (by first | exact bl1 | exact bl2 | (show w.heap.size < _; omega) | (show w.heap.size + 1 < _; omega))).trans hd1
          go_wp2_with fail
          exact freePost _ rfl ⟨Below.refl _ _, upd_self⟩
        · intro V L H w1_ hb1 hd
          obtain ⟨⟨hL5, hM5, hH5, hv5⟩, ⟨hL11, hM11, hH11, hv11⟩, -⟩ := hd
          rw [hv5, hv11]
          have HV5 := Lib.hid hv5
          have HV11 := Lib.hid hv11
          clear hv5 hv11
          go_wp2_with fail
          exact freePost _ rfl ⟨Below.refl _ _, upd_self⟩
        · intro V L H w1_ hb1 hd
          obtain ⟨⟨hL12, hM12, hH12, hv12⟩, -⟩ := hd
          rw [hv12]
          have HV12 := Lib.hid hv12
          clear hv12
          go_wp2_with fail
          exact freePost _ rfl ⟨Below.refl _ _, upd_self⟩
        · intro V L H w1_ hb1 hd
          obtain ⟨⟨hL13, hM13, hH13, hv13⟩, -⟩ := hd
          rw [hv13]
          have HV13 := Lib.hid hv13
          clear hv13
          go_wp2_with fail
          exact freePost _ rfl ⟨Below.refl _ _, upd_self⟩
        · intro V L H w1_ hb1 hd
          obtain ⟨⟨hL13, hM13, hH13, hv13⟩, ⟨hL14, hM14, hH14, hv14⟩, -⟩ := hd
          rw [hv13, hv14]
          have HV13 := Lib.hid hv13
          have HV14 := Lib.hid hv14
          clear hv13 hv14
          have pX4_ : w1_.cell? ⟨w.heap.size, 4, none⟩ = some (.slice (some ⟨rb, ro, none⟩) xs4.length c0_1) := (hb1.cell (p := ⟨w.heap.size, 4, none⟩) (by first | exact bl1 | exact bl2 | (show w.heap.size < _; omega) | (show w.heap.size + 1 < _; omega))).trans pX4
          go_wp2_with fail
          exact freePost _ rfl ⟨Below.refl _ _, upd_self⟩
        · intro V L H w1_ hb1 hd
          obtain ⟨⟨hL13, hM13, hH13, hv13⟩, -⟩ := hd
          rw [hv13]
          have HV13 := Lib.hid hv13
          clear hv13
          go_wp2_with fail
          exact freePost _ rfl ⟨Below.refl _ _, upd_self⟩
        · intro V L H w1_ hb1 hd
          obtain ⟨⟨hL13, hM13, hH13, hv13⟩, ⟨hL15, hM15, hH15, hv15⟩, ⟨hL16, hM16, hH16, hv16⟩, -⟩ := hd
          rw [hv13, hv15, hv16]
          have HV13 := Lib.hid hv13
          have HV15 := Lib.hid hv15
          have HV16 := Lib.hid hv16
          clear hv13 hv15 hv16
          go_wp2_with fail
          exact freePost _ rfl ⟨Below.refl _ _, upd_self⟩
        · intro V L H w1_ hb1 hd
          obtain ⟨⟨hL13, hM13, hH13, hv13⟩, ⟨hL17, hM17, hH17, hv17⟩, -⟩ := hd
          rw [hv13, hv17]
          have HV13 := Lib.hid hv13
          have HV17 := Lib.hid hv17
          clear hv13 hv17
          go_wp2_with fail
          exact freePost _ rfl ⟨Below.refl _ _, upd_self⟩
        · intro V L H w1_ hb1 hd
          obtain ⟨⟨hL13, hM13, hH13, hv13⟩, ⟨hL18, hM18, hH18, hv18⟩, -⟩ := hd
          rw [hv13, hv18]
          have HV13 := Lib.hid hv13
          have HV18 := Lib.hid hv18
          clear hv13 hv18
          have hc2_ : w1_.cell? ⟨rb, ro + k * 9 + 2, none⟩ = some (.int .i64 u0) := (hb1.cell (p := ⟨rb, ro + k * 9 + 2, none⟩) (by first | exact bl1 | exact bl2 | (show w.heap.size < _; omega) | (show w.heap.size + 1 < _; omega))).trans hc2
          have hc3_ : w1_.cell? ⟨rb, ro + k * 9 + 3, none⟩ = some (.int .i64 u1) := (hb1.cell (p := ⟨rb, ro + k * 9 + 3, none⟩) (by first | exact bl1 | exact bl2 | (show w.heap.size < _; omega) | (show w.heap.size + 1 < _; omega))).trans hc3
          have hc4_ : w1_.cell? ⟨rb, ro + k * 9 + 4, none⟩ = some (.int .i64 u2) := (hb1.cell (p := ⟨rb, ro + k * 9 + 4, none⟩) (by first | exact bl1 | exact bl2 | (show w.heap.size < _; omega) | (show w.heap.size + 1 < _; omega))).trans hc4
          have hc5_ : w1_.cell? ⟨rb, ro + k * 9 + 5, none⟩ = some (.int .i64 u3) := (hb1.cell (p := ⟨rb, ro + k * 9 + 5, none⟩) (by first | exact bl1 | exact bl2 | (show w.heap.size < _; omega) | (show w.heap.size + 1 < _; omega))).trans hc5
          have hc6_ : w1_.cell? ⟨rb, ro + k * 9 + 6, none⟩ = some (.string u4) := (hb1.cell (p := ⟨rb, ro + k * 9 + 6, none⟩) (by first | exact bl1 | exact bl2 | (show w.heap.size < _; omega) | (show w.heap.size + 1 < _; omega))).trans hc6
          have hc7_ : w1_.cell? ⟨rb, ro + k * 9 + 7, none⟩ = some (.string u5) := (hb1.cell (p := ⟨rb, ro + k * 9 + 7, none⟩) (by first | exact bl1 | exact bl2 | (show w.heap.size < _; omega) | (show w.heap.size + 1 < _; omega))).trans hc7
          have hc8_ : w1_.cell? ⟨rb, ro + k * 9 + 8, none⟩ = some (.slice a9 u6 c9) := (hb1.cell (p := ⟨rb, ro + k * 9 + 8, none⟩) (by first | exact bl1 | exact bl2 | (show w.heap.size < _; omega) | (show w.heap.size + 1 < _; omega))).trans hc8
          go_wp2_with fail
          exact freePost _ rfl ⟨Below.refl _ _, upd_self⟩
        · intro V L H w1_ hb1 hd
          obtain ⟨⟨hL13, hM13, hH13, hv13⟩, -⟩ := hd
          rw [hv13]
          have HV13 := Lib.hid hv13
          clear hv13
          go_wp2_with fail
          exact freePost _ rfl ⟨Below.refl _ _, upd_self⟩
        · intro V L H w1_ hb1 hd
          obtain ⟨⟨hL13, hM13, hH13, hv13⟩, ⟨hL20, hM20, hH20, hv20⟩, -⟩ := hd
          rw [hv13, hv20]
          have HV13 := Lib.hid hv13
          have HV20 := Lib.hid hv20
          clear hv13 hv20
          have pY4_ : w1_.cell? ⟨w.heap.size + 1, 4, none⟩ = some (.slice (some ⟨rc, rp, none⟩) ys4.length c1_1) := (hb1.cell (p := ⟨w.heap.size + 1, 4, none⟩) (by first | exact bl1 | exact bl2 | (show w.heap.size < _; omega) | (show w.heap.size + 1 < _; omega))).trans pY4
          go_wp2_with fail
          exact freePost _ rfl ⟨Below.refl _ _, upd_self⟩
        · intro V L H w1_ hb1 hd
          obtain ⟨⟨hL13, hM13, hH13, hv13⟩, -⟩ := hd
          rw [hv13]
          have HV13 := Lib.hid hv13
          clear hv13
          go_wp2_with fail
          exact freePost _ rfl ⟨Below.refl _ _, upd_self⟩
        · intro V L H w1_ hb1 hd
          obtain ⟨⟨hL13, hM13, hH13, hv13⟩, ⟨hL21, hM21, hH21, hv21⟩, ⟨hL22, hM22, hH22, hv22⟩, -⟩ := hd
          rw [hv13, hv21, hv22]
          have HV13 := Lib.hid hv13
          have HV21 := Lib.hid hv21
          have HV22 := Lib.hid hv22
          clear hv13 hv21 hv22
          go_wp2_with fail
          exact freePost _ rfl ⟨Below.refl _ _, upd_self⟩
        · intro V L H w1_ hb1 hd
          obtain ⟨⟨hL13, hM13, hH13, hv13⟩, ⟨hL23, hM23, hH23, hv23⟩, -⟩ := hd
          rw [hv13, hv23]
          have HV13 := Lib.hid hv13
          have HV23 := Lib.hid hv23
          clear hv13 hv23
          go_wp2_with fail
          exact freePost _ rfl ⟨Below.refl _ _, upd_self⟩
        · intro V L H w1_ hb1 hd
          obtain ⟨⟨hL13, hM13, hH13, hv13⟩, ⟨hL24, hM24, hH24, hv24⟩, -⟩ := hd
          rw [hv13, hv24]
          have HV13 := Lib.hid hv13
          have HV24 := Lib.hid hv24
          clear hv13 hv24
          have hd2_ : w1_.cell? ⟨rc, rp + k * 9 + 2, none⟩ = some (.int .i64 v0) := (hb1.cell (p := ⟨rc, rp + k * 9 + 2, none⟩) (by first | exact bl1 | exact bl2 | (show w.heap.size < _; omega) | (show w.heap.size + 1 < _; omega))).trans hd2
          have hd3_ : w1_.cell? ⟨rc, rp + k * 9 + 3, none⟩ = some (.int .i64 v1) := (hb1.cell (p := ⟨rc, rp + k * 9 + 3, none⟩) (by first | exact bl1 | exact bl2 | (show w.heap.size < _; omega) | (show w.heap.size + 1 < _; omega))).trans hd3
          have hd4_ : w1_.cell? ⟨rc, rp + k * 9 + 4, none⟩ = some (.int .i64 v2) := (hb1.cell (p := ⟨rc, rp + k * 9 + 4, none⟩) (by first | exact bl1 | exact bl2 | (show w.heap.size < _; omega) | (show w.heap.size + 1 < _; omega))).trans hd4
          have hd5_ : w1_.cell? ⟨rc, rp + k * 9 + 5, none⟩ = some (.int .i64 v3) := (hb1.cell (p := ⟨rc, rp + k * 9 + 5, none⟩) (by first | exact bl1 | exact bl2 | (show w.heap.size < _; omega) | (show w.heap.size + 1 < _; omega))).trans hd5
          have hd6_ : w1_.cell? ⟨rc, rp + k * 9 + 6, none⟩ = some (.string v4) := (hb1.cell (p := ⟨rc, rp + k * 9 + 6, none⟩) (by first | exact bl1 | exact bl2 | (show w.heap.size < _; omega) | (show w.heap.size + 1 < _; omega))).trans hd6
          have hd7_ : w1_.cell? ⟨rc, rp + k * 9 + 7, none⟩ = some (.string v5) := (hb1.cell (p := ⟨rc, rp + k * 9 + 7, none⟩) (by first | exact bl1 | exact bl2 | (show w.heap.size < _; omega) | (show w.heap.size + 1 < _; omega))).trans hd7
          have hd8_ : w1_.cell? ⟨rc, rp + k * 9 + 8, none⟩ = some (.slice b9 v6 e9) := (hb1.cell (p := ⟨rc, rp + k * 9 + 8, none⟩) (by first | exact bl1 | exact bl2 | (show w.heap.size < _; omega) | (show w.heap.size + 1 < _; omega))).trans hd8
          go_wp2_with fail
          exact freePost _ rfl ⟨Below.refl _ _, upd_self⟩
        · intro V L H w1_ hb1 hd
          obtain ⟨⟨hL13, hM13, hH13, hv13⟩, ⟨hL19, hM19, hH19, hv19⟩, ⟨hL25, hM25, hH25, hv25⟩, -⟩ := hd
          rw [hv13, hv19, hv25]
          have HV13 := Lib.hid hv13
          have HV19 := Lib.hid hv19
          have HV25 := Lib.hid hv25
          clear hv13 hv19 hv25
          go_wp2_with fail
          refine (HC.out _ hb1).mono ?_
          rintro e w2 ⟨rfl, hb2⟩
          go_wp2_with fail
          exact freePost _ rfl ⟨hb2, upd_self⟩
        · intro V L H w1_ hb1 hd
          obtain ⟨⟨hL13, hM13, hH13, hv13⟩, ⟨hL26, hM26, hH26, hv26⟩, -⟩ := hd
          rw [hv13, hv26]
          have HV13 := Lib.hid hv13
          have HV26 := Lib.hid hv26
          clear hv13 hv26
          go_wp2_with fail
          exact freePost _ rfl ⟨Below.refl _ _, upd_self⟩
        · intro V L H w1_ hb1 hd
          obtain ⟨⟨hL13, hM13, hH13, hv13⟩, ⟨hL27, hM27, hH27, hv27⟩, -⟩ := hd
          rw [hv13, hv27]
          have HV13 := Lib.hid hv13
          have HV27 := Lib.hid hv27
          clear hv13 hv27
          go_wp2_with fail
          exact freePost _ rfl ⟨Below.refl _ _, upd_self⟩
        · intro V L H w1_ hb1 hd hap hdead
          obtain ⟨⟨hL0, hM0, hH0, hv0⟩, ⟨hL1, hM1, hH1, hv1⟩, ⟨hL2, hM2, hH2, hv2⟩, ⟨hL3, hM3, hH3, hv3⟩, ⟨hL4, hM4, hH4, hv4⟩, ⟨hL5, hM5, hH5, hv5⟩, ⟨hL6, hM6, hH6, hv6⟩, ⟨hL7, hM7, hH7, hv7⟩, ⟨hL8, hM8, hH8, hv8⟩, ⟨hL9, hM9, hH9, hv9⟩, ⟨hL10, hM10, hH10, hv10⟩, ⟨hL11, hM11, hH11, hv11⟩, ⟨hL12, hM12, hH12, hv12⟩, ⟨hL13, hM13, hH13, hv13⟩, ⟨hL14, hM14, hH14, hv14⟩, ⟨hL15, hM15, hH15, hv15⟩, ⟨hL16, hM16, hH16, hv16⟩, ⟨hL17, hM17, hH17, hv17⟩, ⟨hL18, hM18, hH18, hv18⟩, ⟨hL19, hM19, hH19, hv19⟩, ⟨hL20, hM20, hH20, hv20⟩, ⟨hL21, hM21, hH21, hv21⟩, ⟨hL22, hM22, hH22, hv22⟩, ⟨hL23, hM23, hH23, hv23⟩, ⟨hL24, hM24, hH24, hv24⟩, ⟨hL25, hM25, hH25, hv25⟩, ⟨hL26, hM26, hH26, hv26⟩, ⟨hL27, hM27, hH27, hv27⟩, ⟨hL28, hM28, hH28, hv28⟩, -⟩ := hd
          rw [hv0, hv1, hv2, hv3, hv4, hv5, hv6, hv7, hv8, hv9, hv10, hv11, hv12, hv13, hv14, hv15, hv16, hv17, hv18, hv19, hv20, hv21, hv22, hv23, hv24, hv25, hv26, hv27, hv28]
          clear hv0 hv1 hv2 hv3 hv4 hv5 hv6 hv7 hv8 hv9 hv10 hv11 hv12 hv13 hv14 hv15 hv16 hv17 hv18 hv19 hv20 hv21 hv22 hv23 hv24 hv25 hv26 hv27 hv28
          have HB2 := Lib.hid (HBL.out.trans (hb1.mono HBL.out.size))
          clear hb1 HC hap hdead
          cases hrr : rr
          · have fin := Lib.hid (HNF.out (HQ2.out.trans hrr))
            clear HP HNF HQ2 hrr
            go_wp2
            go_ret
            exact ⟨ret_b fin.out.symm, HB1.out.trans (HB2.out.mono HB1.out.size)⟩
          · have HP2 := Lib.hid (HP.out (HQ2.out.trans hrr))
            clear HP HNF HQ2 hrr
            go_wp2
            go_roundw
            case rel => exact ⟨k + 1, by omega, by go_num, HP2.out, HB2.out⟩
            case measure => simp [intOf]; omega
    · obtain rfl : k = xs4.length := by omega
      have HA4 := Lib.hid (allEq_yes H4.out HE.out)
      have hn5 := HN5.out
      have HBW' := Lib.hid HBW.out
      clear hlt hk hn4 HBL HS4 HT4 HZ4 HZ4' HO4 HO4' HE HX4 HY4 HN4 HBW HB1 HZ1 HX5 HY5
      have HX5 := Lib.hid pX5
      have HY5 := Lib.hid pY5
      go_wp2
      go_loopw [6] (fun i wr' => ∃ k : Nat, k ≤ xs5.length ∧ i = .int .i64 (k : Int) ∧ (∀ jj, jj < k → eqC (xs5.getD jj default) (ys5.getD jj default) = true) ∧ Below wr.heap.size wr wr') (fun i _ => xs5.length - (intOf i).toNat)
      case atStart => exact ⟨0, Nat.zero_le _, rfl, fun _ h => absurd h (Nat.not_lt_zero _), Below.refl _ _⟩
      case round =>
        clear pX5 pY5 pX4 pY4
        obtain ⟨k, hk, rfl, heq, hbl⟩ := hrel
        have HE := Lib.hid heq
        have HBL := Lib.hid hbl
        have HBW := Lib.hid (HBW'.out.trans (hbl.mono HBW'.out.size))
        have hz3 : w.heap.size + 2 ≤ wr.heap.size := Nat.le_trans hz2 hbl.size
        have pX5 := (hbl.cell (p := ⟨w.heap.size, 5, none⟩) (by show w.heap.size < _; omega)).trans HX5.out
        have pY5 := (hbl.cell (p := ⟨w.heap.size + 1, 5, none⟩) (by show w.heap.size + 1 < _; omega)).trans HY5.out
        clear heq hbl
        by_cases hlt : k < xs5.length
        · have hltm : k < ys5.length := by rw [← H5.out]; exact hlt
          obtain ⟨rb, ro, rfl, _, hrb, hc⟩ := (HS5.out.later (HBW.out.mono hhi) (Nat.le_refl _)).at k hlt
          obtain ⟨rc, rp, rfl, _, hrc, hd⟩ := (HT5.out.later (HBW.out.mono hhi) (Nat.le_refl _)).at k hltm
          obtain ⟨a9, c9, a10, c10, hc0, hc1, hc2, hc3, hc4, hc5, hc6, hc7, hc8, hc9, hc10, hc11, hc12, hc13, hc14, hc15, hs9, hs10⟩ := DContribution.open hc
          obtain ⟨b9, e9, b10, e10, hd0, hd1, hd2, hd3, hd4, hd5, hd6, hd7, hd8, hd9, hd10, hd11, hd12, hd13, hd14, hd15, ht9, ht10⟩ := DContribution.open hd
          have bl2 : rc < wr.heap.size := Nat.lt_of_lt_of_le hrc (Nat.le_trans hhi HBW.out.size)
          have hzx := HZ5.out k hlt
          have hzy := HZ5'.out k hltm
          have hzx2 : DExpr.sz (xs5.getD k default).fTarget ≤ 1048576 ∧ DExpr.sz (xs5.getD k default).fValue ≤ 1048576 := by unfold DContribution.sz at hzx; omega
          have hzy2 : DExpr.sz (ys5.getD k default).fTarget ≤ 1048576 ∧ DExpr.sz (ys5.getD k default).fValue ≤ 1048576 := by unfold DContribution.sz at hzy; omega
          have HC1 := Lib.hid (fun (W : World) (hW : Below wr.heap.size wr W) => spec_EqualExpr (c0_0 := c9) (c1_0 := e9) (xs5.getD k default).fTarget (HO5.out k hlt).2.2.1 hzx2.1 (ys5.getD k default).fTarget (HO5'.out k hltm).2.2.1 hzy2.1 W (Nat.le_trans hhi (Nat.le_trans HBW.out.size hW.size)) (hs9.later (hW.mono (Nat.le_trans hhi HBW.out.size)) (Nat.le_refl _)) (ht9.later (hW.mono (Nat.le_trans hhi HBW.out.size)) (Nat.le_refl _)))
          have HC2 := Lib.hid (fun (W : World) (hW : Below wr.heap.size wr W) => spec_EqualExpr (c0_0 := c10) (c1_0 := e10) (xs5.getD k default).fValue (HO5.out k hlt).2.2.2 hzx2.2 (ys5.getD k default).fValue (HO5'.out k hltm).2.2.2 hzy2.2 W (Nat.le_trans hhi (Nat.le_trans HBW.out.size hW.size)) (hs10.later (hW.mono (Nat.le_trans hhi HBW.out.size)) (Nat.le_refl _)) (ht10.later (hW.mono (Nat.le_trans hhi HBW.out.size)) (Nat.le_refl _)))
          have HP := Lib.hid (fun h => all_step (p := fun j => eqC (xs5.getD j default) (ys5.getD j default) = true) HE.out (k := k) h)
          have HNF := Lib.hid (fun (h : eqC (xs5.getD k default) (ys5.getD k default) = false) => HN.out (fun e => by have e4 := e.2; rw [allEq_no hlt h] at e4; cases e4))
          have HQ := Lib.hid (@eqC_last (xs5.getD k default) (ys5.getD k default))
          have HQN := Lib.hid (@eqC_no (xs5.getD k default) (ys5.getD k default))
          have hr1 : wr.rangeAt rb (ro + k * 16) [.string (xs5.getD k default).fSymbol, .string (xs5.getD k default).fName, .int .i64 (xs5.getD k default).fTarget.fKind, .int .i64 (xs5.getD k default).fTarget.fN, .int .i64 (xs5.getD k default).fTarget.fPos, .int .i64 (xs5.getD k default).fTarget.fType, .string (xs5.getD k default).fTarget.fSymbol, .string (xs5.getD k default).fTarget.fName, .slice a9 (xs5.getD k default).fTarget.fArgs.length c9, .int .i64 (xs5.getD k default).fValue.fKind, .int .i64 (xs5.getD k default).fValue.fN, .int .i64 (xs5.getD k default).fValue.fPos, .int .i64 (xs5.getD k default).fValue.fType, .string (xs5.getD k default).fValue.fSymbol, .string (xs5.getD k default).fValue.fName, .slice a10 (xs5.getD k default).fValue.fArgs.length c10] := (rangeAt_cons hc0 (rangeAt_cons hc1 (rangeAt_cons hc2 (rangeAt_cons hc3 (rangeAt_cons hc4 (rangeAt_cons hc5 (rangeAt_cons hc6 (rangeAt_cons hc7 (rangeAt_cons hc8 (rangeAt_cons hc9 (rangeAt_cons hc10 (rangeAt_cons hc11 (rangeAt_cons hc12 (rangeAt_cons hc13 (rangeAt_cons hc14 (rangeAt_cons hc15 rangeAt_nil))))))))))))))))
          have hr2 : wr.rangeAt rc (rp + k * 16) [.string (ys5.getD k default).fSymbol, .string (ys5.getD k default).fName, .int .i64 (ys5.getD k default).fTarget.fKind, .int .i64 (ys5.getD k default).fTarget.fN, .int .i64 (ys5.getD k default).fTarget.fPos, .int .i64 (ys5.getD k default).fTarget.fType, .string (ys5.getD k default).fTarget.fSymbol, .string (ys5.getD k default).fTarget.fName, .slice b9 (ys5.getD k default).fTarget.fArgs.length e9, .int .i64 (ys5.getD k default).fValue.fKind, .int .i64 (ys5.getD k default).fValue.fN, .int .i64 (ys5.getD k default).fValue.fPos, .int .i64 (ys5.getD k default).fValue.fType, .string (ys5.getD k default).fValue.fSymbol, .string (ys5.getD k default).fValue.fName, .slice b10 (ys5.getD k default).fValue.fArgs.length e10] := (rangeAt_cons hd0 (rangeAt_cons hd1 (rangeAt_cons hd2 (rangeAt_cons hd3 (rangeAt_cons hd4 (rangeAt_cons hd5 (rangeAt_cons hd6 (rangeAt_cons hd7 (rangeAt_cons hd8 (rangeAt_cons hd9 (rangeAt_cons hd10 (rangeAt_cons hd11 (rangeAt_cons hd12 (rangeAt_cons hd13 (rangeAt_cons hd14 (rangeAt_cons hd15 rangeAt_nil))))))))))))))))
          clear hc hd hs9 ht9 hs10 ht10 hzx hzy hzx2 hzy2 hc0 hd0 hc1 hd1 hc2 hd2 hc3 hd3 hc4 hd4 hc5 hd5 hc6 hd6 hc7 hd7 hc8 hd8 hc9 hd9 hc10 hd10 hc11 hd11 hc12 hd12 hc13 hd13 hc14 hd14 hc15 hd15
          generalize eqC (xs5.getD k default) (ys5.getD k default) = qq at *
          unfold CondC at HQN
          generalize (xs5.getD k default).fSymbol = p1 at *
          generalize (xs5.getD k default).fName = t1 at *
          generalize (ys5.getD k default).fSymbol = p2 at *
          generalize (ys5.getD k default).fName = t2 at *
          generalize eqE (xs5.getD k default).fTarget (ys5.getD k default).fTarget = r1 at *
          generalize eqE (xs5.getD k default).fValue (ys5.getD k default).fValue = r2' at *
          generalize (xs5.getD k default).fTarget = xt at *
          generalize xt.fKind = u0 at *
          generalize xt.fN = u1 at *
          generalize xt.fPos = u2 at *
          generalize xt.fType = u3 at *
          generalize xt.fSymbol = u4 at *
          generalize xt.fName = u5 at *
          generalize xt.fArgs.length = u6 at *
          generalize (xs5.getD k default).fValue = xv at *
          generalize xv.fKind = z0 at *
          generalize xv.fN = z1 at *
          generalize xv.fPos = z2 at *
          generalize xv.fType = z3 at *
          generalize xv.fSymbol = z4 at *
          generalize xv.fName = z5 at *
          generalize xv.fArgs.length = z6 at *
          generalize (ys5.getD k default).fTarget = yt at *
          generalize yt.fKind = v0 at *
          generalize yt.fN = v1 at *
          generalize yt.fPos = v2 at *
          generalize yt.fType = v3 at *
          generalize yt.fSymbol = v4 at *
          generalize yt.fName = v5 at *
          generalize yt.fArgs.length = v6 at *
          generalize (ys5.getD k default).fValue = yv at *
          generalize yv.fKind = y0 at *
          generalize yv.fN = y1 at *
          generalize yv.fPos = y2 at *
          generalize yv.fType = y3 at *
          generalize yv.fSymbol = y4 at *
          generalize yv.fName = y5 at *
          generalize yv.fArgs.length = y6 at *
          have HSX : Hid ((Tryz.prog.info? 128).map (·.size) = some ([.string p1, .string t1, .int .i64 u0, .int .i64 u1, .int .i64 u2, .int .i64 u3, .string u4, .string u5, .slice a9 u6 c9, .int .i64 z0, .int .i64 z1, .int .i64 z2, .int .i64 z3, .string z4, .string z5, .slice a10 z6 c10] : List Value).length) := Lib.hid (by kernel_rfl)
          have HSY : Hid ((Tryz.prog.info? 128).map (·.size) = some ([.string p2, .string t2, .int .i64 v0, .int .i64 v1, .int .i64 v2, .int .i64 v3, .string v4, .string v5, .slice b9 v6 e9, .int .i64 y0, .int .i64 y1, .int .i64 y2, .int .i64 y3, .string y4, .string y5, .slice b10 y6 e10] : List Value).length) := Lib.hid (by kernel_rfl)
          have HOX : Hid (([.string p1, .string t1, .int .i64 u0, .int .i64 u1, .int .i64 u2, .int .i64 u3, .string u4, .string u5, .slice a9 u6 c9, .int .i64 z0, .int .i64 z1, .int .i64 z2, .int .i64 z3, .string z4, .string z5, .slice a10 z6 c10] : List Value).toArray.all (·.oneCell') = true) := Lib.hid (by simp [Value.oneCell'])
          have HOY : Hid (([.string p2, .string t2, .int .i64 v0, .int .i64 v1, .int .i64 v2, .int .i64 v3, .string v4, .string v5, .slice b9 v6 e9, .int .i64 y0, .int .i64 y1, .int .i64 y2, .int .i64 y3, .string y4, .string y5, .slice b10 y6 e10] : List Value).toArray.all (·.oneCell') = true) := Lib.hid (by simp [Value.oneCell'])
          have HZX : Hid (([.string p1, .string t1, .int .i64 u0, .int .i64 u1, .int .i64 u2, .int .i64 u3, .string u4, .string u5, .slice a9 u6 c9, .int .i64 z0, .int .i64 z1, .int .i64 z2, .int .i64 z3, .string z4, .string z5, .slice a10 z6 c10] : List Value).length = 16) := Lib.hid rfl
          have HZY : Hid (([.string p2, .string t2, .int .i64 v0, .int .i64 v1, .int .i64 v2, .int .i64 v3, .string v4, .string v5, .slice b9 v6 e9, .int .i64 y0, .int .i64 y1, .int .i64 y2, .int .i64 y3, .string y4, .string y5, .slice b10 y6 e10] : List Value).length = 16) := Lib.hid rfl
          obtain ⟨X, hX⟩ : ∃ X, X = ([.string p1, .string t1, .int .i64 u0, .int .i64 u1, .int .i64 u2, .int .i64 u3, .string u4, .string u5, .slice a9 u6 c9, .int .i64 z0, .int .i64 z1, .int .i64 z2, .int .i64 z3, .string z4, .string z5, .slice a10 z6 c10] : List Value) := ⟨_, rfl⟩
          obtain ⟨Y, hY⟩ : ∃ Y, Y = ([.string p2, .string t2, .int .i64 v0, .int .i64 v1, .int .i64 v2, .int .i64 v3, .string v4, .string v5, .slice b9 v6 e9, .int .i64 y0, .int .i64 y1, .int .i64 y2, .int .i64 y3, .string y4, .string y5, .slice b10 y6 e10] : List Value) := ⟨_, rfl⟩
          rw [← hX] at HSX HOX HZX hr1
          rw [← hY] at HSY HOY HZY hr2
          have hr2' : ∀ o, (wr.alloc o).rangeAt rc (rp + k * 16) Y := fun o j v hv => (((Below.refl wr.heap.size wr).alloc (Nat.le_refl _) o).cell (p := ⟨rc, rp + k * 16 + j, none⟩) bl2).trans (hr2 j v hv)
          clear hr2
          obtain ⟨W3, hW3⟩ : ∃ W3, (wr.alloc (.cells X.toArray 128)).alloc (.cells Y.toArray 128) = W3 := ⟨_, rfl⟩
          have HW3 := Lib.hid hW3
          have HB3 := Lib.hid (show Below wr.heap.size wr W3 from by rw [← hW3]; exact ((Below.refl wr.heap.size wr).alloc (Nat.le_refl _) (.cells X.toArray 128)).alloc (by simp) (.cells Y.toArray 128))
          have hg1 : W3.heap[wr.heap.size]? = some (.cells X.toArray 128) := by rw [← hW3]; exact blk_alloc (by simp) (blk_new rfl)
          have hg2 : W3.heap[wr.heap.size + 1]? = some (.cells Y.toArray 128) := by rw [← hW3]; exact blk_new (by simp)
          have hz4 : wr.heap.size + 2 ≤ W3.heap.size := by rw [← hW3]; simp
          have HHx0 := Lib.hid (show W3.cell? ⟨wr.heap.size, 0, none⟩ = some (.string p1) from rblk_cell hg1 (by rw [hX]; rfl))
          have HHx1 := Lib.hid (show W3.cell? ⟨wr.heap.size, 1, none⟩ = some (.string t1) from rblk_cell hg1 (by rw [hX]; rfl))
          have HHx2 := Lib.hid (show W3.cell? ⟨wr.heap.size, 2, none⟩ = some (.int .i64 u0) from rblk_cell hg1 (by rw [hX]; rfl))
          have HHx3 := Lib.hid (show W3.cell? ⟨wr.heap.size, 3, none⟩ = some (.int .i64 u1) from rblk_cell hg1 (by rw [hX]; rfl))
          have HHx4 := Lib.hid (show W3.cell? ⟨wr.heap.size, 4, none⟩ = some (.int .i64 u2) from rblk_cell hg1 (by rw [hX]; rfl))
          have HHx5 := Lib.hid (show W3.cell? ⟨wr.heap.size, 5, none⟩ = some (.int .i64 u3) from rblk_cell hg1 (by rw [hX]; rfl))
          have HHx6 := Lib.hid (show W3.cell? ⟨wr.heap.size, 6, none⟩ = some (.string u4) from rblk_cell hg1 (by rw [hX]; rfl))
          have HHx7 := Lib.hid (show W3.cell? ⟨wr.heap.size, 7, none⟩ = some (.string u5) from rblk_cell hg1 (by rw [hX]; rfl))
          have HHx8 := Lib.hid (show W3.cell? ⟨wr.heap.size, 8, none⟩ = some (.slice a9 u6 c9) from rblk_cell hg1 (by rw [hX]; rfl))
          have HHx9 := Lib.hid (show W3.cell? ⟨wr.heap.size, 9, none⟩ = some (.int .i64 z0) from rblk_cell hg1 (by rw [hX]; rfl))
          have HHx10 := Lib.hid (show W3.cell? ⟨wr.heap.size, 10, none⟩ = some (.int .i64 z1) from rblk_cell hg1 (by rw [hX]; rfl))
          have HHx11 := Lib.hid (show W3.cell? ⟨wr.heap.size, 11, none⟩ = some (.int .i64 z2) from rblk_cell hg1 (by rw [hX]; rfl))
          have HHx12 := Lib.hid (show W3.cell? ⟨wr.heap.size, 12, none⟩ = some (.int .i64 z3) from rblk_cell hg1 (by rw [hX]; rfl))
          have HHx13 := Lib.hid (show W3.cell? ⟨wr.heap.size, 13, none⟩ = some (.string z4) from rblk_cell hg1 (by rw [hX]; rfl))
          have HHx14 := Lib.hid (show W3.cell? ⟨wr.heap.size, 14, none⟩ = some (.string z5) from rblk_cell hg1 (by rw [hX]; rfl))
          have HHx15 := Lib.hid (show W3.cell? ⟨wr.heap.size, 15, none⟩ = some (.slice a10 z6 c10) from rblk_cell hg1 (by rw [hX]; rfl))
          have HHy0 := Lib.hid (show W3.cell? ⟨wr.heap.size + 1, 0, none⟩ = some (.string p2) from rblk_cell hg2 (by rw [hY]; rfl))
          have HHy1 := Lib.hid (show W3.cell? ⟨wr.heap.size + 1, 1, none⟩ = some (.string t2) from rblk_cell hg2 (by rw [hY]; rfl))
          have HHy2 := Lib.hid (show W3.cell? ⟨wr.heap.size + 1, 2, none⟩ = some (.int .i64 v0) from rblk_cell hg2 (by rw [hY]; rfl))
          have HHy3 := Lib.hid (show W3.cell? ⟨wr.heap.size + 1, 3, none⟩ = some (.int .i64 v1) from rblk_cell hg2 (by rw [hY]; rfl))
          have HHy4 := Lib.hid (show W3.cell? ⟨wr.heap.size + 1, 4, none⟩ = some (.int .i64 v2) from rblk_cell hg2 (by rw [hY]; rfl))
          have HHy5 := Lib.hid (show W3.cell? ⟨wr.heap.size + 1, 5, none⟩ = some (.int .i64 v3) from rblk_cell hg2 (by rw [hY]; rfl))
          have HHy6 := Lib.hid (show W3.cell? ⟨wr.heap.size + 1, 6, none⟩ = some (.string v4) from rblk_cell hg2 (by rw [hY]; rfl))
          have HHy7 := Lib.hid (show W3.cell? ⟨wr.heap.size + 1, 7, none⟩ = some (.string v5) from rblk_cell hg2 (by rw [hY]; rfl))
          have HHy8 := Lib.hid (show W3.cell? ⟨wr.heap.size + 1, 8, none⟩ = some (.slice b9 v6 e9) from rblk_cell hg2 (by rw [hY]; rfl))
          have HHy9 := Lib.hid (show W3.cell? ⟨wr.heap.size + 1, 9, none⟩ = some (.int .i64 y0) from rblk_cell hg2 (by rw [hY]; rfl))
          have HHy10 := Lib.hid (show W3.cell? ⟨wr.heap.size + 1, 10, none⟩ = some (.int .i64 y1) from rblk_cell hg2 (by rw [hY]; rfl))
          have HHy11 := Lib.hid (show W3.cell? ⟨wr.heap.size + 1, 11, none⟩ = some (.int .i64 y2) from rblk_cell hg2 (by rw [hY]; rfl))
          have HHy12 := Lib.hid (show W3.cell? ⟨wr.heap.size + 1, 12, none⟩ = some (.int .i64 y3) from rblk_cell hg2 (by rw [hY]; rfl))
          have HHy13 := Lib.hid (show W3.cell? ⟨wr.heap.size + 1, 13, none⟩ = some (.string y4) from rblk_cell hg2 (by rw [hY]; rfl))
          have HHy14 := Lib.hid (show W3.cell? ⟨wr.heap.size + 1, 14, none⟩ = some (.string y5) from rblk_cell hg2 (by rw [hY]; rfl))
          have HHy15 := Lib.hid (show W3.cell? ⟨wr.heap.size + 1, 15, none⟩ = some (.slice b10 y6 e10) from rblk_cell hg2 (by rw [hY]; rfl))
          clear hg1 hg2 hW3 hX hY
          have HR1 := Lib.hid hr1
          have HR2 := Lib.hid hr2'
          have pY5' : (wr.alloc (.cells X.toArray 128)).cell? ⟨w.heap.size + 1, 5, none⟩ = some (.slice (some ⟨rc, rp, none⟩) ys5.length c1_2) := (((Below.refl wr.heap.size wr).alloc (Nat.le_refl _) _).cell (p := ⟨w.heap.size + 1, 5, none⟩) (by show w.heap.size + 1 < _; omega)).trans pY5
          clear hr1 hr2'
          by_cases g0 : p1 = p2
          rotate_left
          · have fin := Lib.hid (HNF.out (HQN.out (fun e => g0 e.1)))
            have e1 : (p1.toList == p2.toList) = false := ne_str g0
            clear g0 HQ HQN HP HNF HC1 HC2
            go_wp2_with (first
              | (refine wpList_load_mid rfl 128 (.tmp 100) rfl rb (ro + k * 16) rfl X _ HR1.out Tryz.underlying128 rfl HSX.out ?_)
              | (refine wpList_store_rowTo rfl 128 (.tmp 7) (.tmp 101) rfl rfl wr.heap.size X.toArray rfl rfl 128 _ (blk_new rfl) HSX.out HZX.out.symm HOX.out ?_; rw [setRow_new rfl])
              | (refine wpList_load_mid rfl 128 (.tmp 105) rfl rc (rp + k * 16) rfl Y _ (HR2.out _) Tryz.underlying128 rfl HSY.out ?_)
              | (refine wpList_store_rowTo rfl 128 (.tmp 8) (.tmp 106) rfl rfl (wr.heap.size + 1) Y.toArray rfl rfl 128 _ (blk_new (by simp)) HSY.out HZY.out.symm HOY.out ?_; rw [setRow_new (by simp)]; rw [HW3.out]; refine Stop.of ?_))
            refine Stop.to ?_
            have qx0 := HHx0.out
            have qy0 := HHy0.out
            go_wp2
            go_ret
            exact ⟨ret_b fin.out.symm, HBW.out.trans (HB3.out.mono HBW.out.size)⟩
          subst g0
          by_cases g1 : t1 = t2
          rotate_left
          · have fin := Lib.hid (HNF.out (HQN.out (fun e => g1 e.2.1)))
            have e1 : (t1.toList == t2.toList) = false := ne_str g1
            clear g1 HQ HQN HP HNF HC1 HC2
            go_wp2_with (first
              | (refine wpList_load_mid rfl 128 (.tmp 100) rfl rb (ro + k * 16) rfl X _ HR1.out Tryz.underlying128 rfl HSX.out ?_)
              | (refine wpList_store_rowTo rfl 128 (.tmp 7) (.tmp 101) rfl rfl wr.heap.size X.toArray rfl rfl 128 _ (blk_new rfl) HSX.out HZX.out.symm HOX.out ?_; rw [setRow_new rfl])
              | (refine wpList_load_mid rfl 128 (.tmp 105) rfl rc (rp + k * 16) rfl Y _ (HR2.out _) Tryz.underlying128 rfl HSY.out ?_)
              | (refine wpList_store_rowTo rfl 128 (.tmp 8) (.tmp 106) rfl rfl (wr.heap.size + 1) Y.toArray rfl rfl 128 _ (blk_new (by simp)) HSY.out HZY.out.symm HOY.out ?_; rw [setRow_new (by simp)]; rw [HW3.out]; refine Stop.of ?_))
            refine Stop.to ?_
            have qx0 := HHx0.out
            have qx1 := HHx1.out
            have qy0 := HHy0.out
            have qy1 := HHy1.out
            go_wp2
            go_ret
            exact ⟨ret_b fin.out.symm, HBW.out.trans (HB3.out.mono HBW.out.size)⟩
          subst g1
          have HQ1 := Lib.hid (HQ.out rfl rfl)
          clear HQ
          go_wp2_with (first
            | (refine wpList_load_mid rfl 128 (.tmp 100) rfl rb (ro + k * 16) rfl X _ HR1.out Tryz.underlying128 rfl HSX.out ?_)
            | (refine wpList_store_rowTo rfl 128 (.tmp 7) (.tmp 101) rfl rfl wr.heap.size X.toArray rfl rfl 128 _ (blk_new rfl) HSX.out HZX.out.symm HOX.out ?_; rw [setRow_new rfl])
            | (refine wpList_load_mid rfl 128 (.tmp 105) rfl rc (rp + k * 16) rfl Y _ (HR2.out _) Tryz.underlying128 rfl HSY.out ?_)
            | (refine wpList_store_rowTo rfl 128 (.tmp 8) (.tmp 106) rfl rfl (wr.heap.size + 1) Y.toArray rfl rfl 128 _ (blk_new (by simp)) HSY.out HZY.out.symm HOY.out ?_; rw [setRow_new (by simp)]; rw [HW3.out]; refine Stop.of ?_))
          refine Stop.to ?_
          have qx0 := HHx0.out
          have qx1 := HHx1.out
          have qx2 := HHx2.out
          have qx3 := HHx3.out
          have qx4 := HHx4.out
          have qx5 := HHx5.out
          have qx6 := HHx6.out
          have qx7 := HHx7.out
          have qx8 := HHx8.out
          have qy0 := HHy0.out
          have qy1 := HHy1.out
          have qy2 := HHy2.out
          have qy3 := HHy3.out
          have qy4 := HHy4.out
          have qy5 := HHy5.out
          have qy6 := HHy6.out
          have qy7 := HHy7.out
          have qy8 := HHy8.out
          go_wp2_with fail
          refine (HC1.out _ HB3.out).mono ?_
          rintro e w4 ⟨rfl, hb4⟩
          have ox9 : w4.cell? ⟨wr.heap.size, 9, none⟩ = some (.int .i64 z0) := (hb4.cell (p := ⟨wr.heap.size, 9, none⟩) (by show wr.heap.size < _; omega)).trans HHx9.out
          have ox10 : w4.cell? ⟨wr.heap.size, 10, none⟩ = some (.int .i64 z1) := (hb4.cell (p := ⟨wr.heap.size, 10, none⟩) (by show wr.heap.size < _; omega)).trans HHx10.out
          have ox11 : w4.cell? ⟨wr.heap.size, 11, none⟩ = some (.int .i64 z2) := (hb4.cell (p := ⟨wr.heap.size, 11, none⟩) (by show wr.heap.size < _; omega)).trans HHx11.out
          have ox12 : w4.cell? ⟨wr.heap.size, 12, none⟩ = some (.int .i64 z3) := (hb4.cell (p := ⟨wr.heap.size, 12, none⟩) (by show wr.heap.size < _; omega)).trans HHx12.out
          have ox13 : w4.cell? ⟨wr.heap.size, 13, none⟩ = some (.string z4) := (hb4.cell (p := ⟨wr.heap.size, 13, none⟩) (by show wr.heap.size < _; omega)).trans HHx13.out
          have ox14 : w4.cell? ⟨wr.heap.size, 14, none⟩ = some (.string z5) := (hb4.cell (p := ⟨wr.heap.size, 14, none⟩) (by show wr.heap.size < _; omega)).trans HHx14.out
          have ox15 : w4.cell? ⟨wr.heap.size, 15, none⟩ = some (.slice a10 z6 c10) := (hb4.cell (p := ⟨wr.heap.size, 15, none⟩) (by show wr.heap.size < _; omega)).trans HHx15.out
          have oy9 : w4.cell? ⟨wr.heap.size + 1, 9, none⟩ = some (.int .i64 y0) := (hb4.cell (p := ⟨wr.heap.size + 1, 9, none⟩) (by show wr.heap.size + 1 < _; omega)).trans HHy9.out
          have oy10 : w4.cell? ⟨wr.heap.size + 1, 10, none⟩ = some (.int .i64 y1) := (hb4.cell (p := ⟨wr.heap.size + 1, 10, none⟩) (by show wr.heap.size + 1 < _; omega)).trans HHy10.out
          have oy11 : w4.cell? ⟨wr.heap.size + 1, 11, none⟩ = some (.int .i64 y2) := (hb4.cell (p := ⟨wr.heap.size + 1, 11, none⟩) (by show wr.heap.size + 1 < _; omega)).trans HHy11.out
          have oy12 : w4.cell? ⟨wr.heap.size + 1, 12, none⟩ = some (.int .i64 y3) := (hb4.cell (p := ⟨wr.heap.size + 1, 12, none⟩) (by show wr.heap.size + 1 < _; omega)).trans HHy12.out
          have oy13 : w4.cell? ⟨wr.heap.size + 1, 13, none⟩ = some (.string y4) := (hb4.cell (p := ⟨wr.heap.size + 1, 13, none⟩) (by show wr.heap.size + 1 < _; omega)).trans HHy13.out
          have oy14 : w4.cell? ⟨wr.heap.size + 1, 14, none⟩ = some (.string y5) := (hb4.cell (p := ⟨wr.heap.size + 1, 14, none⟩) (by show wr.heap.size + 1 < _; omega)).trans HHy14.out
          have oy15 : w4.cell? ⟨wr.heap.size + 1, 15, none⟩ = some (.slice b10 y6 e10) := (hb4.cell (p := ⟨wr.heap.size + 1, 15, none⟩) (by show wr.heap.size + 1 < _; omega)).trans HHy15.out
          clear qx0 qx1 qx2 qx3 qx4 qx5 qx6 qx7 qx8 qy0 qy1 qy2 qy3 qy4 qy5 qy6 qy7 qy8
          have HB4 := Lib.hid (HB3.out.trans (hb4.mono HB3.out.size))
          clear hb4
          cases hr1 : r1
          · have fin := Lib.hid (HNF.out (HQN.out (fun e => by have e3 := e.2.2.1; rw [hr1] at e3; cases e3)))
            clear HQ1 HQN HP HNF HC1 HC2 hr1
            go_wp2
            go_ret
            exact ⟨ret_b fin.out.symm, HBW.out.trans (HB4.out.mono HBW.out.size)⟩
          have HQ2 := Lib.hid (HQ1.out hr1)
          clear HQ1 HQN hr1
          go_wp2_with fail
          refine (HC2.out _ HB4.out).mono ?_
          rintro e w5 ⟨rfl, hb5⟩
          have HB5 := Lib.hid (HB4.out.trans (hb5.mono HB4.out.size))
          clear hb5
          cases hr2 : r2'
          · have fin := Lib.hid (HNF.out (HQ2.out.trans hr2))
            clear HP HNF HQ2 hr2
            go_wp2
            go_ret
            exact ⟨ret_b fin.out.symm, HBW.out.trans (HB5.out.mono HBW.out.size)⟩
          · have HP2 := Lib.hid (HP.out (HQ2.out.trans hr2))
            clear HP HNF HQ2 hr2
            go_wp2
            go_roundw
            case rel => exact ⟨k + 1, by omega, by go_num, HP2.out, HBL.out.trans (HB5.out.mono HBL.out.size)⟩
            case measure => simp [intOf]; omega
        · obtain rfl : k = xs5.length := by omega
          have HA5 := Lib.hid (allEq_yes H5.out HE.out)
          have fin := Lib.hid (HY.out ⟨HA4.out, HA5.out⟩)
          go_wp2
          go_ret
          exact ⟨ret_b fin.out.symm, HBW.out⟩
end Go.Proofs.YtjhgifpnpkcaoaaGreat
