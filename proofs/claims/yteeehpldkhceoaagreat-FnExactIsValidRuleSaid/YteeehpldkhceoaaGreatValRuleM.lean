/-
  IsValidRule of the program.
-/
import Derived.Test.YteeehpldkhceoaaGreatValRuleI
namespace Go.Proofs.YteeehpldkhceoaaGreat
open Go.ChangeShapes Go.WideShapes Go.ChangeAt Go.RowKit Go.Deep

set_option maxHeartbeats 6400000 in
set_option maxRecDepth 100000 in
theorem impl_IsValidRule {hi : Nat} {a2 a4 a5 : Option Addr} {c0_0 c0_1 c0_2 : Nat} (r : DRule) (hok : r.ok) (hsz : r.sz ≤ 1048576) (w : World) (hhi : hi ≤ w.heap.size) (hs2 : Sf 0 hi w 1 r.fRight.length (fun k => ictS (r.fRight.getD k default)) a2) (hs4 : Sf 0 hi w 9 r.fEquations.length (fun k => DEquation.ct (r.fEquations.getD k default)) a4) (hs5 : Sf 0 hi w 16 r.fContributions.length (fun k => DContribution.ct (r.fContributions.getD k default)) a5) :
    Calls Tryz.prog 7 #[.agg #[.string r.fName, .string r.fLeft, .slice a2 r.fRight.length c0_0, .bool r.fLiteral, .slice a4 r.fEquations.length c0_1, .slice a5 r.fContributions.length c0_2]] w fun e w' => e = .returned (.bool (ruleOk r)) ∧ Below w.heap.size w w' := by
  have hz1 : r.fName.size ≤ 1048576 := by unfold DRule.sz at hsz; omega
  have hz2 : r.fLeft.size ≤ 1048576 := by unfold DRule.sz at hsz; omega
  have hzr : lsz ByteArray.size r.fRight ≤ 1048576 := by unfold DRule.sz at hsz; omega
  have hze : lsz DEquation.sz r.fEquations ≤ 1048576 := by unfold DRule.sz at hsz; omega
  have hzc : lsz DContribution.sz r.fContributions ≤ 1048576 := by unfold DRule.sz at hsz; omega
  have hn : r.fRight.length ≤ 1048576 := by unfold lsz at hzr; omega
  have hne : r.fEquations.length ≤ 1048577 := by unfold lsz at hze; omega
  have hnc : r.fContributions.length ≤ 1048577 := by unfold lsz at hzc; omega
  have H0 := Lib.hid (fun (W : World) (_ : Below w.heap.size w W) => impl_IsValidName r.fName hz1 W)
  have H1 := Lib.hid (fun (W : World) (_ : Below w.heap.size w W) => impl_IsValidName r.fLeft hz2 W)
  have H2 := Lib.hid (fun (W : World) (hW : Below w.heap.size w W) => allValid_names (c := c0_0) validName r.fRight (by omega) W (Nat.le_trans hhi hW.size) (hs2.later hW hhi) (fun k hk W2 _ => impl_IsValidName _ (Nat.le_trans (szle_at (f := ByteArray.size) r.fRight k hk) hzr) W2))
  have H3 := Lib.hid (fun (W : World) (hW : Below w.heap.size w W) (hb : W.heap[w.heap.size]? = some (.cells #[.string r.fName, .string r.fLeft, .slice a2 r.fRight.length c0_0, .bool r.fLiteral, .slice a4 r.fEquations.length c0_1, .slice a5 r.fContributions.length c0_2] 32)) (hbl : w.heap.size < W.heap.size) => allValid_eqs (c := c0_1) (eqOk r) w.heap.size r.fEquations hne W (Nat.le_trans hhi hW.size) (hs4.later hW hhi) (fun k hk a8 c8 W2 hW2 hs8 => impl_IsValidRule1 (a2 := a2) (a4 := a4) (a5 := a5) (c2 := c0_0) (c4 := c0_1) (c5 := c0_2) r hn _ (hok.2.2.2.2.1.at hk) (Nat.le_trans (szle_at (f := DEquation.sz) r.fEquations k hk) hze) w.heap.size W2 ((hW2.block _ hbl).trans hb) (Nat.lt_of_lt_of_le hbl hW2.size) (Nat.le_trans (Nat.le_trans hhi hW.size) hW2.size) hs8))
  have H4 := Lib.hid (fun (W : World) (hW : Below w.heap.size w W) (hb : W.heap[w.heap.size]? = some (.cells #[.string r.fName, .string r.fLeft, .slice a2 r.fRight.length c0_0, .bool r.fLiteral, .slice a4 r.fEquations.length c0_1, .slice a5 r.fContributions.length c0_2] 32)) (hbl : w.heap.size < W.heap.size) => allValid_cons (c := c0_2) (coOk r) w.heap.size r.fContributions hnc W (Nat.le_trans hhi hW.size) (hs5.later hW hhi) (fun k hk a8 c8 a15 c15 W2 hW2 hs8 hs15 => impl_IsValidRule2 (a2 := a2) (a4 := a4) (a5 := a5) (c2 := c0_0) (c4 := c0_1) (c5 := c0_2) r hn _ (hok.2.2.2.2.2.at hk) (Nat.le_trans (szle_at (f := DContribution.sz) r.fContributions k hk) hzc) w.heap.size W2 ((hW2.block _ hbl).trans hb) (Nat.lt_of_lt_of_le hbl hW2.size) (Nat.le_trans (Nat.le_trans hhi hW.size) hW2.size) hs8 hs15))
  unfold ruleOk
  clear hs2 hs4 hs5 hz1 hz2 hzr hze hzc hok hsz
  generalize r.fContributions.all (coOk r) = v4 at *
  generalize r.fEquations.all (eqOk r) = v3 at *
  generalize r.fRight.all validName = v2 at *
  generalize validName r.fLeft = v1 at *
  generalize validName r.fName = v0 at *
  rcases (by omega : 3 < r.fRight.length ∨ (r.fRight.length ≤ 3 ∧ 2 < r.fContributions.length) ∨ (r.fRight.length ≤ 3 ∧ r.fContributions.length ≤ 2)) with h3 | ⟨h3, h2⟩ | ⟨h3, h2⟩
  · rw [decide_eq_false (p := r.fRight.length ≤ 3) (by omega), Bool.and_false, Bool.false_and, Bool.false_and, Bool.false_and, Bool.false_and]
    have q3 : (3 : Int) < (r.fRight.length : Int) := by omega
    clear h3
    have B0 := Lib.hid (show Below w.heap.size w (World.alloc w (.cells #[.string r.fName, .string r.fLeft, .slice a2 r.fRight.length c0_0, .bool r.fLiteral, .slice a4 r.fEquations.length c0_1, .slice a5 r.fContributions.length c0_2] 32)) from ((Below.refl w.heap.size w).alloc (Nat.le_refl _) (.cells #[.string r.fName, .string r.fLeft, .slice a2 r.fRight.length c0_0, .bool r.fLiteral, .slice a4 r.fEquations.length c0_1, .slice a5 r.fContributions.length c0_2] 32)))
    have S0 := Lib.hid (show (World.alloc w (.cells #[.string r.fName, .string r.fLeft, .slice a2 r.fRight.length c0_0, .bool r.fLiteral, .slice a4 r.fEquations.length c0_1, .slice a5 r.fContributions.length c0_2] 32)).heap.size = w.heap.size + 1 by simp)
    have X0_0 := Lib.hid (show (World.alloc w (.cells #[.string r.fName, .string r.fLeft, .slice a2 r.fRight.length c0_0, .bool r.fLiteral, .slice a4 r.fEquations.length c0_1, .slice a5 r.fContributions.length c0_2] 32)).heap[w.heap.size]? = some (.cells #[.string r.fName, .string r.fLeft, .slice a2 r.fRight.length c0_0, .bool r.fLiteral, .slice a4 r.fEquations.length c0_1, .slice a5 r.fContributions.length c0_2] 32) from (blk_new (by simp)))
    go_enter Tryz.func7, Tryz.ntmps7
    go_wp2_with fail
    refine (H0.out _ B0.out).mono ?_
    rintro e w1 ⟨rfl, hb1⟩
    have B1 := Lib.hid (B0.out.trans (hb1.mono B0.out.size))
    have S1 := Lib.hid (show w.heap.size + 1 ≤ w1.heap.size from Nat.le_trans (by rw [S0.out]; exact Nat.le_refl _) hb1.size)
    have X1_0 := Lib.hid ((hb1.block (w.heap.size) (by have := S0.out; omega)).trans X0_0.out)
    clear hb1
    cases v0
    · go_wp2
      go_ret
      exact ⟨rfl, B1.out⟩
    · skip
      have y1_0_0 := pblk_cell (j := 0) (v := .string r.fName) X1_0.out rfl
      have y1_0_1 := pblk_cell (j := 1) (v := .string r.fLeft) X1_0.out rfl
      have y1_0_2 := pblk_cell (j := 2) (v := .slice a2 r.fRight.length c0_0) X1_0.out rfl
      have y1_0_3 := pblk_cell (j := 3) (v := .bool r.fLiteral) X1_0.out rfl
      have y1_0_4 := pblk_cell (j := 4) (v := .slice a4 r.fEquations.length c0_1) X1_0.out rfl
      have y1_0_5 := pblk_cell (j := 5) (v := .slice a5 r.fContributions.length c0_2) X1_0.out rfl
      go_wp2_with fail
      refine (H1.out _ B1.out).mono ?_
      rintro e w2 ⟨rfl, hb2⟩
      clear y1_0_0 y1_0_1 y1_0_2 y1_0_3 y1_0_4 y1_0_5
      have B2 := Lib.hid (B1.out.trans (hb2.mono B1.out.size))
      have S2 := Lib.hid (show w.heap.size + 1 ≤ w2.heap.size from Nat.le_trans S1.out hb2.size)
      have X2_0 := Lib.hid ((hb2.block (w.heap.size) (by have := S1.out; omega)).trans X1_0.out)
      clear hb2
      have y2_0_0 := pblk_cell (j := 0) (v := .string r.fName) X2_0.out rfl
      have y2_0_1 := pblk_cell (j := 1) (v := .string r.fLeft) X2_0.out rfl
      have y2_0_2 := pblk_cell (j := 2) (v := .slice a2 r.fRight.length c0_0) X2_0.out rfl
      have y2_0_3 := pblk_cell (j := 3) (v := .bool r.fLiteral) X2_0.out rfl
      have y2_0_4 := pblk_cell (j := 4) (v := .slice a4 r.fEquations.length c0_1) X2_0.out rfl
      have y2_0_5 := pblk_cell (j := 5) (v := .slice a5 r.fContributions.length c0_2) X2_0.out rfl
      cases v1
      · go_wp2
        go_ret
        exact ⟨rfl, B2.out⟩
      · go_wp2
        go_ret
        exact ⟨rfl, B2.out⟩
  · rw [decide_eq_false (p := r.fContributions.length ≤ 2) (by omega), Bool.and_false, Bool.false_and, Bool.false_and, Bool.false_and]
    have q3 : (r.fRight.length : Int) ≤ 3 := by omega
    have q2 : (2 : Int) < (r.fContributions.length : Int) := by omega
    clear h3 h2
    have B0 := Lib.hid (show Below w.heap.size w (World.alloc w (.cells #[.string r.fName, .string r.fLeft, .slice a2 r.fRight.length c0_0, .bool r.fLiteral, .slice a4 r.fEquations.length c0_1, .slice a5 r.fContributions.length c0_2] 32)) from ((Below.refl w.heap.size w).alloc (Nat.le_refl _) (.cells #[.string r.fName, .string r.fLeft, .slice a2 r.fRight.length c0_0, .bool r.fLiteral, .slice a4 r.fEquations.length c0_1, .slice a5 r.fContributions.length c0_2] 32)))
    have S0 := Lib.hid (show (World.alloc w (.cells #[.string r.fName, .string r.fLeft, .slice a2 r.fRight.length c0_0, .bool r.fLiteral, .slice a4 r.fEquations.length c0_1, .slice a5 r.fContributions.length c0_2] 32)).heap.size = w.heap.size + 1 by simp)
    have X0_0 := Lib.hid (show (World.alloc w (.cells #[.string r.fName, .string r.fLeft, .slice a2 r.fRight.length c0_0, .bool r.fLiteral, .slice a4 r.fEquations.length c0_1, .slice a5 r.fContributions.length c0_2] 32)).heap[w.heap.size]? = some (.cells #[.string r.fName, .string r.fLeft, .slice a2 r.fRight.length c0_0, .bool r.fLiteral, .slice a4 r.fEquations.length c0_1, .slice a5 r.fContributions.length c0_2] 32) from (blk_new (by simp)))
    go_enter Tryz.func7, Tryz.ntmps7
    go_wp2_with fail
    refine (H0.out _ B0.out).mono ?_
    rintro e w1 ⟨rfl, hb1⟩
    have B1 := Lib.hid (B0.out.trans (hb1.mono B0.out.size))
    have S1 := Lib.hid (show w.heap.size + 1 ≤ w1.heap.size from Nat.le_trans (by rw [S0.out]; exact Nat.le_refl _) hb1.size)
    have X1_0 := Lib.hid ((hb1.block (w.heap.size) (by have := S0.out; omega)).trans X0_0.out)
    clear hb1
    cases v0
    · go_wp2
      go_ret
      exact ⟨rfl, B1.out⟩
    · skip
      have y1_0_0 := pblk_cell (j := 0) (v := .string r.fName) X1_0.out rfl
      have y1_0_1 := pblk_cell (j := 1) (v := .string r.fLeft) X1_0.out rfl
      have y1_0_2 := pblk_cell (j := 2) (v := .slice a2 r.fRight.length c0_0) X1_0.out rfl
      have y1_0_3 := pblk_cell (j := 3) (v := .bool r.fLiteral) X1_0.out rfl
      have y1_0_4 := pblk_cell (j := 4) (v := .slice a4 r.fEquations.length c0_1) X1_0.out rfl
      have y1_0_5 := pblk_cell (j := 5) (v := .slice a5 r.fContributions.length c0_2) X1_0.out rfl
      go_wp2_with fail
      refine (H1.out _ B1.out).mono ?_
      rintro e w2 ⟨rfl, hb2⟩
      clear y1_0_0 y1_0_1 y1_0_2 y1_0_3 y1_0_4 y1_0_5
      have B2 := Lib.hid (B1.out.trans (hb2.mono B1.out.size))
      have S2 := Lib.hid (show w.heap.size + 1 ≤ w2.heap.size from Nat.le_trans S1.out hb2.size)
      have X2_0 := Lib.hid ((hb2.block (w.heap.size) (by have := S1.out; omega)).trans X1_0.out)
      clear hb2
      have y2_0_0 := pblk_cell (j := 0) (v := .string r.fName) X2_0.out rfl
      have y2_0_1 := pblk_cell (j := 1) (v := .string r.fLeft) X2_0.out rfl
      have y2_0_2 := pblk_cell (j := 2) (v := .slice a2 r.fRight.length c0_0) X2_0.out rfl
      have y2_0_3 := pblk_cell (j := 3) (v := .bool r.fLiteral) X2_0.out rfl
      have y2_0_4 := pblk_cell (j := 4) (v := .slice a4 r.fEquations.length c0_1) X2_0.out rfl
      have y2_0_5 := pblk_cell (j := 5) (v := .slice a5 r.fContributions.length c0_2) X2_0.out rfl
      cases v1
      · go_wp2
        go_ret
        exact ⟨rfl, B2.out⟩
      · go_wp2
        go_ret
        exact ⟨rfl, B2.out⟩
  · rw [decide_eq_true h3, decide_eq_true h2]
    have q3 : (r.fRight.length : Int) ≤ 3 := by omega
    have q2 : (r.fContributions.length : Int) ≤ 2 := by omega
    clear h3 h2
    have B0 := Lib.hid (show Below w.heap.size w (World.alloc w (.cells #[.string r.fName, .string r.fLeft, .slice a2 r.fRight.length c0_0, .bool r.fLiteral, .slice a4 r.fEquations.length c0_1, .slice a5 r.fContributions.length c0_2] 32)) from ((Below.refl w.heap.size w).alloc (Nat.le_refl _) (.cells #[.string r.fName, .string r.fLeft, .slice a2 r.fRight.length c0_0, .bool r.fLiteral, .slice a4 r.fEquations.length c0_1, .slice a5 r.fContributions.length c0_2] 32)))
    have S0 := Lib.hid (show (World.alloc w (.cells #[.string r.fName, .string r.fLeft, .slice a2 r.fRight.length c0_0, .bool r.fLiteral, .slice a4 r.fEquations.length c0_1, .slice a5 r.fContributions.length c0_2] 32)).heap.size = w.heap.size + 1 by simp)
    have X0_0 := Lib.hid (show (World.alloc w (.cells #[.string r.fName, .string r.fLeft, .slice a2 r.fRight.length c0_0, .bool r.fLiteral, .slice a4 r.fEquations.length c0_1, .slice a5 r.fContributions.length c0_2] 32)).heap[w.heap.size]? = some (.cells #[.string r.fName, .string r.fLeft, .slice a2 r.fRight.length c0_0, .bool r.fLiteral, .slice a4 r.fEquations.length c0_1, .slice a5 r.fContributions.length c0_2] 32) from (blk_new (by simp)))
    go_enter Tryz.func7, Tryz.ntmps7
    go_wp2_with fail
    refine (H0.out _ B0.out).mono ?_
    rintro e w1 ⟨rfl, hb1⟩
    have B1 := Lib.hid (B0.out.trans (hb1.mono B0.out.size))
    have S1 := Lib.hid (show w.heap.size + 1 ≤ w1.heap.size from Nat.le_trans (by rw [S0.out]; exact Nat.le_refl _) hb1.size)
    have X1_0 := Lib.hid ((hb1.block (w.heap.size) (by have := S0.out; omega)).trans X0_0.out)
    clear hb1
    cases v0
    · go_wp2
      go_ret
      exact ⟨rfl, B1.out⟩
    · skip
      have y1_0_0 := pblk_cell (j := 0) (v := .string r.fName) X1_0.out rfl
      have y1_0_1 := pblk_cell (j := 1) (v := .string r.fLeft) X1_0.out rfl
      have y1_0_2 := pblk_cell (j := 2) (v := .slice a2 r.fRight.length c0_0) X1_0.out rfl
      have y1_0_3 := pblk_cell (j := 3) (v := .bool r.fLiteral) X1_0.out rfl
      have y1_0_4 := pblk_cell (j := 4) (v := .slice a4 r.fEquations.length c0_1) X1_0.out rfl
      have y1_0_5 := pblk_cell (j := 5) (v := .slice a5 r.fContributions.length c0_2) X1_0.out rfl
      go_wp2_with fail
      refine (H1.out _ B1.out).mono ?_
      rintro e w2 ⟨rfl, hb2⟩
      clear y1_0_0 y1_0_1 y1_0_2 y1_0_3 y1_0_4 y1_0_5
      have B2 := Lib.hid (B1.out.trans (hb2.mono B1.out.size))
      have S2 := Lib.hid (show w.heap.size + 1 ≤ w2.heap.size from Nat.le_trans S1.out hb2.size)
      have X2_0 := Lib.hid ((hb2.block (w.heap.size) (by have := S1.out; omega)).trans X1_0.out)
      clear hb2
      cases v1
      · go_wp2
        go_ret
        exact ⟨rfl, B2.out⟩
      · skip
        have y2_0_0 := pblk_cell (j := 0) (v := .string r.fName) X2_0.out rfl
        have y2_0_1 := pblk_cell (j := 1) (v := .string r.fLeft) X2_0.out rfl
        have y2_0_2 := pblk_cell (j := 2) (v := .slice a2 r.fRight.length c0_0) X2_0.out rfl
        have y2_0_3 := pblk_cell (j := 3) (v := .bool r.fLiteral) X2_0.out rfl
        have y2_0_4 := pblk_cell (j := 4) (v := .slice a4 r.fEquations.length c0_1) X2_0.out rfl
        have y2_0_5 := pblk_cell (j := 5) (v := .slice a5 r.fContributions.length c0_2) X2_0.out rfl
        go_wp2_with fail
        refine (H2.out _ B2.out).mono ?_
        rintro e w3 ⟨rfl, hb3⟩
        clear y2_0_0 y2_0_1 y2_0_2 y2_0_3 y2_0_4 y2_0_5
        have B3 := Lib.hid (B2.out.trans (hb3.mono B2.out.size))
        have S3 := Lib.hid (show w.heap.size + 1 ≤ w3.heap.size from Nat.le_trans S2.out hb3.size)
        have X3_0 := Lib.hid ((hb3.block (w.heap.size) (by have := S2.out; omega)).trans X2_0.out)
        clear hb3
        cases v2
        · go_wp2
          go_ret
          exact ⟨rfl, B3.out⟩
        · skip
          have y3_0_0 := pblk_cell (j := 0) (v := .string r.fName) X3_0.out rfl
          have y3_0_1 := pblk_cell (j := 1) (v := .string r.fLeft) X3_0.out rfl
          have y3_0_2 := pblk_cell (j := 2) (v := .slice a2 r.fRight.length c0_0) X3_0.out rfl
          have y3_0_3 := pblk_cell (j := 3) (v := .bool r.fLiteral) X3_0.out rfl
          have y3_0_4 := pblk_cell (j := 4) (v := .slice a4 r.fEquations.length c0_1) X3_0.out rfl
          have y3_0_5 := pblk_cell (j := 5) (v := .slice a5 r.fContributions.length c0_2) X3_0.out rfl
          go_wp2_with fail
          refine (H3.out _ B3.out X3_0.out (by have := S3.out; omega)).mono ?_
          rintro e w4 ⟨rfl, hb4⟩
          clear y3_0_0 y3_0_1 y3_0_2 y3_0_3 y3_0_4 y3_0_5
          have B4 := Lib.hid (B3.out.trans (hb4.mono B3.out.size))
          have S4 := Lib.hid (show w.heap.size + 1 ≤ w4.heap.size from Nat.le_trans S3.out hb4.size)
          have X4_0 := Lib.hid ((hb4.block (w.heap.size) (by have := S3.out; omega)).trans X3_0.out)
          clear hb4
          cases v3
          · go_wp2
            go_ret
            exact ⟨rfl, B4.out⟩
          · skip
            have y4_0_0 := pblk_cell (j := 0) (v := .string r.fName) X4_0.out rfl
            have y4_0_1 := pblk_cell (j := 1) (v := .string r.fLeft) X4_0.out rfl
            have y4_0_2 := pblk_cell (j := 2) (v := .slice a2 r.fRight.length c0_0) X4_0.out rfl
            have y4_0_3 := pblk_cell (j := 3) (v := .bool r.fLiteral) X4_0.out rfl
            have y4_0_4 := pblk_cell (j := 4) (v := .slice a4 r.fEquations.length c0_1) X4_0.out rfl
            have y4_0_5 := pblk_cell (j := 5) (v := .slice a5 r.fContributions.length c0_2) X4_0.out rfl
            go_wp2_with fail
            refine (H4.out _ B4.out X4_0.out (by have := S4.out; omega)).mono ?_
            rintro e w5 ⟨rfl, hb5⟩
            clear y4_0_0 y4_0_1 y4_0_2 y4_0_3 y4_0_4 y4_0_5
            have B5 := Lib.hid (B4.out.trans (hb5.mono B4.out.size))
            have S5 := Lib.hid (show w.heap.size + 1 ≤ w5.heap.size from Nat.le_trans S4.out hb5.size)
            have X5_0 := Lib.hid ((hb5.block (w.heap.size) (by have := S4.out; omega)).trans X4_0.out)
            clear hb5
            go_wp2
            go_ret
            exact ⟨rfl, B5.out⟩
end Go.Proofs.YteeehpldkhceoaaGreat
