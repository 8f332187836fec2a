/-
  IsValidRule of the model.
-/
import Derived.Test.YteeehpldkhceoaaGreatValRuleS
import Derived.Test.YteeehpldkhceoaaGreatInR
namespace Go.Proofs.YteeehpldkhceoaaGreat
open Go.ChangeShapes Go.WideShapes Go.ChangeAt Go.RowKit Go.Deep

set_option maxHeartbeats 6400000 in
set_option maxRecDepth 100000 in
theorem spec_IsValidRule {lo hi : Nat} {a2 a4 a5 : Option Addr} {c0_0 c0_1 c0_2 : Nat} (r : DRule) (hok : r.ok) (hsz : r.sz ≤ 1048576) (w : World) (hhi : hi ≤ w.heap.size) (hs2 : Sl lo hi w 1 r.fRight.length (fun k => ictS (r.fRight.getD k default)) a2) (hs4 : Sl lo hi w 9 r.fEquations.length (fun k => DEquation.ct (r.fEquations.getD k default)) a4) (hs5 : Sl lo hi w 16 r.fContributions.length (fun k => DContribution.ct (r.fContributions.getD k default)) a5) :
    Calls Tryz.prog 5 #[.agg #[.string r.fName, .string r.fLeft, .slice a2 r.fRight.length c0_0, .bool r.fLiteral, .slice a4 r.fEquations.length c0_1, .slice a5 r.fContributions.length c0_2]] w fun e w' => e = .returned (.bool (ruleOk r)) ∧ Below w.heap.size w w' := by
  have hz1 : r.fName.size ≤ 1048576 := by unfold DRule.sz at hsz; omega
  have hz2 : r.fLeft.size ≤ 1048576 := by unfold DRule.sz at hsz; omega
  have hzr : lsz ByteArray.size r.fRight ≤ 1048576 := by unfold DRule.sz at hsz; omega
  have hze : lsz DEquation.sz r.fEquations ≤ 1048576 := by unfold DRule.sz at hsz; omega
  have hzc : lsz DContribution.sz r.fContributions ≤ 1048576 := by unfold DRule.sz at hsz; omega
  have hn : r.fRight.length ≤ 1048576 := by unfold lsz at hzr; omega
  have hne : r.fEquations.length ≤ 1048577 := by unfold lsz at hze; omega
  have hnc : r.fContributions.length ≤ 1048577 := by unfold lsz at hzc; omega
  have H0 := Lib.hid (fun (W : World) (_ : Below w.heap.size w W) => spec_IsValidName r.fName hz1 W)
  have H1 := Lib.hid (fun (W : World) (_ : Below w.heap.size w W) => spec_IsValidName r.fLeft hz2 W)
  have HNS := Lib.hid (fun k (hk : k < r.fRight.length) (W : World) => spec_IsValidName (r.fRight.getD k default) (Nat.le_trans (szle_at (f := ByteArray.size) r.fRight k hk) hzr) W)
  have HZE := Lib.hid (fun k (hk : k < r.fEquations.length) => Nat.le_trans (szle_at (f := DEquation.sz) r.fEquations k hk) hze)
  have HZC := Lib.hid (fun k (hk : k < r.fContributions.length) => Nat.le_trans (szle_at (f := DContribution.sz) r.fContributions k hk) hzc)
  have HOE := Lib.hid (fun k (hk : k < r.fEquations.length) => hok.2.2.2.2.1.at hk)
  have HOC := Lib.hid (fun k (hk : k < r.fContributions.length) => hok.2.2.2.2.2.at hk)
  have HS2 := Lib.hid hs2
  have HS4 := Lib.hid hs4
  have HS5 := Lib.hid hs5
  have R := Lib.hid (show ruleOk r = (validName r.fName && validName r.fLeft && decide (r.fRight.length ≤ 3) && decide (r.fContributions.length ≤ 2) && r.fRight.all validName && r.fEquations.all (eqOk r) && r.fContributions.all (coOk r)) from rfl)
  clear hs2 hs4 hs5 hz1 hz2 hzr hze hzc hok hsz
  generalize ruleOk r = res at *
  generalize hC : r.fContributions.all (coOk r) = C at *
  generalize hQ : r.fEquations.all (eqOk r) = Q at *
  generalize hA : r.fRight.all validName = A at *
  have HC_ := Lib.hid hC
  have HQ_ := Lib.hid hQ
  have HA_ := Lib.hid hA
  clear hC hQ hA
  generalize validName r.fLeft = v1 at *
  generalize validName r.fName = v0 at *
  rcases (by omega : 3 < r.fRight.length ∨ (r.fRight.length ≤ 3 ∧ 2 < r.fContributions.length) ∨ (r.fRight.length ≤ 3 ∧ r.fContributions.length ≤ 2)) with h3 | ⟨h3, h2⟩ | ⟨h3, h2⟩
  · rw [decide_eq_false (p := r.fRight.length ≤ 3) (by omega), Bool.and_false, Bool.false_and, Bool.false_and, Bool.false_and, Bool.false_and] at R
    have q3 : (3 : Int) < (r.fRight.length : Int) := by omega
    clear h3
    have B0 := Lib.hid (show Below w.heap.size w (World.alloc w (.cells #[.string r.fName, .string r.fLeft, .slice a2 r.fRight.length c0_0, .bool r.fLiteral, .slice a4 r.fEquations.length c0_1, .slice a5 r.fContributions.length c0_2] 32)) from ((Below.refl w.heap.size w).alloc (Nat.le_refl _) (.cells #[.string r.fName, .string r.fLeft, .slice a2 r.fRight.length c0_0, .bool r.fLiteral, .slice a4 r.fEquations.length c0_1, .slice a5 r.fContributions.length c0_2] 32)))
    have S0 := Lib.hid (show (World.alloc w (.cells #[.string r.fName, .string r.fLeft, .slice a2 r.fRight.length c0_0, .bool r.fLiteral, .slice a4 r.fEquations.length c0_1, .slice a5 r.fContributions.length c0_2] 32)).heap.size = w.heap.size + 1 by simp)
    have X0_0 := Lib.hid (show (World.alloc w (.cells #[.string r.fName, .string r.fLeft, .slice a2 r.fRight.length c0_0, .bool r.fLiteral, .slice a4 r.fEquations.length c0_1, .slice a5 r.fContributions.length c0_2] 32)).heap[w.heap.size]? = some (.cells #[.string r.fName, .string r.fLeft, .slice a2 r.fRight.length c0_0, .bool r.fLiteral, .slice a4 r.fEquations.length c0_1, .slice a5 r.fContributions.length c0_2] 32) from (blk_new (by simp)))
    go_enter Tryz.func5, Tryz.ntmps5
    go_wp2_with fail
    refine (H0.out _ B0.out).mono ?_
    rintro e w1 ⟨rfl, hb1⟩
    have B1 := Lib.hid (B0.out.trans (hb1.mono B0.out.size))
    have S1 := Lib.hid (show w.heap.size + 1 ≤ w1.heap.size from Nat.le_trans (by rw [S0.out]; exact Nat.le_refl _) hb1.size)
    have X1_0 := Lib.hid ((hb1.block (w.heap.size) (by have := S0.out; omega)).trans X0_0.out)
    clear hb1
    cases v0
    · go_wp2
      go_ret
      exact ⟨ret_b (show _ = res by simp [R.out]), B1.out⟩
    · skip
      have y1_0_0 := pblk_cell (j := 0) (v := .string r.fName) X1_0.out rfl
      have y1_0_1 := pblk_cell (j := 1) (v := .string r.fLeft) X1_0.out rfl
      have y1_0_2 := pblk_cell (j := 2) (v := .slice a2 r.fRight.length c0_0) X1_0.out rfl
      have y1_0_3 := pblk_cell (j := 3) (v := .bool r.fLiteral) X1_0.out rfl
      have y1_0_4 := pblk_cell (j := 4) (v := .slice a4 r.fEquations.length c0_1) X1_0.out rfl
      have y1_0_5 := pblk_cell (j := 5) (v := .slice a5 r.fContributions.length c0_2) X1_0.out rfl
      go_wp2_with fail
      refine (H1.out _ B1.out).mono ?_
      rintro e w2 ⟨rfl, hb2⟩
      clear y1_0_0 y1_0_1 y1_0_2 y1_0_3 y1_0_4 y1_0_5
      have B2 := Lib.hid (B1.out.trans (hb2.mono B1.out.size))
      have S2 := Lib.hid (show w.heap.size + 1 ≤ w2.heap.size from Nat.le_trans S1.out hb2.size)
      have X2_0 := Lib.hid ((hb2.block (w.heap.size) (by have := S1.out; omega)).trans X1_0.out)
      clear hb2
      have y2_0_0 := pblk_cell (j := 0) (v := .string r.fName) X2_0.out rfl
      have y2_0_1 := pblk_cell (j := 1) (v := .string r.fLeft) X2_0.out rfl
      have y2_0_2 := pblk_cell (j := 2) (v := .slice a2 r.fRight.length c0_0) X2_0.out rfl
      have y2_0_3 := pblk_cell (j := 3) (v := .bool r.fLiteral) X2_0.out rfl
      have y2_0_4 := pblk_cell (j := 4) (v := .slice a4 r.fEquations.length c0_1) X2_0.out rfl
      have y2_0_5 := pblk_cell (j := 5) (v := .slice a5 r.fContributions.length c0_2) X2_0.out rfl
      cases v1
      · go_wp2
        go_ret
        exact ⟨ret_b (show _ = res by simp [R.out]), B2.out⟩
      · go_wp2
        go_ret
        exact ⟨ret_b (show _ = res by simp [R.out]), B2.out⟩
  · rw [decide_eq_false (p := r.fContributions.length ≤ 2) (by omega), Bool.and_false, Bool.false_and, Bool.false_and, Bool.false_and] at R
    have q3 : (r.fRight.length : Int) ≤ 3 := by omega
    have q2 : (2 : Int) < (r.fContributions.length : Int) := by omega
    clear h3 h2
    have B0 := Lib.hid (show Below w.heap.size w (World.alloc w (.cells #[.string r.fName, .string r.fLeft, .slice a2 r.fRight.length c0_0, .bool r.fLiteral, .slice a4 r.fEquations.length c0_1, .slice a5 r.fContributions.length c0_2] 32)) from ((Below.refl w.heap.size w).alloc (Nat.le_refl _) (.cells #[.string r.fName, .string r.fLeft, .slice a2 r.fRight.length c0_0, .bool r.fLiteral, .slice a4 r.fEquations.length c0_1, .slice a5 r.fContributions.length c0_2] 32)))
    have S0 := Lib.hid (show (World.alloc w (.cells #[.string r.fName, .string r.fLeft, .slice a2 r.fRight.length c0_0, .bool r.fLiteral, .slice a4 r.fEquations.length c0_1, .slice a5 r.fContributions.length c0_2] 32)).heap.size = w.heap.size + 1 by simp)
    have X0_0 := Lib.hid (show (World.alloc w (.cells #[.string r.fName, .string r.fLeft, .slice a2 r.fRight.length c0_0, .bool r.fLiteral, .slice a4 r.fEquations.length c0_1, .slice a5 r.fContributions.length c0_2] 32)).heap[w.heap.size]? = some (.cells #[.string r.fName, .string r.fLeft, .slice a2 r.fRight.length c0_0, .bool r.fLiteral, .slice a4 r.fEquations.length c0_1, .slice a5 r.fContributions.length c0_2] 32) from (blk_new (by simp)))
    go_enter Tryz.func5, Tryz.ntmps5
    go_wp2_with fail
    refine (H0.out _ B0.out).mono ?_
    rintro e w1 ⟨rfl, hb1⟩
    have B1 := Lib.hid (B0.out.trans (hb1.mono B0.out.size))
    have S1 := Lib.hid (show w.heap.size + 1 ≤ w1.heap.size from Nat.le_trans (by rw [S0.out]; exact Nat.le_refl _) hb1.size)
    have X1_0 := Lib.hid ((hb1.block (w.heap.size) (by have := S0.out; omega)).trans X0_0.out)
    clear hb1
    cases v0
    · go_wp2
      go_ret
      exact ⟨ret_b (show _ = res by simp [R.out]), B1.out⟩
    · skip
      have y1_0_0 := pblk_cell (j := 0) (v := .string r.fName) X1_0.out rfl
      have y1_0_1 := pblk_cell (j := 1) (v := .string r.fLeft) X1_0.out rfl
      have y1_0_2 := pblk_cell (j := 2) (v := .slice a2 r.fRight.length c0_0) X1_0.out rfl
      have y1_0_3 := pblk_cell (j := 3) (v := .bool r.fLiteral) X1_0.out rfl
      have y1_0_4 := pblk_cell (j := 4) (v := .slice a4 r.fEquations.length c0_1) X1_0.out rfl
      have y1_0_5 := pblk_cell (j := 5) (v := .slice a5 r.fContributions.length c0_2) X1_0.out rfl
      go_wp2_with fail
      refine (H1.out _ B1.out).mono ?_
      rintro e w2 ⟨rfl, hb2⟩
      clear y1_0_0 y1_0_1 y1_0_2 y1_0_3 y1_0_4 y1_0_5
      have B2 := Lib.hid (B1.out.trans (hb2.mono B1.out.size))
      have S2 := Lib.hid (show w.heap.size + 1 ≤ w2.heap.size from Nat.le_trans S1.out hb2.size)
      have X2_0 := Lib.hid ((hb2.block (w.heap.size) (by have := S1.out; omega)).trans X1_0.out)
      clear hb2
      have y2_0_0 := pblk_cell (j := 0) (v := .string r.fName) X2_0.out rfl
      have y2_0_1 := pblk_cell (j := 1) (v := .string r.fLeft) X2_0.out rfl
      have y2_0_2 := pblk_cell (j := 2) (v := .slice a2 r.fRight.length c0_0) X2_0.out rfl
      have y2_0_3 := pblk_cell (j := 3) (v := .bool r.fLiteral) X2_0.out rfl
      have y2_0_4 := pblk_cell (j := 4) (v := .slice a4 r.fEquations.length c0_1) X2_0.out rfl
      have y2_0_5 := pblk_cell (j := 5) (v := .slice a5 r.fContributions.length c0_2) X2_0.out rfl
      cases v1
      · go_wp2
        go_ret
        exact ⟨ret_b (show _ = res by simp [R.out]), B2.out⟩
      · go_wp2
        go_ret
        exact ⟨ret_b (show _ = res by simp [R.out]), B2.out⟩
  · rw [decide_eq_true h3, decide_eq_true h2] at R
    have q3 : (r.fRight.length : Int) ≤ 3 := by omega
    have q2 : (r.fContributions.length : Int) ≤ 2 := by omega
    clear h3 h2
    have B0 := Lib.hid (show Below w.heap.size w (World.alloc w (.cells #[.string r.fName, .string r.fLeft, .slice a2 r.fRight.length c0_0, .bool r.fLiteral, .slice a4 r.fEquations.length c0_1, .slice a5 r.fContributions.length c0_2] 32)) from ((Below.refl w.heap.size w).alloc (Nat.le_refl _) (.cells #[.string r.fName, .string r.fLeft, .slice a2 r.fRight.length c0_0, .bool r.fLiteral, .slice a4 r.fEquations.length c0_1, .slice a5 r.fContributions.length c0_2] 32)))
    have S0 := Lib.hid (show (World.alloc w (.cells #[.string r.fName, .string r.fLeft, .slice a2 r.fRight.length c0_0, .bool r.fLiteral, .slice a4 r.fEquations.length c0_1, .slice a5 r.fContributions.length c0_2] 32)).heap.size = w.heap.size + 1 by simp)
    have X0_0 := Lib.hid (show (World.alloc w (.cells #[.string r.fName, .string r.fLeft, .slice a2 r.fRight.length c0_0, .bool r.fLiteral, .slice a4 r.fEquations.length c0_1, .slice a5 r.fContributions.length c0_2] 32)).heap[w.heap.size]? = some (.cells #[.string r.fName, .string r.fLeft, .slice a2 r.fRight.length c0_0, .bool r.fLiteral, .slice a4 r.fEquations.length c0_1, .slice a5 r.fContributions.length c0_2] 32) from (blk_new (by simp)))
    go_enter Tryz.func5, Tryz.ntmps5
    go_wp2_with fail
    refine (H0.out _ B0.out).mono ?_
    rintro e w1 ⟨rfl, hb1⟩
    have B1 := Lib.hid (B0.out.trans (hb1.mono B0.out.size))
    have S1 := Lib.hid (show w.heap.size + 1 ≤ w1.heap.size from Nat.le_trans (by rw [S0.out]; exact Nat.le_refl _) hb1.size)
    have X1_0 := Lib.hid ((hb1.block (w.heap.size) (by have := S0.out; omega)).trans X0_0.out)
    clear hb1
    cases v0
    · go_wp2
      go_ret
      exact ⟨ret_b (show _ = res by simp [R.out]), B1.out⟩
    · skip
      have y1_0_0 := pblk_cell (j := 0) (v := .string r.fName) X1_0.out rfl
      have y1_0_1 := pblk_cell (j := 1) (v := .string r.fLeft) X1_0.out rfl
      have y1_0_2 := pblk_cell (j := 2) (v := .slice a2 r.fRight.length c0_0) X1_0.out rfl
      have y1_0_3 := pblk_cell (j := 3) (v := .bool r.fLiteral) X1_0.out rfl
      have y1_0_4 := pblk_cell (j := 4) (v := .slice a4 r.fEquations.length c0_1) X1_0.out rfl
      have y1_0_5 := pblk_cell (j := 5) (v := .slice a5 r.fContributions.length c0_2) X1_0.out rfl
      go_wp2_with fail
      refine (H1.out _ B1.out).mono ?_
      rintro e w2 ⟨rfl, hb2⟩
      clear y1_0_0 y1_0_1 y1_0_2 y1_0_3 y1_0_4 y1_0_5
      have B2 := Lib.hid (B1.out.trans (hb2.mono B1.out.size))
      have S2 := Lib.hid (show w.heap.size + 1 ≤ w2.heap.size from Nat.le_trans S1.out hb2.size)
      have X2_0 := Lib.hid ((hb2.block (w.heap.size) (by have := S1.out; omega)).trans X1_0.out)
      clear hb2
      have y2_0_0 := pblk_cell (j := 0) (v := .string r.fName) X2_0.out rfl
      have y2_0_1 := pblk_cell (j := 1) (v := .string r.fLeft) X2_0.out rfl
      have y2_0_2 := pblk_cell (j := 2) (v := .slice a2 r.fRight.length c0_0) X2_0.out rfl
      have y2_0_3 := pblk_cell (j := 3) (v := .bool r.fLiteral) X2_0.out rfl
      have y2_0_4 := pblk_cell (j := 4) (v := .slice a4 r.fEquations.length c0_1) X2_0.out rfl
      have y2_0_5 := pblk_cell (j := 5) (v := .slice a5 r.fContributions.length c0_2) X2_0.out rfl
      cases v1
      · go_wp2
        go_ret
        exact ⟨ret_b (show _ = res by simp [R.out]), B2.out⟩
      · skip
        have p2 := pblk_cell (w := w2) (j := 2) (v := .slice a2 r.fRight.length c0_0) X2_0.out rfl
        have p4 := pblk_cell (w := w2) (j := 4) (v := .slice a4 r.fEquations.length c0_1) X2_0.out rfl
        have p5 := pblk_cell (w := w2) (j := 5) (v := .slice a5 r.fContributions.length c0_2) X2_0.out rfl
        go_wp2
        go_loopw [4] (fun i wr => ∃ k : Nat, k ≤ r.fRight.length ∧ i = .int .i64 (k : Int) ∧ noneBelow (fun x => !validName x) r.fRight k ∧ Below (w.heap.size + 1) w2 wr) (fun i _ => r.fRight.length - (intOf i).toNat)
        case atStart => exact ⟨0, Nat.zero_le _, rfl, noneBelow_zero _ _, Below.refl _ _⟩
        case round =>
          clear p2 p4 p5
          obtain ⟨k, hk, rfl, hno, hbl⟩ := hrel
          have HB := Lib.hid hbl
          have hbw : Below w.heap.size w wr := B2.out.trans (hbl.mono (Nat.le_succ _))
          have HBW := Lib.hid hbw
          have hsz1 : w.heap.size + 1 ≤ wr.heap.size := Nat.le_trans S2.out hbl.size
          have HX := Lib.hid ((hbl.block w.heap.size (Nat.lt_succ_self _)).trans X2_0.out)
          have HNO := Lib.hid hno
          have p2 := pblk_cell (w := wr) (j := 2) (v := .slice a2 r.fRight.length c0_0) HX.out rfl
          have p4 := pblk_cell (w := wr) (j := 4) (v := .slice a4 r.fEquations.length c0_1) HX.out rfl
          clear hbl hno
          by_cases hlt : k < r.fRight.length
          · have HN := Lib.hid (HNS.out k hlt wr)
            obtain ⟨rb, ro, rfl, _, _, hc⟩ := (HS2.out.later (hbw.mono hhi) (Nat.le_refl _)).at k hlt
            obtain ⟨u, hu, hl⟩ := hc 0 (by decide)
            obtain rfl := lies_lit hl
            rw [Nat.mul_one, Nat.add_zero] at hu
            clear hc hl hbw p4
            cases hr : validName (r.fRight.getD k default)
            · have FIN := Lib.hid (show res = false by rw [R.out, ← HA_.out, all_atV hlt hr]; simp)
              rw [hr] at HN
              clear hr
              generalize r.fRight.getD k default = s at *
              go_wp2_with fail
              refine HN.out.mono ?_
              rintro e w3 ⟨rfl, hb⟩
              have B3 := Lib.hid (HBW.out.trans (hb.mono HBW.out.size))
              clear hb
              go_wp2
              go_ret
              exact ⟨ret_b FIN.out.symm, B3.out⟩
            · have HPS := Lib.hid (noneBelow_succ (p := fun x => !validName x) HNO.out (by show (!validName _) = false; rw [hr]; rfl))
              rw [hr] at HN
              clear hr
              generalize r.fRight.getD k default = s at *
              go_wp2_with fail
              refine HN.out.mono ?_
              rintro e w3 ⟨rfl, hb⟩
              have B3 := Lib.hid (HB.out.trans (hb.mono hsz1))
              clear hb
              go_wp2
              go_roundw
              case rel => exact ⟨k + 1, by omega, by go_num, HPS.out, B3.out⟩
              case measure => simp [intOf]; omega
          · obtain rfl : k = r.fRight.length := by omega
            have hAt : A = true := HA_.out.symm.trans (all_noneV HNO.out)
            subst hAt
            have Bwa := HBW
            have Swa := Lib.hid hsz1
            have Xwa := HX
            clear hbw p2 HB HBW hsz1 HX HNO
            generalize wr = wa at *
            go_wp2
            go_loopw [5] (fun i wr => ∃ k : Nat, k ≤ r.fEquations.length ∧ i = .int .i64 (k : Int) ∧ noneBelow (fun x => !eqOk r x) r.fEquations k ∧ Below (w.heap.size + 1) wa wr) (fun i _ => r.fEquations.length - (intOf i).toNat)
            case atStart => exact ⟨0, Nat.zero_le _, rfl, noneBelow_zero _ _, Below.refl _ _⟩
            case round =>
              clear p4
              obtain ⟨k, hk, rfl, hno, hbl⟩ := hrel
              have HB := Lib.hid hbl
              have hbw : Below w.heap.size w wr := Bwa.out.trans (hbl.mono (Nat.le_succ _))
              have HBW := Lib.hid hbw
              have hsz1 : w.heap.size + 1 ≤ wr.heap.size := Nat.le_trans Swa.out hbl.size
              have HX := Lib.hid ((hbl.block w.heap.size (Nat.lt_succ_self _)).trans Xwa.out)
              have HNO := Lib.hid hno
              have p4 := pblk_cell (w := wr) (j := 4) (v := .slice a4 r.fEquations.length c0_1) HX.out rfl
              have p5 := pblk_cell (w := wr) (j := 5) (v := .slice a5 r.fContributions.length c0_2) HX.out rfl
              clear hbl hno
              by_cases hlt : k < r.fEquations.length
              · clear p5
                obtain ⟨rb, ro, rfl, _, _, hc⟩ := (HS4.out.later (hbw.mono hhi) (Nat.le_refl _)).at k hlt
                obtain ⟨a8, c8, hc0, hc1, hc2, hc3, hc4, hc5, hc6, hc7, hc8, hs8⟩ := DEquation.open hc
                have hzk := HZE.out k hlt
                have hokk := HOE.out k hlt
                have HFAIL := Lib.hid (fun h => all_atV (p := eqOk r) hlt h)
                have HGO := Lib.hid (fun (h : eqOk r (r.fEquations.getD k default) = true) => noneBelow_succ (p := fun x => !eqOk r x) HNO.out (by show (!eqOk r _) = false; rw [h]; rfl))
                generalize r.fEquations.getD k default = y at *
                have hy1 : y.fAt.fName.size ≤ 1048576 := by unfold DEquation.sz DOccurrence.sz at hzk; omega
                have hy2 : y.fExpr.sz ≤ 1048576 := by unfold DEquation.sz at hzk; omega
                have G1 := Lib.hid (fun (W : World) (_ : Below w.heap.size w W) => spec_IsValidName y.fAt.fName hy1 W)
                have G0 := Lib.hid (fun (W : World) (_ : Below w.heap.size w W) => spec_l1In y.fAt.fPos 0 r.fRight.length W)
                have hhr : hi ≤ wr.heap.size := Nat.le_trans hhi hbw.size
                have HS8 := Lib.hid hs8
                have G2 := Lib.hid (fun (W : World) (hW : Below w.heap.size w W) (hW2 : Below wr.heap.size wr W) => spec_l9Expr (c6 := c8) r.fRight.length y.fExpr hokk.2 hy2 W (Nat.le_trans hhi hW.size) (HS8.out.later (hW2.mono hhr) (Nat.le_refl _)))
                have E := Lib.hid (show eqOk r y = (inR y.fAt.fPos 0 r.fRight.length && validName y.fAt.fName && exprIn r.fRight.length y.fExpr) from rfl)
                clear hs8 hzk hokk hbw hc hy1 hy2
                generalize exprIn r.fRight.length y.fExpr = e2 at *
                generalize validName y.fAt.fName = e1 at *
                generalize inR y.fAt.fPos 0 r.fRight.length = e0 at *
                have BR0 := Lib.hid (show Below wr.heap.size wr (wr.alloc (.cells #[.int .i64 y.fAt.fPos, .string y.fAt.fName, .int .i64 y.fExpr.fKind, .int .i64 y.fExpr.fN, .int .i64 y.fExpr.fPos, .int .i64 y.fExpr.fType, .string y.fExpr.fSymbol, .string y.fExpr.fName, .slice a8 y.fExpr.fArgs.length c8] 46)) from (Below.refl wr.heap.size wr).alloc (Nat.le_refl _) _)
                have BE0 := Lib.hid (show Below w.heap.size w (wr.alloc (.cells #[.int .i64 y.fAt.fPos, .string y.fAt.fName, .int .i64 y.fExpr.fKind, .int .i64 y.fExpr.fN, .int .i64 y.fExpr.fPos, .int .i64 y.fExpr.fType, .string y.fExpr.fSymbol, .string y.fExpr.fName, .slice a8 y.fExpr.fArgs.length c8] 46)) from HBW.out.alloc HBW.out.size _)
                have BL0 := Lib.hid (show Below (w.heap.size + 1) wa (wr.alloc (.cells #[.int .i64 y.fAt.fPos, .string y.fAt.fName, .int .i64 y.fExpr.fKind, .int .i64 y.fExpr.fN, .int .i64 y.fExpr.fPos, .int .i64 y.fExpr.fType, .string y.fExpr.fSymbol, .string y.fExpr.fName, .slice a8 y.fExpr.fArgs.length c8] 46)) from HB.out.alloc hsz1 _)
                have SE0 := Lib.hid (show wr.heap.size + 1 ≤ (wr.alloc (.cells #[.int .i64 y.fAt.fPos, .string y.fAt.fName, .int .i64 y.fExpr.fKind, .int .i64 y.fExpr.fN, .int .i64 y.fExpr.fPos, .int .i64 y.fExpr.fType, .string y.fExpr.fSymbol, .string y.fExpr.fName, .slice a8 y.fExpr.fArgs.length c8] 46)).heap.size by simp)
                have XE0 := Lib.hid (show (wr.alloc (.cells #[.int .i64 y.fAt.fPos, .string y.fAt.fName, .int .i64 y.fExpr.fKind, .int .i64 y.fExpr.fN, .int .i64 y.fExpr.fPos, .int .i64 y.fExpr.fType, .string y.fExpr.fSymbol, .string y.fExpr.fName, .slice a8 y.fExpr.fArgs.length c8] 46)).heap[wr.heap.size]? = some (.cells #[.int .i64 y.fAt.fPos, .string y.fAt.fName, .int .i64 y.fExpr.fKind, .int .i64 y.fExpr.fN, .int .i64 y.fExpr.fPos, .int .i64 y.fExpr.fType, .string y.fExpr.fSymbol, .string y.fExpr.fName, .slice a8 y.fExpr.fArgs.length c8] 46) from blk_new rfl)
                go_wp2_with fail
                refine (G1.out _ BE0.out).mono ?_
                rintro e w3_1 ⟨rfl, hb⟩
                have BR1 := Lib.hid (BR0.out.trans (hb.mono (by have := SE0.out; omega)))
                have BE1 := Lib.hid (BE0.out.trans (hb.mono BE0.out.size))
                have BL1 := Lib.hid (BL0.out.trans (hb.mono (by have := SE0.out; omega)))
                have SE1 := Lib.hid (Nat.le_trans SE0.out hb.size)
                have XE1 := Lib.hid ((hb.block wr.heap.size (by have := SE0.out; omega)).trans XE0.out)
                clear hb
                cases e1
                · go_wp2
                  go_ret
                  exact ⟨ret_b (show _ = res by rw [R.out, ← HQ_.out, HFAIL.out (by rw [E.out]; simp)]; simp), BE1.out⟩
                · skip
                  have e0 := pblk_cell (w := w3_1) (j := 0) (v := .int .i64 y.fAt.fPos) XE1.out rfl
                  have e1 := pblk_cell (w := w3_1) (j := 1) (v := .string y.fAt.fName) XE1.out rfl
                  have e2 := pblk_cell (w := w3_1) (j := 2) (v := .int .i64 y.fExpr.fKind) XE1.out rfl
                  have e3 := pblk_cell (w := w3_1) (j := 3) (v := .int .i64 y.fExpr.fN) XE1.out rfl
                  have e4 := pblk_cell (w := w3_1) (j := 4) (v := .int .i64 y.fExpr.fPos) XE1.out rfl
                  have e5 := pblk_cell (w := w3_1) (j := 5) (v := .int .i64 y.fExpr.fType) XE1.out rfl
                  have e6 := pblk_cell (w := w3_1) (j := 6) (v := .string y.fExpr.fSymbol) XE1.out rfl
                  have e7 := pblk_cell (w := w3_1) (j := 7) (v := .string y.fExpr.fName) XE1.out rfl
                  have e8 := pblk_cell (w := w3_1) (j := 8) (v := .slice a8 y.fExpr.fArgs.length c8) XE1.out rfl
                  go_wp2_with fail
                  refine (G0.out _ BE1.out).mono ?_
                  rintro e w3_2 ⟨rfl, hsame⟩
                  subst hsame
                  clear e0 e1 e2 e3 e4 e5 e6 e7 e8
                  have BR2 := BR1
                  have BE2 := BE1
                  have BL2 := BL1
                  have SE2 := SE1
                  have XE2 := XE1
                  cases e0
                  · go_wp2
                    go_ret
                    exact ⟨ret_b (show _ = res by rw [R.out, ← HQ_.out, HFAIL.out (by rw [E.out]; simp)]; simp), BE2.out⟩
                  · skip
                    have e0 := pblk_cell (w := w3_1) (j := 0) (v := .int .i64 y.fAt.fPos) XE2.out rfl
                    have e1 := pblk_cell (w := w3_1) (j := 1) (v := .string y.fAt.fName) XE2.out rfl
                    have e2 := pblk_cell (w := w3_1) (j := 2) (v := .int .i64 y.fExpr.fKind) XE2.out rfl
                    have e3 := pblk_cell (w := w3_1) (j := 3) (v := .int .i64 y.fExpr.fN) XE2.out rfl
                    have e4 := pblk_cell (w := w3_1) (j := 4) (v := .int .i64 y.fExpr.fPos) XE2.out rfl
                    have e5 := pblk_cell (w := w3_1) (j := 5) (v := .int .i64 y.fExpr.fType) XE2.out rfl
                    have e6 := pblk_cell (w := w3_1) (j := 6) (v := .string y.fExpr.fSymbol) XE2.out rfl
                    have e7 := pblk_cell (w := w3_1) (j := 7) (v := .string y.fExpr.fName) XE2.out rfl
                    have e8 := pblk_cell (w := w3_1) (j := 8) (v := .slice a8 y.fExpr.fArgs.length c8) XE2.out rfl
                    go_wp2_with fail
                    refine (G2.out _ BE2.out BR2.out).mono ?_
                    rintro e w3_3 ⟨rfl, hb⟩
                    clear e0 e1 e2 e3 e4 e5 e6 e7 e8
                    have BR3 := Lib.hid (BR2.out.trans (hb.mono (by have := SE2.out; omega)))
                    have BE3 := Lib.hid (BE2.out.trans (hb.mono BE2.out.size))
                    have BL3 := Lib.hid (BL2.out.trans (hb.mono (by have := SE2.out; omega)))
                    have SE3 := Lib.hid (Nat.le_trans SE2.out hb.size)
                    have XE3 := Lib.hid ((hb.block wr.heap.size (by have := SE2.out; omega)).trans XE2.out)
                    clear hb
                    cases e2
                    · go_wp2
                      go_ret
                      exact ⟨ret_b (show _ = res by rw [R.out, ← HQ_.out, HFAIL.out (by rw [E.out]; simp)]; simp), BE3.out⟩
                    · skip
                      go_wp2
                      go_roundw
                      case rel => exact ⟨k + 1, by omega, by go_num, HGO.out (by rw [E.out]; simp), BL3.out⟩
                      case measure => simp [intOf]; omega
              · obtain rfl : k = r.fEquations.length := by omega
                have hQt : Q = true := HQ_.out.symm.trans (all_noneV HNO.out)
                subst hQt
                have Bwb := HBW
                have Swb := Lib.hid hsz1
                have Xwb := HX
                clear hbw HB HBW hsz1 HX HNO
                generalize wr = wb at *
                go_wp2
                go_loopw [7] (fun i wr => ∃ k : Nat, k ≤ r.fContributions.length ∧ i = .int .i64 (k : Int) ∧ noneBelow (fun x => !coOk r x) r.fContributions k ∧ Below (w.heap.size + 1) wb wr) (fun i _ => r.fContributions.length - (intOf i).toNat)
                case atStart => exact ⟨0, Nat.zero_le _, rfl, noneBelow_zero _ _, Below.refl _ _⟩
                case round =>
                  clear p5
                  obtain ⟨k, hk, rfl, hno, hbl⟩ := hrel
                  have HB := Lib.hid hbl
                  have hbw : Below w.heap.size w wr := Bwb.out.trans (hbl.mono (Nat.le_succ _))
                  have HBW := Lib.hid hbw
                  have hsz1 : w.heap.size + 1 ≤ wr.heap.size := Nat.le_trans Swb.out hbl.size
                  have HX := Lib.hid ((hbl.block w.heap.size (Nat.lt_succ_self _)).trans Xwb.out)
                  have HNO := Lib.hid hno
                  have p5 := pblk_cell (w := wr) (j := 5) (v := .slice a5 r.fContributions.length c0_2) HX.out rfl
                  clear hbl hno
                  by_cases hlt : k < r.fContributions.length
                  · skip
                    obtain ⟨rb, ro, rfl, _, _, hc⟩ := (HS5.out.later (hbw.mono hhi) (Nat.le_refl _)).at k hlt
                    obtain ⟨a8, c8, a15, c15, hc0, hc1, hc2, hc3, hc4, hc5, hc6, hc7, hc8, hc9, hc10, hc11, hc12, hc13, hc14, hc15, hs8, hs15⟩ := DContribution.open hc
                    have hzk := HZC.out k hlt
                    have hokk := HOC.out k hlt
                    have HFAIL := Lib.hid (fun h => all_atV (p := coOk r) hlt h)
                    have HGO := Lib.hid (fun (h : coOk r (r.fContributions.getD k default) = true) => noneBelow_succ (p := fun x => !coOk r x) HNO.out (by show (!coOk r _) = false; rw [h]; rfl))
                    generalize r.fContributions.getD k default = y at *
                    have hy1 : y.fSymbol.size ≤ 1048576 := by unfold DContribution.sz at hzk; omega
                    have hy2 : y.fName.size ≤ 1048576 := by unfold DContribution.sz at hzk; omega
                    have hy3 : y.fTarget.sz ≤ 1048576 := by unfold DContribution.sz at hzk; omega
                    have hy4 : y.fValue.sz ≤ 1048576 := by unfold DContribution.sz at hzk; omega
                    have G0 := Lib.hid (fun (W : World) (_ : Below w.heap.size w W) => spec_IsValidName y.fSymbol hy1 W)
                    have G1 := Lib.hid (fun (W : World) (_ : Below w.heap.size w W) => spec_IsValidName y.fName hy2 W)
                    have hhr : hi ≤ wr.heap.size := Nat.le_trans hhi hbw.size
                    have HS8 := Lib.hid hs8
                    have HS15 := Lib.hid hs15
                    have G2 := Lib.hid (fun (W : World) (hW : Below w.heap.size w W) (hW2 : Below wr.heap.size wr W) => spec_l9Expr (c6 := c8) r.fRight.length y.fTarget hokk.2.2.1 hy3 W (Nat.le_trans hhi hW.size) (HS8.out.later (hW2.mono hhr) (Nat.le_refl _)))
                    have G3 := Lib.hid (fun (W : World) (hW : Below w.heap.size w W) (hW2 : Below wr.heap.size wr W) => spec_l9Expr (c6 := c15) r.fRight.length y.fValue hokk.2.2.2 hy4 W (Nat.le_trans hhi hW.size) (HS15.out.later (hW2.mono hhr) (Nat.le_refl _)))
                    have E := Lib.hid (show coOk r y = (validName y.fSymbol && validName y.fName && exprIn r.fRight.length y.fTarget && exprIn r.fRight.length y.fValue) from rfl)
                    clear hs8 hs15 hzk hokk hbw hc hy1 hy2 hy3 hy4
                    generalize exprIn r.fRight.length y.fValue = e3 at *
                    generalize exprIn r.fRight.length y.fTarget = e2 at *
                    generalize validName y.fName = e1 at *
                    generalize validName y.fSymbol = e0 at *
                    have BR0 := Lib.hid (show Below wr.heap.size wr (wr.alloc (.cells #[.string y.fSymbol, .string y.fName, .int .i64 y.fTarget.fKind, .int .i64 y.fTarget.fN, .int .i64 y.fTarget.fPos, .int .i64 y.fTarget.fType, .string y.fTarget.fSymbol, .string y.fTarget.fName, .slice a8 y.fTarget.fArgs.length c8, .int .i64 y.fValue.fKind, .int .i64 y.fValue.fN, .int .i64 y.fValue.fPos, .int .i64 y.fValue.fType, .string y.fValue.fSymbol, .string y.fValue.fName, .slice a15 y.fValue.fArgs.length c15] 50)) from (Below.refl wr.heap.size wr).alloc (Nat.le_refl _) _)
                    have BE0 := Lib.hid (show Below w.heap.size w (wr.alloc (.cells #[.string y.fSymbol, .string y.fName, .int .i64 y.fTarget.fKind, .int .i64 y.fTarget.fN, .int .i64 y.fTarget.fPos, .int .i64 y.fTarget.fType, .string y.fTarget.fSymbol, .string y.fTarget.fName, .slice a8 y.fTarget.fArgs.length c8, .int .i64 y.fValue.fKind, .int .i64 y.fValue.fN, .int .i64 y.fValue.fPos, .int .i64 y.fValue.fType, .string y.fValue.fSymbol, .string y.fValue.fName, .slice a15 y.fValue.fArgs.length c15] 50)) from HBW.out.alloc HBW.out.size _)
                    have BL0 := Lib.hid (show Below (w.heap.size + 1) wb (wr.alloc (.cells #[.string y.fSymbol, .string y.fName, .int .i64 y.fTarget.fKind, .int .i64 y.fTarget.fN, .int .i64 y.fTarget.fPos, .int .i64 y.fTarget.fType, .string y.fTarget.fSymbol, .string y.fTarget.fName, .slice a8 y.fTarget.fArgs.length c8, .int .i64 y.fValue.fKind, .int .i64 y.fValue.fN, .int .i64 y.fValue.fPos, .int .i64 y.fValue.fType, .string y.fValue.fSymbol, .string y.fValue.fName, .slice a15 y.fValue.fArgs.length c15] 50)) from HB.out.alloc hsz1 _)
                    have SE0 := Lib.hid (show wr.heap.size + 1 ≤ (wr.alloc (.cells #[.string y.fSymbol, .string y.fName, .int .i64 y.fTarget.fKind, .int .i64 y.fTarget.fN, .int .i64 y.fTarget.fPos, .int .i64 y.fTarget.fType, .string y.fTarget.fSymbol, .string y.fTarget.fName, .slice a8 y.fTarget.fArgs.length c8, .int .i64 y.fValue.fKind, .int .i64 y.fValue.fN, .int .i64 y.fValue.fPos, .int .i64 y.fValue.fType, .string y.fValue.fSymbol, .string y.fValue.fName, .slice a15 y.fValue.fArgs.length c15] 50)).heap.size by simp)
                    have XE0 := Lib.hid (show (wr.alloc (.cells #[.string y.fSymbol, .string y.fName, .int .i64 y.fTarget.fKind, .int .i64 y.fTarget.fN, .int .i64 y.fTarget.fPos, .int .i64 y.fTarget.fType, .string y.fTarget.fSymbol, .string y.fTarget.fName, .slice a8 y.fTarget.fArgs.length c8, .int .i64 y.fValue.fKind, .int .i64 y.fValue.fN, .int .i64 y.fValue.fPos, .int .i64 y.fValue.fType, .string y.fValue.fSymbol, .string y.fValue.fName, .slice a15 y.fValue.fArgs.length c15] 50)).heap[wr.heap.size]? = some (.cells #[.string y.fSymbol, .string y.fName, .int .i64 y.fTarget.fKind, .int .i64 y.fTarget.fN, .int .i64 y.fTarget.fPos, .int .i64 y.fTarget.fType, .string y.fTarget.fSymbol, .string y.fTarget.fName, .slice a8 y.fTarget.fArgs.length c8, .int .i64 y.fValue.fKind, .int .i64 y.fValue.fN, .int .i64 y.fValue.fPos, .int .i64 y.fValue.fType, .string y.fValue.fSymbol, .string y.fValue.fName, .slice a15 y.fValue.fArgs.length c15] 50) from blk_new rfl)
                    go_wp2_with fail
                    refine (G0.out _ BE0.out).mono ?_
                    rintro e w3_1 ⟨rfl, hb⟩
                    have BR1 := Lib.hid (BR0.out.trans (hb.mono (by have := SE0.out; omega)))
                    have BE1 := Lib.hid (BE0.out.trans (hb.mono BE0.out.size))
                    have BL1 := Lib.hid (BL0.out.trans (hb.mono (by have := SE0.out; omega)))
                    have SE1 := Lib.hid (Nat.le_trans SE0.out hb.size)
                    have XE1 := Lib.hid ((hb.block wr.heap.size (by have := SE0.out; omega)).trans XE0.out)
                    clear hb
                    cases e0
                    · go_wp2
                      go_ret
                      exact ⟨ret_b (show _ = res by rw [R.out, ← HC_.out, HFAIL.out (by rw [E.out]; simp)]; simp), BE1.out⟩
                    · skip
                      have e0 := pblk_cell (w := w3_1) (j := 0) (v := .string y.fSymbol) XE1.out rfl
                      have e1 := pblk_cell (w := w3_1) (j := 1) (v := .string y.fName) XE1.out rfl
                      have e2 := pblk_cell (w := w3_1) (j := 2) (v := .int .i64 y.fTarget.fKind) XE1.out rfl
                      have e3 := pblk_cell (w := w3_1) (j := 3) (v := .int .i64 y.fTarget.fN) XE1.out rfl
                      have e4 := pblk_cell (w := w3_1) (j := 4) (v := .int .i64 y.fTarget.fPos) XE1.out rfl
                      have e5 := pblk_cell (w := w3_1) (j := 5) (v := .int .i64 y.fTarget.fType) XE1.out rfl
                      have e6 := pblk_cell (w := w3_1) (j := 6) (v := .string y.fTarget.fSymbol) XE1.out rfl
                      have e7 := pblk_cell (w := w3_1) (j := 7) (v := .string y.fTarget.fName) XE1.out rfl
                      have e8 := pblk_cell (w := w3_1) (j := 8) (v := .slice a8 y.fTarget.fArgs.length c8) XE1.out rfl
                      have e9 := pblk_cell (w := w3_1) (j := 9) (v := .int .i64 y.fValue.fKind) XE1.out rfl
                      have e10 := pblk_cell (w := w3_1) (j := 10) (v := .int .i64 y.fValue.fN) XE1.out rfl
                      have e11 := pblk_cell (w := w3_1) (j := 11) (v := .int .i64 y.fValue.fPos) XE1.out rfl
                      have e12 := pblk_cell (w := w3_1) (j := 12) (v := .int .i64 y.fValue.fType) XE1.out rfl
                      have e13 := pblk_cell (w := w3_1) (j := 13) (v := .string y.fValue.fSymbol) XE1.out rfl
                      have e14 := pblk_cell (w := w3_1) (j := 14) (v := .string y.fValue.fName) XE1.out rfl
                      have e15 := pblk_cell (w := w3_1) (j := 15) (v := .slice a15 y.fValue.fArgs.length c15) XE1.out rfl
                      go_wp2_with fail
                      refine (G1.out _ BE1.out).mono ?_
                      rintro e w3_2 ⟨rfl, hb⟩
                      clear e0 e1 e2 e3 e4 e5 e6 e7 e8 e9 e10 e11 e12 e13 e14 e15
                      have BR2 := Lib.hid (BR1.out.trans (hb.mono (by have := SE1.out; omega)))
                      have BE2 := Lib.hid (BE1.out.trans (hb.mono BE1.out.size))
                      have BL2 := Lib.hid (BL1.out.trans (hb.mono (by have := SE1.out; omega)))
                      have SE2 := Lib.hid (Nat.le_trans SE1.out hb.size)
                      have XE2 := Lib.hid ((hb.block wr.heap.size (by have := SE1.out; omega)).trans XE1.out)
                      clear hb
                      cases e1
                      · go_wp2
                        go_ret
                        exact ⟨ret_b (show _ = res by rw [R.out, ← HC_.out, HFAIL.out (by rw [E.out]; simp)]; simp), BE2.out⟩
                      · skip
                        have e0 := pblk_cell (w := w3_2) (j := 0) (v := .string y.fSymbol) XE2.out rfl
                        have e1 := pblk_cell (w := w3_2) (j := 1) (v := .string y.fName) XE2.out rfl
                        have e2 := pblk_cell (w := w3_2) (j := 2) (v := .int .i64 y.fTarget.fKind) XE2.out rfl
                        have e3 := pblk_cell (w := w3_2) (j := 3) (v := .int .i64 y.fTarget.fN) XE2.out rfl
                        have e4 := pblk_cell (w := w3_2) (j := 4) (v := .int .i64 y.fTarget.fPos) XE2.out rfl
                        have e5 := pblk_cell (w := w3_2) (j := 5) (v := .int .i64 y.fTarget.fType) XE2.out rfl
                        have e6 := pblk_cell (w := w3_2) (j := 6) (v := .string y.fTarget.fSymbol) XE2.out rfl
                        have e7 := pblk_cell (w := w3_2) (j := 7) (v := .string y.fTarget.fName) XE2.out rfl
                        have e8 := pblk_cell (w := w3_2) (j := 8) (v := .slice a8 y.fTarget.fArgs.length c8) XE2.out rfl
                        have e9 := pblk_cell (w := w3_2) (j := 9) (v := .int .i64 y.fValue.fKind) XE2.out rfl
                        have e10 := pblk_cell (w := w3_2) (j := 10) (v := .int .i64 y.fValue.fN) XE2.out rfl
                        have e11 := pblk_cell (w := w3_2) (j := 11) (v := .int .i64 y.fValue.fPos) XE2.out rfl
                        have e12 := pblk_cell (w := w3_2) (j := 12) (v := .int .i64 y.fValue.fType) XE2.out rfl
                        have e13 := pblk_cell (w := w3_2) (j := 13) (v := .string y.fValue.fSymbol) XE2.out rfl
                        have e14 := pblk_cell (w := w3_2) (j := 14) (v := .string y.fValue.fName) XE2.out rfl
                        have e15 := pblk_cell (w := w3_2) (j := 15) (v := .slice a15 y.fValue.fArgs.length c15) XE2.out rfl
                        go_wp2_with fail
                        refine (G2.out _ BE2.out BR2.out).mono ?_
                        rintro e w3_3 ⟨rfl, hb⟩
                        clear e0 e1 e2 e3 e4 e5 e6 e7 e8 e9 e10 e11 e12 e13 e14 e15
                        have BR3 := Lib.hid (BR2.out.trans (hb.mono (by have := SE2.out; omega)))
                        have BE3 := Lib.hid (BE2.out.trans (hb.mono BE2.out.size))
                        have BL3 := Lib.hid (BL2.out.trans (hb.mono (by have := SE2.out; omega)))
                        have SE3 := Lib.hid (Nat.le_trans SE2.out hb.size)
                        have XE3 := Lib.hid ((hb.block wr.heap.size (by have := SE2.out; omega)).trans XE2.out)
                        clear hb
                        cases e2
                        · go_wp2
                          go_ret
                          exact ⟨ret_b (show _ = res by rw [R.out, ← HC_.out, HFAIL.out (by rw [E.out]; simp)]; simp), BE3.out⟩
                        · skip
                          have e0 := pblk_cell (w := w3_3) (j := 0) (v := .string y.fSymbol) XE3.out rfl
                          have e1 := pblk_cell (w := w3_3) (j := 1) (v := .string y.fName) XE3.out rfl
                          have e2 := pblk_cell (w := w3_3) (j := 2) (v := .int .i64 y.fTarget.fKind) XE3.out rfl
                          have e3 := pblk_cell (w := w3_3) (j := 3) (v := .int .i64 y.fTarget.fN) XE3.out rfl
                          have e4 := pblk_cell (w := w3_3) (j := 4) (v := .int .i64 y.fTarget.fPos) XE3.out rfl
                          have e5 := pblk_cell (w := w3_3) (j := 5) (v := .int .i64 y.fTarget.fType) XE3.out rfl
                          have e6 := pblk_cell (w := w3_3) (j := 6) (v := .string y.fTarget.fSymbol) XE3.out rfl
                          have e7 := pblk_cell (w := w3_3) (j := 7) (v := .string y.fTarget.fName) XE3.out rfl
                          have e8 := pblk_cell (w := w3_3) (j := 8) (v := .slice a8 y.fTarget.fArgs.length c8) XE3.out rfl
                          have e9 := pblk_cell (w := w3_3) (j := 9) (v := .int .i64 y.fValue.fKind) XE3.out rfl
                          have e10 := pblk_cell (w := w3_3) (j := 10) (v := .int .i64 y.fValue.fN) XE3.out rfl
                          have e11 := pblk_cell (w := w3_3) (j := 11) (v := .int .i64 y.fValue.fPos) XE3.out rfl
                          have e12 := pblk_cell (w := w3_3) (j := 12) (v := .int .i64 y.fValue.fType) XE3.out rfl
                          have e13 := pblk_cell (w := w3_3) (j := 13) (v := .string y.fValue.fSymbol) XE3.out rfl
                          have e14 := pblk_cell (w := w3_3) (j := 14) (v := .string y.fValue.fName) XE3.out rfl
                          have e15 := pblk_cell (w := w3_3) (j := 15) (v := .slice a15 y.fValue.fArgs.length c15) XE3.out rfl
                          go_wp2_with fail
                          refine (G3.out _ BE3.out BR3.out).mono ?_
                          rintro e w3_4 ⟨rfl, hb⟩
                          clear e0 e1 e2 e3 e4 e5 e6 e7 e8 e9 e10 e11 e12 e13 e14 e15
                          have BR4 := Lib.hid (BR3.out.trans (hb.mono (by have := SE3.out; omega)))
                          have BE4 := Lib.hid (BE3.out.trans (hb.mono BE3.out.size))
                          have BL4 := Lib.hid (BL3.out.trans (hb.mono (by have := SE3.out; omega)))
                          have SE4 := Lib.hid (Nat.le_trans SE3.out hb.size)
                          have XE4 := Lib.hid ((hb.block wr.heap.size (by have := SE3.out; omega)).trans XE3.out)
                          clear hb
                          cases e3
                          · go_wp2
                            go_ret
                            exact ⟨ret_b (show _ = res by rw [R.out, ← HC_.out, HFAIL.out (by rw [E.out]; simp)]; simp), BE4.out⟩
                          · skip
                            go_wp2
                            go_roundw
                            case rel => exact ⟨k + 1, by omega, by go_num, HGO.out (by rw [E.out]; simp), BL4.out⟩
                            case measure => simp [intOf]; omega
                  · obtain rfl : k = r.fContributions.length := by omega
                    have hCt : C = true := HC_.out.symm.trans (all_noneV HNO.out)
                    subst hCt
                    go_wp2
                    go_ret
                    exact ⟨ret_b (show _ = res by rw [R.out]; rfl), HBW.out⟩
end Go.Proofs.YteeehpldkhceoaaGreat
