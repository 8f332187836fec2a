/-
  IsValidRule: the parts of the program's.
-/
import Derived.Test.YteeehpldkhceoaaGreatValRule
import Derived.Test.YteeehpldkhceoaaGreatPile
namespace Go.Proofs.YteeehpldkhceoaaGreat
open Go.ChangeShapes Go.WideShapes Go.ChangeAt Go.RowKit Go.Deep

set_option maxHeartbeats 3200000 in
set_option maxRecDepth 100000 in
theorem impl_isValidIn1 {a2 a4 a5 : Option Addr} {c2 c4 c5 : Nat} (r : DRule) (hn : r.fRight.length ≤ 1048576) (nd : ENode) (q : Nat) (w : World) (hq : w.heap[q]? = some (.cells #[.string r.fName, .string r.fLeft, .slice a2 r.fRight.length c2, .bool r.fLiteral, .slice a4 r.fEquations.length c4, .slice a5 r.fContributions.length c5] 32)) (hql : q < w.heap.size) :
    Calls Tryz.prog 66 #[.agg #[.int .i64 nd.fKind, .int .i64 nd.fN, .int .i64 nd.fPos, .int .i64 nd.fType, .string nd.fSymbol, .string nd.fName, .int .i64 (nd.fArgs : Int), .int .i64 (nd.fDepth : Int)], .pointer (some ⟨q, 0, none⟩)] w fun e w' => e = .returned (.bool (inR nd.fPos 0 r.fRight.length)) ∧ Below w.heap.size w w' := by
  have HC := Lib.hid (fun (W : World) (_ : Below w.heap.size w W) => impl_hasPosition (a2 := a2) (a4 := a4) (a5 := a5) (c0_0 := c2) (c0_1 := c4) (c0_2 := c5) r hn nd.fPos W)
  generalize inR nd.fPos 0 r.fRight.length = v0 at *
  clear hn
  have B0 := Lib.hid (show Below w.heap.size w (World.alloc w (.cells #[.int .i64 nd.fKind, .int .i64 nd.fN, .int .i64 nd.fPos, .int .i64 nd.fType, .string nd.fSymbol, .string nd.fName, .int .i64 (nd.fArgs : Int), .int .i64 (nd.fDepth : Int)] 99)) from ((Below.refl w.heap.size w).alloc (Nat.le_refl _) (.cells #[.int .i64 nd.fKind, .int .i64 nd.fN, .int .i64 nd.fPos, .int .i64 nd.fType, .string nd.fSymbol, .string nd.fName, .int .i64 (nd.fArgs : Int), .int .i64 (nd.fDepth : Int)] 99)))
  have S0 := Lib.hid (show (World.alloc w (.cells #[.int .i64 nd.fKind, .int .i64 nd.fN, .int .i64 nd.fPos, .int .i64 nd.fType, .string nd.fSymbol, .string nd.fName, .int .i64 (nd.fArgs : Int), .int .i64 (nd.fDepth : Int)] 99)).heap.size = w.heap.size + 1 by simp)
  have X0_0 := Lib.hid (show (World.alloc w (.cells #[.int .i64 nd.fKind, .int .i64 nd.fN, .int .i64 nd.fPos, .int .i64 nd.fType, .string nd.fSymbol, .string nd.fName, .int .i64 (nd.fArgs : Int), .int .i64 (nd.fDepth : Int)] 99)).heap[w.heap.size]? = some (.cells #[.int .i64 nd.fKind, .int .i64 nd.fN, .int .i64 nd.fPos, .int .i64 nd.fType, .string nd.fSymbol, .string nd.fName, .int .i64 (nd.fArgs : Int), .int .i64 (nd.fDepth : Int)] 99) from (blk_new (by simp)))
  have Q0 := Lib.hid ((B0.out.block q hql).trans hq)
  go_enter Tryz.func66, Tryz.ntmps66
  have z0_0 := pblk_cell (w := (World.alloc w (.cells #[.int .i64 nd.fKind, .int .i64 nd.fN, .int .i64 nd.fPos, .int .i64 nd.fType, .string nd.fSymbol, .string nd.fName, .int .i64 (nd.fArgs : Int), .int .i64 (nd.fDepth : Int)] 99))) (j := 0) (v := .string r.fName) Q0.out rfl
  have z0_1 := pblk_cell (w := (World.alloc w (.cells #[.int .i64 nd.fKind, .int .i64 nd.fN, .int .i64 nd.fPos, .int .i64 nd.fType, .string nd.fSymbol, .string nd.fName, .int .i64 (nd.fArgs : Int), .int .i64 (nd.fDepth : Int)] 99))) (j := 1) (v := .string r.fLeft) Q0.out rfl
  have z0_2 := pblk_cell (w := (World.alloc w (.cells #[.int .i64 nd.fKind, .int .i64 nd.fN, .int .i64 nd.fPos, .int .i64 nd.fType, .string nd.fSymbol, .string nd.fName, .int .i64 (nd.fArgs : Int), .int .i64 (nd.fDepth : Int)] 99))) (j := 2) (v := .slice a2 r.fRight.length c2) Q0.out rfl
  have z0_3 := pblk_cell (w := (World.alloc w (.cells #[.int .i64 nd.fKind, .int .i64 nd.fN, .int .i64 nd.fPos, .int .i64 nd.fType, .string nd.fSymbol, .string nd.fName, .int .i64 (nd.fArgs : Int), .int .i64 (nd.fDepth : Int)] 99))) (j := 3) (v := .bool r.fLiteral) Q0.out rfl
  have z0_4 := pblk_cell (w := (World.alloc w (.cells #[.int .i64 nd.fKind, .int .i64 nd.fN, .int .i64 nd.fPos, .int .i64 nd.fType, .string nd.fSymbol, .string nd.fName, .int .i64 (nd.fArgs : Int), .int .i64 (nd.fDepth : Int)] 99))) (j := 4) (v := .slice a4 r.fEquations.length c4) Q0.out rfl
  have z0_5 := pblk_cell (w := (World.alloc w (.cells #[.int .i64 nd.fKind, .int .i64 nd.fN, .int .i64 nd.fPos, .int .i64 nd.fType, .string nd.fSymbol, .string nd.fName, .int .i64 (nd.fArgs : Int), .int .i64 (nd.fDepth : Int)] 99))) (j := 5) (v := .slice a5 r.fContributions.length c5) Q0.out rfl
  go_wp2_with fail
  refine (HC.out _ B0.out).mono ?_
  rintro e w1 ⟨rfl, hb1⟩
  clear z0_0 z0_1 z0_2 z0_3 z0_4 z0_5
  have B1 := Lib.hid (B0.out.trans (hb1.mono B0.out.size))
  have S1 := Lib.hid (show w.heap.size + 1 ≤ w1.heap.size from Nat.le_trans (by rw [S0.out]; exact Nat.le_refl _) hb1.size)
  have X1_0 := Lib.hid ((hb1.block (w.heap.size) (by have := S0.out; omega)).trans X0_0.out)
  have Q1 := Lib.hid ((hb1.block q (Nat.lt_of_lt_of_le hql B0.out.size)).trans Q0.out)
  clear hb1
  go_wp2
  go_ret
  exact ⟨rfl, B1.out⟩

set_option maxHeartbeats 3200000 in
set_option maxRecDepth 100000 in
theorem impl_isValidIn {hi c6 : Nat} {a6 : Option Addr} {a2 a4 a5 : Option Addr} {c2 c4 c5 : Nat} (r : DRule) (hn : r.fRight.length ≤ 1048576) (x : DExpr) (hok : x.ok) (hsz : x.sz ≤ 1048576) (w : World) (hhi : hi ≤ w.heap.size) (hs6 : Sf 0 hi w 7 x.fArgs.length (ctE x.fArgs) a6) :
    Calls Tryz.prog 45 #[.agg #[.string r.fName, .string r.fLeft, .slice a2 r.fRight.length c2, .bool r.fLiteral, .slice a4 r.fEquations.length c4, .slice a5 r.fContributions.length c5], .agg #[.int .i64 x.fKind, .int .i64 x.fN, .int .i64 x.fPos, .int .i64 x.fType, .string x.fSymbol, .string x.fName, .slice a6 x.fArgs.length c6]] w fun e w' => e = .returned (.bool (exprIn r.fRight.length x)) ∧ Below w.heap.size w w' := by
  have B0 := Lib.hid (((Below.refl w.heap.size w).alloc (Nat.le_refl _) (.cells #[.string r.fName, .string r.fLeft, .slice a2 r.fRight.length c2, .bool r.fLiteral, .slice a4 r.fEquations.length c4, .slice a5 r.fContributions.length c5] 32)).alloc (by simp) (.cells #[.int .i64 x.fKind, .int .i64 x.fN, .int .i64 x.fPos, .int .i64 x.fType, .string x.fSymbol, .string x.fName, .slice a6 x.fArgs.length c6] 44))
  have S0 := Lib.hid (show ((w.alloc (.cells #[.string r.fName, .string r.fLeft, .slice a2 r.fRight.length c2, .bool r.fLiteral, .slice a4 r.fEquations.length c4, .slice a5 r.fContributions.length c5] 32)).alloc (.cells #[.int .i64 x.fKind, .int .i64 x.fN, .int .i64 x.fPos, .int .i64 x.fType, .string x.fSymbol, .string x.fName, .slice a6 x.fArgs.length c6] 44)).heap.size = w.heap.size + 2 by simp)
  have X0_0 := Lib.hid (show ((w.alloc (.cells #[.string r.fName, .string r.fLeft, .slice a2 r.fRight.length c2, .bool r.fLiteral, .slice a4 r.fEquations.length c4, .slice a5 r.fContributions.length c5] 32)).alloc (.cells #[.int .i64 x.fKind, .int .i64 x.fN, .int .i64 x.fPos, .int .i64 x.fType, .string x.fSymbol, .string x.fName, .slice a6 x.fArgs.length c6] 44)).heap[w.heap.size]? = some (.cells #[.string r.fName, .string r.fLeft, .slice a2 r.fRight.length c2, .bool r.fLiteral, .slice a4 r.fEquations.length c4, .slice a5 r.fContributions.length c5] 32) from blk_alloc (by simp) (blk_new rfl))
  have X0_1 := Lib.hid (show ((w.alloc (.cells #[.string r.fName, .string r.fLeft, .slice a2 r.fRight.length c2, .bool r.fLiteral, .slice a4 r.fEquations.length c4, .slice a5 r.fContributions.length c5] 32)).alloc (.cells #[.int .i64 x.fKind, .int .i64 x.fN, .int .i64 x.fPos, .int .i64 x.fType, .string x.fSymbol, .string x.fName, .slice a6 x.fArgs.length c6] 44)).heap[w.heap.size + 1]? = some (.cells #[.int .i64 x.fKind, .int .i64 x.fN, .int .i64 x.fPos, .int .i64 x.fType, .string x.fSymbol, .string x.fName, .slice a6 x.fArgs.length c6] 44) from blk_new (by simp))
  have HV := Lib.hid (impl_IsValidExpr (c0_0 := c6) x hok hsz ((w.alloc (.cells #[.string r.fName, .string r.fLeft, .slice a2 r.fRight.length c2, .bool r.fLiteral, .slice a4 r.fEquations.length c4, .slice a5 r.fContributions.length c5] 32)).alloc (.cells #[.int .i64 x.fKind, .int .i64 x.fN, .int .i64 x.fPos, .int .i64 x.fType, .string x.fSymbol, .string x.fName, .slice a6 x.fArgs.length c6] 44)) (Nat.le_trans hhi B0.out.size) (hs6.later B0.out hhi))
  cases hv : validX x
  · have FIN := Lib.hid (show exprIn r.fRight.length x = false by unfold exprIn; rw [hv]; rfl)
    rw [hv] at HV
    clear hv hs6
    generalize exprIn r.fRight.length x = v at *
    go_enter Tryz.func45, Tryz.ntmps45
    go_wp2_with fail
    refine HV.out.mono ?_
    rintro e w1 ⟨rfl, hb1⟩
    have B1 := Lib.hid (B0.out.trans (hb1.mono B0.out.size))
    clear hb1
    go_wp2
    go_ret
    exact ⟨ret_b FIN.out.symm, B1.out⟩
  · have FIN := Lib.hid (exprIn_all (n := r.fRight.length) hv)
    rw [hv] at HV
    have hl := len_nodesX x 1
    have hcl := cntX_le x
    have hnl : (nodesX x 1).length ≤ 1048577 := by omega
    have HN := Lib.hid (fun (W : World) (hW : Below w.heap.size w W) => impl_allNodesOf (c6 := c6) x hsz W (Nat.le_trans hhi hW.size) (hs6.later hW hhi))
    have HA := Lib.hid (fun (W : World) (hW : W.heap[w.heap.size]? = some (.cells #[.string r.fName, .string r.fLeft, .slice a2 r.fRight.length c2, .bool r.fLiteral, .slice a4 r.fEquations.length c4, .slice a5 r.fContributions.length c5] 32)) (hWl : w.heap.size < W.heap.size) (c B : Nat) (a : Option Addr) (ho : W.ownsRow B 99 8 (.slice a (nodesX x 1).length c) (nodesX x 1).length (nodeCells (nodesX x 1))) => allValid_nodes (c := c) (fun nd => inR nd.fPos 0 r.fRight.length) w.heap.size (nodesX x 1) hnl W ho (fun k hk W2 hW2 => impl_isValidIn1 (a2 := a2) (a4 := a4) (a5 := a5) (c2 := c2) (c4 := c4) (c5 := c5) r hn _ w.heap.size W2 ((hW2.block _ hWl).trans hW) (Nat.lt_of_lt_of_le hWl hW2.size)))
    rw [FIN.out] at HA
    clear FIN hv hs6 hl hcl hnl
    generalize exprIn r.fRight.length x = v at *
    generalize nodesX x 1 = N at *
    go_enter Tryz.func45, Tryz.ntmps45
    go_wp2_with fail
    refine HV.out.mono ?_
    rintro e w1 ⟨rfl, hb1⟩
    have B1 := Lib.hid (B0.out.trans (hb1.mono B0.out.size))
    have S1 := Lib.hid (show w.heap.size + 2 ≤ w1.heap.size from Nat.le_trans (by rw [S0.out]; exact Nat.le_refl _) hb1.size)
    have X1_0 := Lib.hid ((hb1.block w.heap.size (by rw [S0.out]; omega)).trans X0_0.out)
    have X1_1 := Lib.hid ((hb1.block (w.heap.size + 1) (by rw [S0.out]; omega)).trans X0_1.out)
    clear hb1
    have y0 := pblk_cell (j := 0) (v := .int .i64 x.fKind) X1_1.out rfl
    have y1 := pblk_cell (j := 1) (v := .int .i64 x.fN) X1_1.out rfl
    have y2 := pblk_cell (j := 2) (v := .int .i64 x.fPos) X1_1.out rfl
    have y3 := pblk_cell (j := 3) (v := .int .i64 x.fType) X1_1.out rfl
    have y4 := pblk_cell (j := 4) (v := .string x.fSymbol) X1_1.out rfl
    have y5 := pblk_cell (j := 5) (v := .string x.fName) X1_1.out rfl
    have y6 := pblk_cell (j := 6) (v := .slice a6 x.fArgs.length c6) X1_1.out rfl
    go_wp2_with fail
    refine (HN.out w1 B1.out).mono ?_
    rintro e w2 ⟨vN, rfl, hown, hb2⟩
    obtain ⟨na, nc, rfl⟩ := own_slice hown
    have B2 := Lib.hid (B1.out.trans (hb2.mono B1.out.size))
    have hw2 : w.heap.size < w2.heap.size := by have h1 := hb2.size; have h2 := S1.out; omega
    have HAV := Lib.hid (HA.out w2 ((hb2.block w.heap.size (by have := S1.out; omega)).trans X1_0.out) hw2 nc _ na hown)
    clear hb2 hown
    go_wp2_with fail
    refine HAV.out.mono ?_
    rintro e w3 ⟨rfl, hb3⟩
    have B3 := Lib.hid (B2.out.trans (hb3.mono B2.out.size))
    clear hb3
    go_wp2
    go_ret
    exact ⟨rfl, B3.out⟩

set_option maxHeartbeats 3200000 in
set_option maxRecDepth 100000 in
theorem impl_isValidEquation {hi c8 : Nat} {a8 : Option Addr} {a2 a4 a5 : Option Addr} {c2 c4 c5 : Nat} (r : DRule) (hn : r.fRight.length ≤ 1048576) (x : DEquation) (hok : x.ok) (hsz : x.sz ≤ 1048576) (w : World) (hhi : hi ≤ w.heap.size) (hs8 : Sf 0 hi w 7 x.fExpr.fArgs.length (ctE x.fExpr.fArgs) a8) :
    Calls Tryz.prog 22 #[.agg #[.string r.fName, .string r.fLeft, .slice a2 r.fRight.length c2, .bool r.fLiteral, .slice a4 r.fEquations.length c4, .slice a5 r.fContributions.length c5], .agg #[.int .i64 x.fAt.fPos, .string x.fAt.fName, .int .i64 x.fExpr.fKind, .int .i64 x.fExpr.fN, .int .i64 x.fExpr.fPos, .int .i64 x.fExpr.fType, .string x.fExpr.fSymbol, .string x.fExpr.fName, .slice a8 x.fExpr.fArgs.length c8]] w fun e w' => e = .returned (.bool (eqOk r x)) ∧ Below w.heap.size w w' := by
  have hz1 : x.fAt.fName.size ≤ 1048576 := by unfold DEquation.sz DOccurrence.sz at hsz; omega
  have hz2 : x.fExpr.sz ≤ 1048576 := by unfold DEquation.sz at hsz; omega
  have H0 := Lib.hid (fun (W : World) (_ : Below w.heap.size w W) => impl_hasPosition (a2 := a2) (a4 := a4) (a5 := a5) (c0_0 := c2) (c0_1 := c4) (c0_2 := c5) r hn x.fAt.fPos W)
  have H1 := Lib.hid (fun (W : World) (_ : Below w.heap.size w W) => impl_IsValidName x.fAt.fName hz1 W)
  have H2 := Lib.hid (fun (W : World) (hW : Below w.heap.size w W) => impl_isValidIn (c6 := c8) (a2 := a2) (a4 := a4) (a5 := a5) (c2 := c2) (c4 := c4) (c5 := c5) r hn x.fExpr hok.2 hz2 W (Nat.le_trans hhi hW.size) (hs8.later hW hhi))
  unfold eqOk
  clear hs8 hz1 hz2 hok hsz
  generalize exprIn r.fRight.length x.fExpr = v2 at *
  generalize validName x.fAt.fName = v1 at *
  generalize inR x.fAt.fPos 0 r.fRight.length = v0 at *
  clear hn
  have B0 := Lib.hid (show Below w.heap.size w (World.alloc (World.alloc w (.cells #[.string r.fName, .string r.fLeft, .slice a2 r.fRight.length c2, .bool r.fLiteral, .slice a4 r.fEquations.length c4, .slice a5 r.fContributions.length c5] 32)) (.cells #[.int .i64 x.fAt.fPos, .string x.fAt.fName, .int .i64 x.fExpr.fKind, .int .i64 x.fExpr.fN, .int .i64 x.fExpr.fPos, .int .i64 x.fExpr.fType, .string x.fExpr.fSymbol, .string x.fExpr.fName, .slice a8 x.fExpr.fArgs.length c8] 46)) from (((Below.refl w.heap.size w).alloc (Nat.le_refl _) (.cells #[.string r.fName, .string r.fLeft, .slice a2 r.fRight.length c2, .bool r.fLiteral, .slice a4 r.fEquations.length c4, .slice a5 r.fContributions.length c5] 32)).alloc (by simp) (.cells #[.int .i64 x.fAt.fPos, .string x.fAt.fName, .int .i64 x.fExpr.fKind, .int .i64 x.fExpr.fN, .int .i64 x.fExpr.fPos, .int .i64 x.fExpr.fType, .string x.fExpr.fSymbol, .string x.fExpr.fName, .slice a8 x.fExpr.fArgs.length c8] 46)))
  have S0 := Lib.hid (show (World.alloc (World.alloc w (.cells #[.string r.fName, .string r.fLeft, .slice a2 r.fRight.length c2, .bool r.fLiteral, .slice a4 r.fEquations.length c4, .slice a5 r.fContributions.length c5] 32)) (.cells #[.int .i64 x.fAt.fPos, .string x.fAt.fName, .int .i64 x.fExpr.fKind, .int .i64 x.fExpr.fN, .int .i64 x.fExpr.fPos, .int .i64 x.fExpr.fType, .string x.fExpr.fSymbol, .string x.fExpr.fName, .slice a8 x.fExpr.fArgs.length c8] 46)).heap.size = w.heap.size + 2 by simp)
  have X0_0 := Lib.hid (show (World.alloc (World.alloc w (.cells #[.string r.fName, .string r.fLeft, .slice a2 r.fRight.length c2, .bool r.fLiteral, .slice a4 r.fEquations.length c4, .slice a5 r.fContributions.length c5] 32)) (.cells #[.int .i64 x.fAt.fPos, .string x.fAt.fName, .int .i64 x.fExpr.fKind, .int .i64 x.fExpr.fN, .int .i64 x.fExpr.fPos, .int .i64 x.fExpr.fType, .string x.fExpr.fSymbol, .string x.fExpr.fName, .slice a8 x.fExpr.fArgs.length c8] 46)).heap[w.heap.size]? = some (.cells #[.string r.fName, .string r.fLeft, .slice a2 r.fRight.length c2, .bool r.fLiteral, .slice a4 r.fEquations.length c4, .slice a5 r.fContributions.length c5] 32) from (blk_alloc (by simp) (blk_new (by simp))))
  have X0_1 := Lib.hid (show (World.alloc (World.alloc w (.cells #[.string r.fName, .string r.fLeft, .slice a2 r.fRight.length c2, .bool r.fLiteral, .slice a4 r.fEquations.length c4, .slice a5 r.fContributions.length c5] 32)) (.cells #[.int .i64 x.fAt.fPos, .string x.fAt.fName, .int .i64 x.fExpr.fKind, .int .i64 x.fExpr.fN, .int .i64 x.fExpr.fPos, .int .i64 x.fExpr.fType, .string x.fExpr.fSymbol, .string x.fExpr.fName, .slice a8 x.fExpr.fArgs.length c8] 46)).heap[w.heap.size + 1]? = some (.cells #[.int .i64 x.fAt.fPos, .string x.fAt.fName, .int .i64 x.fExpr.fKind, .int .i64 x.fExpr.fN, .int .i64 x.fExpr.fPos, .int .i64 x.fExpr.fType, .string x.fExpr.fSymbol, .string x.fExpr.fName, .slice a8 x.fExpr.fArgs.length c8] 46) from (blk_new (by simp)))
  go_enter Tryz.func22, Tryz.ntmps22
  go_wp2_with fail
  refine (H0.out _ B0.out).mono ?_
  rintro e w1 ⟨rfl, hb1⟩
  have B1 := Lib.hid (B0.out.trans (hb1.mono B0.out.size))
  have S1 := Lib.hid (show w.heap.size + 2 ≤ w1.heap.size from Nat.le_trans (by rw [S0.out]; exact Nat.le_refl _) hb1.size)
  have X1_0 := Lib.hid ((hb1.block (w.heap.size) (by have := S0.out; omega)).trans X0_0.out)
  have X1_1 := Lib.hid ((hb1.block (w.heap.size + 1) (by have := S0.out; omega)).trans X0_1.out)
  clear hb1
  cases v0
  · go_wp2
    go_ret
    exact ⟨rfl, B1.out⟩
  · skip
    have y1_0_0 := pblk_cell (j := 0) (v := .string r.fName) X1_0.out rfl
    have y1_0_1 := pblk_cell (j := 1) (v := .string r.fLeft) X1_0.out rfl
    have y1_0_2 := pblk_cell (j := 2) (v := .slice a2 r.fRight.length c2) X1_0.out rfl
    have y1_0_3 := pblk_cell (j := 3) (v := .bool r.fLiteral) X1_0.out rfl
    have y1_0_4 := pblk_cell (j := 4) (v := .slice a4 r.fEquations.length c4) X1_0.out rfl
    have y1_0_5 := pblk_cell (j := 5) (v := .slice a5 r.fContributions.length c5) X1_0.out rfl
    have y1_1_0 := pblk_cell (j := 0) (v := .int .i64 x.fAt.fPos) X1_1.out rfl
    have y1_1_1 := pblk_cell (j := 1) (v := .string x.fAt.fName) X1_1.out rfl
    have y1_1_2 := pblk_cell (j := 2) (v := .int .i64 x.fExpr.fKind) X1_1.out rfl
    have y1_1_3 := pblk_cell (j := 3) (v := .int .i64 x.fExpr.fN) X1_1.out rfl
    have y1_1_4 := pblk_cell (j := 4) (v := .int .i64 x.fExpr.fPos) X1_1.out rfl
    have y1_1_5 := pblk_cell (j := 5) (v := .int .i64 x.fExpr.fType) X1_1.out rfl
    have y1_1_6 := pblk_cell (j := 6) (v := .string x.fExpr.fSymbol) X1_1.out rfl
    have y1_1_7 := pblk_cell (j := 7) (v := .string x.fExpr.fName) X1_1.out rfl
    have y1_1_8 := pblk_cell (j := 8) (v := .slice a8 x.fExpr.fArgs.length c8) X1_1.out rfl
    go_wp2_with fail
    refine (H1.out _ B1.out).mono ?_
    rintro e w2 ⟨rfl, hb2⟩
    clear y1_0_0 y1_0_1 y1_0_2 y1_0_3 y1_0_4 y1_0_5 y1_1_0 y1_1_1 y1_1_2 y1_1_3 y1_1_4 y1_1_5 y1_1_6 y1_1_7 y1_1_8
    have B2 := Lib.hid (B1.out.trans (hb2.mono B1.out.size))
    have S2 := Lib.hid (show w.heap.size + 2 ≤ w2.heap.size from Nat.le_trans S1.out hb2.size)
    have X2_0 := Lib.hid ((hb2.block (w.heap.size) (by have := S1.out; omega)).trans X1_0.out)
    have X2_1 := Lib.hid ((hb2.block (w.heap.size + 1) (by have := S1.out; omega)).trans X1_1.out)
    clear hb2
    cases v1
    · go_wp2
      go_ret
      exact ⟨rfl, B2.out⟩
    · skip
      have y2_0_0 := pblk_cell (j := 0) (v := .string r.fName) X2_0.out rfl
      have y2_0_1 := pblk_cell (j := 1) (v := .string r.fLeft) X2_0.out rfl
      have y2_0_2 := pblk_cell (j := 2) (v := .slice a2 r.fRight.length c2) X2_0.out rfl
      have y2_0_3 := pblk_cell (j := 3) (v := .bool r.fLiteral) X2_0.out rfl
      have y2_0_4 := pblk_cell (j := 4) (v := .slice a4 r.fEquations.length c4) X2_0.out rfl
      have y2_0_5 := pblk_cell (j := 5) (v := .slice a5 r.fContributions.length c5) X2_0.out rfl
      have y2_1_0 := pblk_cell (j := 0) (v := .int .i64 x.fAt.fPos) X2_1.out rfl
      have y2_1_1 := pblk_cell (j := 1) (v := .string x.fAt.fName) X2_1.out rfl
      have y2_1_2 := pblk_cell (j := 2) (v := .int .i64 x.fExpr.fKind) X2_1.out rfl
      have y2_1_3 := pblk_cell (j := 3) (v := .int .i64 x.fExpr.fN) X2_1.out rfl
      have y2_1_4 := pblk_cell (j := 4) (v := .int .i64 x.fExpr.fPos) X2_1.out rfl
      have y2_1_5 := pblk_cell (j := 5) (v := .int .i64 x.fExpr.fType) X2_1.out rfl
      have y2_1_6 := pblk_cell (j := 6) (v := .string x.fExpr.fSymbol) X2_1.out rfl
      have y2_1_7 := pblk_cell (j := 7) (v := .string x.fExpr.fName) X2_1.out rfl
      have y2_1_8 := pblk_cell (j := 8) (v := .slice a8 x.fExpr.fArgs.length c8) X2_1.out rfl
      go_wp2_with fail
      refine (H2.out _ B2.out).mono ?_
      rintro e w3 ⟨rfl, hb3⟩
      clear y2_0_0 y2_0_1 y2_0_2 y2_0_3 y2_0_4 y2_0_5 y2_1_0 y2_1_1 y2_1_2 y2_1_3 y2_1_4 y2_1_5 y2_1_6 y2_1_7 y2_1_8
      have B3 := Lib.hid (B2.out.trans (hb3.mono B2.out.size))
      have S3 := Lib.hid (show w.heap.size + 2 ≤ w3.heap.size from Nat.le_trans S2.out hb3.size)
      have X3_0 := Lib.hid ((hb3.block (w.heap.size) (by have := S2.out; omega)).trans X2_0.out)
      have X3_1 := Lib.hid ((hb3.block (w.heap.size + 1) (by have := S2.out; omega)).trans X2_1.out)
      clear hb3
      go_wp2
      go_ret
      exact ⟨rfl, B3.out⟩

set_option maxHeartbeats 3200000 in
set_option maxRecDepth 100000 in
theorem impl_isValidContribution {hi c8 c15 : Nat} {a8 a15 : Option Addr} {a2 a4 a5 : Option Addr} {c2 c4 c5 : Nat} (r : DRule) (hn : r.fRight.length ≤ 1048576) (x : DContribution) (hok : x.ok) (hsz : x.sz ≤ 1048576) (w : World) (hhi : hi ≤ w.heap.size) (hs8 : Sf 0 hi w 7 x.fTarget.fArgs.length (ctE x.fTarget.fArgs) a8) (hs15 : Sf 0 hi w 7 x.fValue.fArgs.length (ctE x.fValue.fArgs) a15) :
    Calls Tryz.prog 25 #[.agg #[.string r.fName, .string r.fLeft, .slice a2 r.fRight.length c2, .bool r.fLiteral, .slice a4 r.fEquations.length c4, .slice a5 r.fContributions.length c5], .agg #[.string x.fSymbol, .string x.fName, .int .i64 x.fTarget.fKind, .int .i64 x.fTarget.fN, .int .i64 x.fTarget.fPos, .int .i64 x.fTarget.fType, .string x.fTarget.fSymbol, .string x.fTarget.fName, .slice a8 x.fTarget.fArgs.length c8, .int .i64 x.fValue.fKind, .int .i64 x.fValue.fN, .int .i64 x.fValue.fPos, .int .i64 x.fValue.fType, .string x.fValue.fSymbol, .string x.fValue.fName, .slice a15 x.fValue.fArgs.length c15]] w fun e w' => e = .returned (.bool (coOk r x)) ∧ Below w.heap.size w w' := by
  have hz1 : x.fSymbol.size ≤ 1048576 := by unfold DContribution.sz at hsz; omega
  have hz2 : x.fName.size ≤ 1048576 := by unfold DContribution.sz at hsz; omega
  have hz3 : x.fTarget.sz ≤ 1048576 := by unfold DContribution.sz at hsz; omega
  have hz4 : x.fValue.sz ≤ 1048576 := by unfold DContribution.sz at hsz; omega
  have H0 := Lib.hid (fun (W : World) (_ : Below w.heap.size w W) => impl_IsValidName x.fSymbol hz1 W)
  have H1 := Lib.hid (fun (W : World) (_ : Below w.heap.size w W) => impl_IsValidName x.fName hz2 W)
  have H2 := Lib.hid (fun (W : World) (hW : Below w.heap.size w W) => impl_isValidIn (c6 := c8) (a2 := a2) (a4 := a4) (a5 := a5) (c2 := c2) (c4 := c4) (c5 := c5) r hn x.fTarget hok.2.2.1 hz3 W (Nat.le_trans hhi hW.size) (hs8.later hW hhi))
  have H3 := Lib.hid (fun (W : World) (hW : Below w.heap.size w W) => impl_isValidIn (c6 := c15) (a2 := a2) (a4 := a4) (a5 := a5) (c2 := c2) (c4 := c4) (c5 := c5) r hn x.fValue hok.2.2.2 hz4 W (Nat.le_trans hhi hW.size) (hs15.later hW hhi))
  unfold coOk
  clear hs8 hs15 hz1 hz2 hz3 hz4 hok hsz
  generalize exprIn r.fRight.length x.fValue = v3 at *
  generalize exprIn r.fRight.length x.fTarget = v2 at *
  generalize validName x.fName = v1 at *
  generalize validName x.fSymbol = v0 at *
  clear hn
  have B0 := Lib.hid (show Below w.heap.size w (World.alloc (World.alloc w (.cells #[.string r.fName, .string r.fLeft, .slice a2 r.fRight.length c2, .bool r.fLiteral, .slice a4 r.fEquations.length c4, .slice a5 r.fContributions.length c5] 32)) (.cells #[.string x.fSymbol, .string x.fName, .int .i64 x.fTarget.fKind, .int .i64 x.fTarget.fN, .int .i64 x.fTarget.fPos, .int .i64 x.fTarget.fType, .string x.fTarget.fSymbol, .string x.fTarget.fName, .slice a8 x.fTarget.fArgs.length c8, .int .i64 x.fValue.fKind, .int .i64 x.fValue.fN, .int .i64 x.fValue.fPos, .int .i64 x.fValue.fType, .string x.fValue.fSymbol, .string x.fValue.fName, .slice a15 x.fValue.fArgs.length c15] 50)) from (((Below.refl w.heap.size w).alloc (Nat.le_refl _) (.cells #[.string r.fName, .string r.fLeft, .slice a2 r.fRight.length c2, .bool r.fLiteral, .slice a4 r.fEquations.length c4, .slice a5 r.fContributions.length c5] 32)).alloc (by simp) (.cells #[.string x.fSymbol, .string x.fName, .int .i64 x.fTarget.fKind, .int .i64 x.fTarget.fN, .int .i64 x.fTarget.fPos, .int .i64 x.fTarget.fType, .string x.fTarget.fSymbol, .string x.fTarget.fName, .slice a8 x.fTarget.fArgs.length c8, .int .i64 x.fValue.fKind, .int .i64 x.fValue.fN, .int .i64 x.fValue.fPos, .int .i64 x.fValue.fType, .string x.fValue.fSymbol, .string x.fValue.fName, .slice a15 x.fValue.fArgs.length c15] 50)))
  have S0 := Lib.hid (show (World.alloc (World.alloc w (.cells #[.string r.fName, .string r.fLeft, .slice a2 r.fRight.length c2, .bool r.fLiteral, .slice a4 r.fEquations.length c4, .slice a5 r.fContributions.length c5] 32)) (.cells #[.string x.fSymbol, .string x.fName, .int .i64 x.fTarget.fKind, .int .i64 x.fTarget.fN, .int .i64 x.fTarget.fPos, .int .i64 x.fTarget.fType, .string x.fTarget.fSymbol, .string x.fTarget.fName, .slice a8 x.fTarget.fArgs.length c8, .int .i64 x.fValue.fKind, .int .i64 x.fValue.fN, .int .i64 x.fValue.fPos, .int .i64 x.fValue.fType, .string x.fValue.fSymbol, .string x.fValue.fName, .slice a15 x.fValue.fArgs.length c15] 50)).heap.size = w.heap.size + 2 by simp)
  have X0_0 := Lib.hid (show (World.alloc (World.alloc w (.cells #[.string r.fName, .string r.fLeft, .slice a2 r.fRight.length c2, .bool r.fLiteral, .slice a4 r.fEquations.length c4, .slice a5 r.fContributions.length c5] 32)) (.cells #[.string x.fSymbol, .string x.fName, .int .i64 x.fTarget.fKind, .int .i64 x.fTarget.fN, .int .i64 x.fTarget.fPos, .int .i64 x.fTarget.fType, .string x.fTarget.fSymbol, .string x.fTarget.fName, .slice a8 x.fTarget.fArgs.length c8, .int .i64 x.fValue.fKind, .int .i64 x.fValue.fN, .int .i64 x.fValue.fPos, .int .i64 x.fValue.fType, .string x.fValue.fSymbol, .string x.fValue.fName, .slice a15 x.fValue.fArgs.length c15] 50)).heap[w.heap.size]? = some (.cells #[.string r.fName, .string r.fLeft, .slice a2 r.fRight.length c2, .bool r.fLiteral, .slice a4 r.fEquations.length c4, .slice a5 r.fContributions.length c5] 32) from (blk_alloc (by simp) (blk_new (by simp))))
  have X0_1 := Lib.hid (show (World.alloc (World.alloc w (.cells #[.string r.fName, .string r.fLeft, .slice a2 r.fRight.length c2, .bool r.fLiteral, .slice a4 r.fEquations.length c4, .slice a5 r.fContributions.length c5] 32)) (.cells #[.string x.fSymbol, .string x.fName, .int .i64 x.fTarget.fKind, .int .i64 x.fTarget.fN, .int .i64 x.fTarget.fPos, .int .i64 x.fTarget.fType, .string x.fTarget.fSymbol, .string x.fTarget.fName, .slice a8 x.fTarget.fArgs.length c8, .int .i64 x.fValue.fKind, .int .i64 x.fValue.fN, .int .i64 x.fValue.fPos, .int .i64 x.fValue.fType, .string x.fValue.fSymbol, .string x.fValue.fName, .slice a15 x.fValue.fArgs.length c15] 50)).heap[w.heap.size + 1]? = some (.cells #[.string x.fSymbol, .string x.fName, .int .i64 x.fTarget.fKind, .int .i64 x.fTarget.fN, .int .i64 x.fTarget.fPos, .int .i64 x.fTarget.fType, .string x.fTarget.fSymbol, .string x.fTarget.fName, .slice a8 x.fTarget.fArgs.length c8, .int .i64 x.fValue.fKind, .int .i64 x.fValue.fN, .int .i64 x.fValue.fPos, .int .i64 x.fValue.fType, .string x.fValue.fSymbol, .string x.fValue.fName, .slice a15 x.fValue.fArgs.length c15] 50) from (blk_new (by simp)))
  go_enter Tryz.func25, Tryz.ntmps25
  go_wp2_with fail
  refine (H0.out _ B0.out).mono ?_
  rintro e w1 ⟨rfl, hb1⟩
  have B1 := Lib.hid (B0.out.trans (hb1.mono B0.out.size))
  have S1 := Lib.hid (show w.heap.size + 2 ≤ w1.heap.size from Nat.le_trans (by rw [S0.out]; exact Nat.le_refl _) hb1.size)
  have X1_0 := Lib.hid ((hb1.block (w.heap.size) (by have := S0.out; omega)).trans X0_0.out)
  have X1_1 := Lib.hid ((hb1.block (w.heap.size + 1) (by have := S0.out; omega)).trans X0_1.out)
  clear hb1
  cases v0
  · go_wp2
    go_ret
    exact ⟨rfl, B1.out⟩
  · skip
    have y1_0_0 := pblk_cell (j := 0) (v := .string r.fName) X1_0.out rfl
    have y1_0_1 := pblk_cell (j := 1) (v := .string r.fLeft) X1_0.out rfl
    have y1_0_2 := pblk_cell (j := 2) (v := .slice a2 r.fRight.length c2) X1_0.out rfl
    have y1_0_3 := pblk_cell (j := 3) (v := .bool r.fLiteral) X1_0.out rfl
    have y1_0_4 := pblk_cell (j := 4) (v := .slice a4 r.fEquations.length c4) X1_0.out rfl
    have y1_0_5 := pblk_cell (j := 5) (v := .slice a5 r.fContributions.length c5) X1_0.out rfl
    have y1_1_0 := pblk_cell (j := 0) (v := .string x.fSymbol) X1_1.out rfl
    have y1_1_1 := pblk_cell (j := 1) (v := .string x.fName) X1_1.out rfl
    have y1_1_2 := pblk_cell (j := 2) (v := .int .i64 x.fTarget.fKind) X1_1.out rfl
    have y1_1_3 := pblk_cell (j := 3) (v := .int .i64 x.fTarget.fN) X1_1.out rfl
    have y1_1_4 := pblk_cell (j := 4) (v := .int .i64 x.fTarget.fPos) X1_1.out rfl
    have y1_1_5 := pblk_cell (j := 5) (v := .int .i64 x.fTarget.fType) X1_1.out rfl
    have y1_1_6 := pblk_cell (j := 6) (v := .string x.fTarget.fSymbol) X1_1.out rfl
    have y1_1_7 := pblk_cell (j := 7) (v := .string x.fTarget.fName) X1_1.out rfl
    have y1_1_8 := pblk_cell (j := 8) (v := .slice a8 x.fTarget.fArgs.length c8) X1_1.out rfl
    have y1_1_9 := pblk_cell (j := 9) (v := .int .i64 x.fValue.fKind) X1_1.out rfl
    have y1_1_10 := pblk_cell (j := 10) (v := .int .i64 x.fValue.fN) X1_1.out rfl
    have y1_1_11 := pblk_cell (j := 11) (v := .int .i64 x.fValue.fPos) X1_1.out rfl
    have y1_1_12 := pblk_cell (j := 12) (v := .int .i64 x.fValue.fType) X1_1.out rfl
    have y1_1_13 := pblk_cell (j := 13) (v := .string x.fValue.fSymbol) X1_1.out rfl
    have y1_1_14 := pblk_cell (j := 14) (v := .string x.fValue.fName) X1_1.out rfl
    have y1_1_15 := pblk_cell (j := 15) (v := .slice a15 x.fValue.fArgs.length c15) X1_1.out rfl
    go_wp2_with fail
    refine (H1.out _ B1.out).mono ?_
    rintro e w2 ⟨rfl, hb2⟩
    clear y1_0_0 y1_0_1 y1_0_2 y1_0_3 y1_0_4 y1_0_5 y1_1_0 y1_1_1 y1_1_2 y1_1_3 y1_1_4 y1_1_5 y1_1_6 y1_1_7 y1_1_8 y1_1_9 y1_1_10 y1_1_11 y1_1_12 y1_1_13 y1_1_14 y1_1_15
    have B2 := Lib.hid (B1.out.trans (hb2.mono B1.out.size))
    have S2 := Lib.hid (show w.heap.size + 2 ≤ w2.heap.size from Nat.le_trans S1.out hb2.size)
    have X2_0 := Lib.hid ((hb2.block (w.heap.size) (by have := S1.out; omega)).trans X1_0.out)
    have X2_1 := Lib.hid ((hb2.block (w.heap.size + 1) (by have := S1.out; omega)).trans X1_1.out)
    clear hb2
    cases v1
    · go_wp2
      go_ret
      exact ⟨rfl, B2.out⟩
    · skip
      have y2_0_0 := pblk_cell (j := 0) (v := .string r.fName) X2_0.out rfl
      have y2_0_1 := pblk_cell (j := 1) (v := .string r.fLeft) X2_0.out rfl
      have y2_0_2 := pblk_cell (j := 2) (v := .slice a2 r.fRight.length c2) X2_0.out rfl
      have y2_0_3 := pblk_cell (j := 3) (v := .bool r.fLiteral) X2_0.out rfl
      have y2_0_4 := pblk_cell (j := 4) (v := .slice a4 r.fEquations.length c4) X2_0.out rfl
      have y2_0_5 := pblk_cell (j := 5) (v := .slice a5 r.fContributions.length c5) X2_0.out rfl
      have y2_1_0 := pblk_cell (j := 0) (v := .string x.fSymbol) X2_1.out rfl
      have y2_1_1 := pblk_cell (j := 1) (v := .string x.fName) X2_1.out rfl
      have y2_1_2 := pblk_cell (j := 2) (v := .int .i64 x.fTarget.fKind) X2_1.out rfl
      have y2_1_3 := pblk_cell (j := 3) (v := .int .i64 x.fTarget.fN) X2_1.out rfl
      have y2_1_4 := pblk_cell (j := 4) (v := .int .i64 x.fTarget.fPos) X2_1.out rfl
      have y2_1_5 := pblk_cell (j := 5) (v := .int .i64 x.fTarget.fType) X2_1.out rfl
      have y2_1_6 := pblk_cell (j := 6) (v := .string x.fTarget.fSymbol) X2_1.out rfl
      have y2_1_7 := pblk_cell (j := 7) (v := .string x.fTarget.fName) X2_1.out rfl
      have y2_1_8 := pblk_cell (j := 8) (v := .slice a8 x.fTarget.fArgs.length c8) X2_1.out rfl
      have y2_1_9 := pblk_cell (j := 9) (v := .int .i64 x.fValue.fKind) X2_1.out rfl
      have y2_1_10 := pblk_cell (j := 10) (v := .int .i64 x.fValue.fN) X2_1.out rfl
      have y2_1_11 := pblk_cell (j := 11) (v := .int .i64 x.fValue.fPos) X2_1.out rfl
      have y2_1_12 := pblk_cell (j := 12) (v := .int .i64 x.fValue.fType) X2_1.out rfl
      have y2_1_13 := pblk_cell (j := 13) (v := .string x.fValue.fSymbol) X2_1.out rfl
      have y2_1_14 := pblk_cell (j := 14) (v := .string x.fValue.fName) X2_1.out rfl
      have y2_1_15 := pblk_cell (j := 15) (v := .slice a15 x.fValue.fArgs.length c15) X2_1.out rfl
      go_wp2_with fail
      refine (H2.out _ B2.out).mono ?_
      rintro e w3 ⟨rfl, hb3⟩
      clear y2_0_0 y2_0_1 y2_0_2 y2_0_3 y2_0_4 y2_0_5 y2_1_0 y2_1_1 y2_1_2 y2_1_3 y2_1_4 y2_1_5 y2_1_6 y2_1_7 y2_1_8 y2_1_9 y2_1_10 y2_1_11 y2_1_12 y2_1_13 y2_1_14 y2_1_15
      have B3 := Lib.hid (B2.out.trans (hb3.mono B2.out.size))
      have S3 := Lib.hid (show w.heap.size + 2 ≤ w3.heap.size from Nat.le_trans S2.out hb3.size)
      have X3_0 := Lib.hid ((hb3.block (w.heap.size) (by have := S2.out; omega)).trans X2_0.out)
      have X3_1 := Lib.hid ((hb3.block (w.heap.size + 1) (by have := S2.out; omega)).trans X2_1.out)
      clear hb3
      cases v2
      · go_wp2
        go_ret
        exact ⟨rfl, B3.out⟩
      · skip
        have y3_0_0 := pblk_cell (j := 0) (v := .string r.fName) X3_0.out rfl
        have y3_0_1 := pblk_cell (j := 1) (v := .string r.fLeft) X3_0.out rfl
        have y3_0_2 := pblk_cell (j := 2) (v := .slice a2 r.fRight.length c2) X3_0.out rfl
        have y3_0_3 := pblk_cell (j := 3) (v := .bool r.fLiteral) X3_0.out rfl
        have y3_0_4 := pblk_cell (j := 4) (v := .slice a4 r.fEquations.length c4) X3_0.out rfl
        have y3_0_5 := pblk_cell (j := 5) (v := .slice a5 r.fContributions.length c5) X3_0.out rfl
        have y3_1_0 := pblk_cell (j := 0) (v := .string x.fSymbol) X3_1.out rfl
        have y3_1_1 := pblk_cell (j := 1) (v := .string x.fName) X3_1.out rfl
        have y3_1_2 := pblk_cell (j := 2) (v := .int .i64 x.fTarget.fKind) X3_1.out rfl
        have y3_1_3 := pblk_cell (j := 3) (v := .int .i64 x.fTarget.fN) X3_1.out rfl
        have y3_1_4 := pblk_cell (j := 4) (v := .int .i64 x.fTarget.fPos) X3_1.out rfl
        have y3_1_5 := pblk_cell (j := 5) (v := .int .i64 x.fTarget.fType) X3_1.out rfl
        have y3_1_6 := pblk_cell (j := 6) (v := .string x.fTarget.fSymbol) X3_1.out rfl
        have y3_1_7 := pblk_cell (j := 7) (v := .string x.fTarget.fName) X3_1.out rfl
        have y3_1_8 := pblk_cell (j := 8) (v := .slice a8 x.fTarget.fArgs.length c8) X3_1.out rfl
        have y3_1_9 := pblk_cell (j := 9) (v := .int .i64 x.fValue.fKind) X3_1.out rfl
        have y3_1_10 := pblk_cell (j := 10) (v := .int .i64 x.fValue.fN) X3_1.out rfl
        have y3_1_11 := pblk_cell (j := 11) (v := .int .i64 x.fValue.fPos) X3_1.out rfl
        have y3_1_12 := pblk_cell (j := 12) (v := .int .i64 x.fValue.fType) X3_1.out rfl
        have y3_1_13 := pblk_cell (j := 13) (v := .string x.fValue.fSymbol) X3_1.out rfl
        have y3_1_14 := pblk_cell (j := 14) (v := .string x.fValue.fName) X3_1.out rfl
        have y3_1_15 := pblk_cell (j := 15) (v := .slice a15 x.fValue.fArgs.length c15) X3_1.out rfl
        go_wp2_with fail
        refine (H3.out _ B3.out).mono ?_
        rintro e w4 ⟨rfl, hb4⟩
        clear y3_0_0 y3_0_1 y3_0_2 y3_0_3 y3_0_4 y3_0_5 y3_1_0 y3_1_1 y3_1_2 y3_1_3 y3_1_4 y3_1_5 y3_1_6 y3_1_7 y3_1_8 y3_1_9 y3_1_10 y3_1_11 y3_1_12 y3_1_13 y3_1_14 y3_1_15
        have B4 := Lib.hid (B3.out.trans (hb4.mono B3.out.size))
        have S4 := Lib.hid (show w.heap.size + 2 ≤ w4.heap.size from Nat.le_trans S3.out hb4.size)
        have X4_0 := Lib.hid ((hb4.block (w.heap.size) (by have := S3.out; omega)).trans X3_0.out)
        have X4_1 := Lib.hid ((hb4.block (w.heap.size + 1) (by have := S3.out; omega)).trans X3_1.out)
        clear hb4
        go_wp2
        go_ret
        exact ⟨rfl, B4.out⟩

set_option maxHeartbeats 3200000 in
set_option maxRecDepth 100000 in
theorem impl_IsValidRule1 {hi c8 : Nat} {a8 : Option Addr} {a2 a4 a5 : Option Addr} {c2 c4 c5 : Nat} (r : DRule) (hn : r.fRight.length ≤ 1048576) (x : DEquation) (hok : x.ok) (hsz : x.sz ≤ 1048576) (q : Nat) (w : World) (hq : w.heap[q]? = some (.cells #[.string r.fName, .string r.fLeft, .slice a2 r.fRight.length c2, .bool r.fLiteral, .slice a4 r.fEquations.length c4, .slice a5 r.fContributions.length c5] 32)) (hql : q < w.heap.size) (hhi : hi ≤ w.heap.size) (hs8 : Sf 0 hi w 7 x.fExpr.fArgs.length (ctE x.fExpr.fArgs) a8) :
    Calls Tryz.prog 21 #[.agg #[.int .i64 x.fAt.fPos, .string x.fAt.fName, .int .i64 x.fExpr.fKind, .int .i64 x.fExpr.fN, .int .i64 x.fExpr.fPos, .int .i64 x.fExpr.fType, .string x.fExpr.fSymbol, .string x.fExpr.fName, .slice a8 x.fExpr.fArgs.length c8], .pointer (some ⟨q, 0, none⟩)] w fun e w' => e = .returned (.bool (eqOk r x)) ∧ Below w.heap.size w w' := by
  have HC := Lib.hid (fun (W : World) (hW : Below w.heap.size w W) => impl_isValidEquation (c8 := c8) (a2 := a2) (a4 := a4) (a5 := a5) (c2 := c2) (c4 := c4) (c5 := c5) r hn x hok hsz W (Nat.le_trans hhi hW.size) (hs8.later hW hhi))
  clear hs8 hok hsz hn
  generalize eqOk r x = v0 at *
  have B0 := Lib.hid (show Below w.heap.size w (World.alloc w (.cells #[.int .i64 x.fAt.fPos, .string x.fAt.fName, .int .i64 x.fExpr.fKind, .int .i64 x.fExpr.fN, .int .i64 x.fExpr.fPos, .int .i64 x.fExpr.fType, .string x.fExpr.fSymbol, .string x.fExpr.fName, .slice a8 x.fExpr.fArgs.length c8] 46)) from ((Below.refl w.heap.size w).alloc (Nat.le_refl _) (.cells #[.int .i64 x.fAt.fPos, .string x.fAt.fName, .int .i64 x.fExpr.fKind, .int .i64 x.fExpr.fN, .int .i64 x.fExpr.fPos, .int .i64 x.fExpr.fType, .string x.fExpr.fSymbol, .string x.fExpr.fName, .slice a8 x.fExpr.fArgs.length c8] 46)))
  have S0 := Lib.hid (show (World.alloc w (.cells #[.int .i64 x.fAt.fPos, .string x.fAt.fName, .int .i64 x.fExpr.fKind, .int .i64 x.fExpr.fN, .int .i64 x.fExpr.fPos, .int .i64 x.fExpr.fType, .string x.fExpr.fSymbol, .string x.fExpr.fName, .slice a8 x.fExpr.fArgs.length c8] 46)).heap.size = w.heap.size + 1 by simp)
  have X0_0 := Lib.hid (show (World.alloc w (.cells #[.int .i64 x.fAt.fPos, .string x.fAt.fName, .int .i64 x.fExpr.fKind, .int .i64 x.fExpr.fN, .int .i64 x.fExpr.fPos, .int .i64 x.fExpr.fType, .string x.fExpr.fSymbol, .string x.fExpr.fName, .slice a8 x.fExpr.fArgs.length c8] 46)).heap[w.heap.size]? = some (.cells #[.int .i64 x.fAt.fPos, .string x.fAt.fName, .int .i64 x.fExpr.fKind, .int .i64 x.fExpr.fN, .int .i64 x.fExpr.fPos, .int .i64 x.fExpr.fType, .string x.fExpr.fSymbol, .string x.fExpr.fName, .slice a8 x.fExpr.fArgs.length c8] 46) from (blk_new (by simp)))
  have Q0 := Lib.hid ((B0.out.block q hql).trans hq)
  go_enter Tryz.func21, Tryz.ntmps21
  have z0_0 := pblk_cell (w := (World.alloc w (.cells #[.int .i64 x.fAt.fPos, .string x.fAt.fName, .int .i64 x.fExpr.fKind, .int .i64 x.fExpr.fN, .int .i64 x.fExpr.fPos, .int .i64 x.fExpr.fType, .string x.fExpr.fSymbol, .string x.fExpr.fName, .slice a8 x.fExpr.fArgs.length c8] 46))) (j := 0) (v := .string r.fName) Q0.out rfl
  have z0_1 := pblk_cell (w := (World.alloc w (.cells #[.int .i64 x.fAt.fPos, .string x.fAt.fName, .int .i64 x.fExpr.fKind, .int .i64 x.fExpr.fN, .int .i64 x.fExpr.fPos, .int .i64 x.fExpr.fType, .string x.fExpr.fSymbol, .string x.fExpr.fName, .slice a8 x.fExpr.fArgs.length c8] 46))) (j := 1) (v := .string r.fLeft) Q0.out rfl
  have z0_2 := pblk_cell (w := (World.alloc w (.cells #[.int .i64 x.fAt.fPos, .string x.fAt.fName, .int .i64 x.fExpr.fKind, .int .i64 x.fExpr.fN, .int .i64 x.fExpr.fPos, .int .i64 x.fExpr.fType, .string x.fExpr.fSymbol, .string x.fExpr.fName, .slice a8 x.fExpr.fArgs.length c8] 46))) (j := 2) (v := .slice a2 r.fRight.length c2) Q0.out rfl
  have z0_3 := pblk_cell (w := (World.alloc w (.cells #[.int .i64 x.fAt.fPos, .string x.fAt.fName, .int .i64 x.fExpr.fKind, .int .i64 x.fExpr.fN, .int .i64 x.fExpr.fPos, .int .i64 x.fExpr.fType, .string x.fExpr.fSymbol, .string x.fExpr.fName, .slice a8 x.fExpr.fArgs.length c8] 46))) (j := 3) (v := .bool r.fLiteral) Q0.out rfl
  have z0_4 := pblk_cell (w := (World.alloc w (.cells #[.int .i64 x.fAt.fPos, .string x.fAt.fName, .int .i64 x.fExpr.fKind, .int .i64 x.fExpr.fN, .int .i64 x.fExpr.fPos, .int .i64 x.fExpr.fType, .string x.fExpr.fSymbol, .string x.fExpr.fName, .slice a8 x.fExpr.fArgs.length c8] 46))) (j := 4) (v := .slice a4 r.fEquations.length c4) Q0.out rfl
  have z0_5 := pblk_cell (w := (World.alloc w (.cells #[.int .i64 x.fAt.fPos, .string x.fAt.fName, .int .i64 x.fExpr.fKind, .int .i64 x.fExpr.fN, .int .i64 x.fExpr.fPos, .int .i64 x.fExpr.fType, .string x.fExpr.fSymbol, .string x.fExpr.fName, .slice a8 x.fExpr.fArgs.length c8] 46))) (j := 5) (v := .slice a5 r.fContributions.length c5) Q0.out rfl
  go_wp2_with fail
  refine (HC.out _ B0.out).mono ?_
  rintro e w1 ⟨rfl, hb1⟩
  clear z0_0 z0_1 z0_2 z0_3 z0_4 z0_5
  have B1 := Lib.hid (B0.out.trans (hb1.mono B0.out.size))
  have S1 := Lib.hid (show w.heap.size + 1 ≤ w1.heap.size from Nat.le_trans (by rw [S0.out]; exact Nat.le_refl _) hb1.size)
  have X1_0 := Lib.hid ((hb1.block (w.heap.size) (by have := S0.out; omega)).trans X0_0.out)
  have Q1 := Lib.hid ((hb1.block q (Nat.lt_of_lt_of_le hql B0.out.size)).trans Q0.out)
  clear hb1
  go_wp2
  go_ret
  exact ⟨rfl, B1.out⟩

set_option maxHeartbeats 3200000 in
set_option maxRecDepth 100000 in
theorem impl_IsValidRule2 {hi c8 c15 : Nat} {a8 a15 : Option Addr} {a2 a4 a5 : Option Addr} {c2 c4 c5 : Nat} (r : DRule) (hn : r.fRight.length ≤ 1048576) (x : DContribution) (hok : x.ok) (hsz : x.sz ≤ 1048576) (q : Nat) (w : World) (hq : w.heap[q]? = some (.cells #[.string r.fName, .string r.fLeft, .slice a2 r.fRight.length c2, .bool r.fLiteral, .slice a4 r.fEquations.length c4, .slice a5 r.fContributions.length c5] 32)) (hql : q < w.heap.size) (hhi : hi ≤ w.heap.size) (hs8 : Sf 0 hi w 7 x.fTarget.fArgs.length (ctE x.fTarget.fArgs) a8) (hs15 : Sf 0 hi w 7 x.fValue.fArgs.length (ctE x.fValue.fArgs) a15) :
    Calls Tryz.prog 24 #[.agg #[.string x.fSymbol, .string x.fName, .int .i64 x.fTarget.fKind, .int .i64 x.fTarget.fN, .int .i64 x.fTarget.fPos, .int .i64 x.fTarget.fType, .string x.fTarget.fSymbol, .string x.fTarget.fName, .slice a8 x.fTarget.fArgs.length c8, .int .i64 x.fValue.fKind, .int .i64 x.fValue.fN, .int .i64 x.fValue.fPos, .int .i64 x.fValue.fType, .string x.fValue.fSymbol, .string x.fValue.fName, .slice a15 x.fValue.fArgs.length c15], .pointer (some ⟨q, 0, none⟩)] w fun e w' => e = .returned (.bool (coOk r x)) ∧ Below w.heap.size w w' := by
  have HC := Lib.hid (fun (W : World) (hW : Below w.heap.size w W) => impl_isValidContribution (c8 := c8) (c15 := c15) (a2 := a2) (a4 := a4) (a5 := a5) (c2 := c2) (c4 := c4) (c5 := c5) r hn x hok hsz W (Nat.le_trans hhi hW.size) (hs8.later hW hhi) (hs15.later hW hhi))
  clear hs8 hs15 hok hsz hn
  generalize coOk r x = v0 at *
  have B0 := Lib.hid (show Below w.heap.size w (World.alloc w (.cells #[.string x.fSymbol, .string x.fName, .int .i64 x.fTarget.fKind, .int .i64 x.fTarget.fN, .int .i64 x.fTarget.fPos, .int .i64 x.fTarget.fType, .string x.fTarget.fSymbol, .string x.fTarget.fName, .slice a8 x.fTarget.fArgs.length c8, .int .i64 x.fValue.fKind, .int .i64 x.fValue.fN, .int .i64 x.fValue.fPos, .int .i64 x.fValue.fType, .string x.fValue.fSymbol, .string x.fValue.fName, .slice a15 x.fValue.fArgs.length c15] 50)) from ((Below.refl w.heap.size w).alloc (Nat.le_refl _) (.cells #[.string x.fSymbol, .string x.fName, .int .i64 x.fTarget.fKind, .int .i64 x.fTarget.fN, .int .i64 x.fTarget.fPos, .int .i64 x.fTarget.fType, .string x.fTarget.fSymbol, .string x.fTarget.fName, .slice a8 x.fTarget.fArgs.length c8, .int .i64 x.fValue.fKind, .int .i64 x.fValue.fN, .int .i64 x.fValue.fPos, .int .i64 x.fValue.fType, .string x.fValue.fSymbol, .string x.fValue.fName, .slice a15 x.fValue.fArgs.length c15] 50)))
  have S0 := Lib.hid (show (World.alloc w (.cells #[.string x.fSymbol, .string x.fName, .int .i64 x.fTarget.fKind, .int .i64 x.fTarget.fN, .int .i64 x.fTarget.fPos, .int .i64 x.fTarget.fType, .string x.fTarget.fSymbol, .string x.fTarget.fName, .slice a8 x.fTarget.fArgs.length c8, .int .i64 x.fValue.fKind, .int .i64 x.fValue.fN, .int .i64 x.fValue.fPos, .int .i64 x.fValue.fType, .string x.fValue.fSymbol, .string x.fValue.fName, .slice a15 x.fValue.fArgs.length c15] 50)).heap.size = w.heap.size + 1 by simp)
  have X0_0 := Lib.hid (show (World.alloc w (.cells #[.string x.fSymbol, .string x.fName, .int .i64 x.fTarget.fKind, .int .i64 x.fTarget.fN, .int .i64 x.fTarget.fPos, .int .i64 x.fTarget.fType, .string x.fTarget.fSymbol, .string x.fTarget.fName, .slice a8 x.fTarget.fArgs.length c8, .int .i64 x.fValue.fKind, .int .i64 x.fValue.fN, .int .i64 x.fValue.fPos, .int .i64 x.fValue.fType, .string x.fValue.fSymbol, .string x.fValue.fName, .slice a15 x.fValue.fArgs.length c15] 50)).heap[w.heap.size]? = some (.cells #[.string x.fSymbol, .string x.fName, .int .i64 x.fTarget.fKind, .int .i64 x.fTarget.fN, .int .i64 x.fTarget.fPos, .int .i64 x.fTarget.fType, .string x.fTarget.fSymbol, .string x.fTarget.fName, .slice a8 x.fTarget.fArgs.length c8, .int .i64 x.fValue.fKind, .int .i64 x.fValue.fN, .int .i64 x.fValue.fPos, .int .i64 x.fValue.fType, .string x.fValue.fSymbol, .string x.fValue.fName, .slice a15 x.fValue.fArgs.length c15] 50) from (blk_new (by simp)))
  have Q0 := Lib.hid ((B0.out.block q hql).trans hq)
  go_enter Tryz.func24, Tryz.ntmps24
  have z0_0 := pblk_cell (w := (World.alloc w (.cells #[.string x.fSymbol, .string x.fName, .int .i64 x.fTarget.fKind, .int .i64 x.fTarget.fN, .int .i64 x.fTarget.fPos, .int .i64 x.fTarget.fType, .string x.fTarget.fSymbol, .string x.fTarget.fName, .slice a8 x.fTarget.fArgs.length c8, .int .i64 x.fValue.fKind, .int .i64 x.fValue.fN, .int .i64 x.fValue.fPos, .int .i64 x.fValue.fType, .string x.fValue.fSymbol, .string x.fValue.fName, .slice a15 x.fValue.fArgs.length c15] 50))) (j := 0) (v := .string r.fName) Q0.out rfl
  have z0_1 := pblk_cell (w := (World.alloc w (.cells #[.string x.fSymbol, .string x.fName, .int .i64 x.fTarget.fKind, .int .i64 x.fTarget.fN, .int .i64 x.fTarget.fPos, .int .i64 x.fTarget.fType, .string x.fTarget.fSymbol, .string x.fTarget.fName, .slice a8 x.fTarget.fArgs.length c8, .int .i64 x.fValue.fKind, .int .i64 x.fValue.fN, .int .i64 x.fValue.fPos, .int .i64 x.fValue.fType, .string x.fValue.fSymbol, .string x.fValue.fName, .slice a15 x.fValue.fArgs.length c15] 50))) (j := 1) (v := .string r.fLeft) Q0.out rfl
  have z0_2 := pblk_cell (w := (World.alloc w (.cells #[.string x.fSymbol, .string x.fName, .int .i64 x.fTarget.fKind, .int .i64 x.fTarget.fN, .int .i64 x.fTarget.fPos, .int .i64 x.fTarget.fType, .string x.fTarget.fSymbol, .string x.fTarget.fName, .slice a8 x.fTarget.fArgs.length c8, .int .i64 x.fValue.fKind, .int .i64 x.fValue.fN, .int .i64 x.fValue.fPos, .int .i64 x.fValue.fType, .string x.fValue.fSymbol, .string x.fValue.fName, .slice a15 x.fValue.fArgs.length c15] 50))) (j := 2) (v := .slice a2 r.fRight.length c2) Q0.out rfl
  have z0_3 := pblk_cell (w := (World.alloc w (.cells #[.string x.fSymbol, .string x.fName, .int .i64 x.fTarget.fKind, .int .i64 x.fTarget.fN, .int .i64 x.fTarget.fPos, .int .i64 x.fTarget.fType, .string x.fTarget.fSymbol, .string x.fTarget.fName, .slice a8 x.fTarget.fArgs.length c8, .int .i64 x.fValue.fKind, .int .i64 x.fValue.fN, .int .i64 x.fValue.fPos, .int .i64 x.fValue.fType, .string x.fValue.fSymbol, .string x.fValue.fName, .slice a15 x.fValue.fArgs.length c15] 50))) (j := 3) (v := .bool r.fLiteral) Q0.out rfl
  have z0_4 := pblk_cell (w := (World.alloc w (.cells #[.string x.fSymbol, .string x.fName, .int .i64 x.fTarget.fKind, .int .i64 x.fTarget.fN, .int .i64 x.fTarget.fPos, .int .i64 x.fTarget.fType, .string x.fTarget.fSymbol, .string x.fTarget.fName, .slice a8 x.fTarget.fArgs.length c8, .int .i64 x.fValue.fKind, .int .i64 x.fValue.fN, .int .i64 x.fValue.fPos, .int .i64 x.fValue.fType, .string x.fValue.fSymbol, .string x.fValue.fName, .slice a15 x.fValue.fArgs.length c15] 50))) (j := 4) (v := .slice a4 r.fEquations.length c4) Q0.out rfl
  have z0_5 := pblk_cell (w := (World.alloc w (.cells #[.string x.fSymbol, .string x.fName, .int .i64 x.fTarget.fKind, .int .i64 x.fTarget.fN, .int .i64 x.fTarget.fPos, .int .i64 x.fTarget.fType, .string x.fTarget.fSymbol, .string x.fTarget.fName, .slice a8 x.fTarget.fArgs.length c8, .int .i64 x.fValue.fKind, .int .i64 x.fValue.fN, .int .i64 x.fValue.fPos, .int .i64 x.fValue.fType, .string x.fValue.fSymbol, .string x.fValue.fName, .slice a15 x.fValue.fArgs.length c15] 50))) (j := 5) (v := .slice a5 r.fContributions.length c5) Q0.out rfl
  go_wp2_with fail
  refine (HC.out _ B0.out).mono ?_
  rintro e w1 ⟨rfl, hb1⟩
  clear z0_0 z0_1 z0_2 z0_3 z0_4 z0_5
  have B1 := Lib.hid (B0.out.trans (hb1.mono B0.out.size))
  have S1 := Lib.hid (show w.heap.size + 1 ≤ w1.heap.size from Nat.le_trans (by rw [S0.out]; exact Nat.le_refl _) hb1.size)
  have X1_0 := Lib.hid ((hb1.block (w.heap.size) (by have := S0.out; omega)).trans X0_0.out)
  have Q1 := Lib.hid ((hb1.block q (Nat.lt_of_lt_of_le hql B0.out.size)).trans Q0.out)
  clear hb1
  go_wp2
  go_ret
  exact ⟨rfl, B1.out⟩
end Go.Proofs.YteeehpldkhceoaaGreat
