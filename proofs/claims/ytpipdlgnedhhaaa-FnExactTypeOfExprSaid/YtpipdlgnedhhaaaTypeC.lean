/-
  TypeOfExpr: the closure.
-/
import Derived.Test.YtpipdlgnedhhaaaTypeXAll
import Derived.StillTailTactics
namespace Go.Proofs.Ytpipdlgnedhhaaa
open Go.ChangeShapes Go.WideShapes Go.ChangeAt Go.RowKit Go.Deep

theorem heap_ltT {w : World} {b : Nat} {ob : Obj} (h : w.heap[b]? = some ob) : b < w.heap.size := by
  rcases Nat.lt_or_ge b w.heap.size with h1 | h1
  · exact h1
  · rw [Array.getElem?_eq_none h1] at h; cases h

set_option maxHeartbeats 6400000 in
set_option maxRecDepth 100000 in
theorem typeC {lo hi c C q0 q1 br : Nat} {a : Option Addr} {a0 a1 b2 b4 b5 : Option Addr} {c0_0 c0_1 c1_0 c1_1 c1_2 : Nat} (g : DGrammar) (okg : g.ok) (hszg : g.sz ≤ 1048576) (x : DRule) (okx : x.ok) (hszx : x.sz ≤ 1048576) (nd : ENode) (zs : List Int) (okp : okI nd.fPos) (hn : nd.fName.size ≤ 1048576) (hs : nd.fSymbol.size ≤ 1048576) (w : World) (hhi : hi ≤ w.heap.size) (hs0 : Sl lo hi w 2 g.fSymbols.length (fun k => DSymbol.ct (g.fSymbols.getD k default)) a0) (hs1 : Sl lo hi w 6 g.fRules.length (fun k => DRule.ct (g.fRules.getD k default)) a1) (hs2 : Sl lo hi w 1 x.fRight.length (fun k => ictS (x.fRight.getD k default)) b2) (hs4 : Sl lo hi w 9 x.fEquations.length (fun k => DEquation.ct (x.fEquations.getD k default)) b4) (hs5 : Sl lo hi w 16 x.fContributions.length (fun k => DContribution.ct (x.fContributions.getD k default)) b5) (hq0 : w.heap[q0]? = some (.cells #[.slice (some ⟨br, 0, none⟩) 9 9] 73)) (hq1 : w.heap[q1]? = some (.cells #[.slice a0 g.fSymbols.length c0_0, .slice a1 g.fRules.length c0_1, .string x.fName, .string x.fLeft, .slice b2 x.fRight.length c1_0, .bool x.fLiteral, .slice b4 x.fEquations.length c1_1, .slice b5 x.fContributions.length c1_2] 72)) (hbr : w.heap[br]? = some (.cells #[.nilFunc, .func (.func 50) #[] #[], .func (.func 51) #[] #[], .func (.func 52) #[] #[], .func (.func 53) #[] #[], .func (.func 54) #[] #[], .func (.func 55) #[] #[], .func (.func 56) #[] #[], .func (.func 57) #[] #[]] 82)) (hown : w.ownsRow C 3 1 (.slice a zs.length c) zs.length (zs.flatMap valsint)) :
    Calls Try.prog 34 #[.agg #[.int .i64 nd.fKind, .int .i64 nd.fN, .int .i64 nd.fPos, .int .i64 nd.fType, .string nd.fSymbol, .string nd.fName, .int .i64 (nd.fArgs : Int), .int .i64 (nd.fDepth : Int)], .slice a zs.length c, .pointer (some ⟨q0, 0, none⟩), .pointer (some ⟨q1, 0, none⟩)] w fun e w' => e = .returned (.int .i64 (combT g x nd zs)) ∧ Below w.heap.size w w' := by
  have h : (nd.fKind < 1 ∨ 8 < nd.fKind) ∨ nd.fKind = 1 ∨ nd.fKind = 2 ∨ nd.fKind = 3 ∨ nd.fKind = 4 ∨ nd.fKind = 5 ∨ nd.fKind = 6 ∨ nd.fKind = 7 ∨ nd.fKind = 8 := by omega
  rcases h with h | h | h | h | h | h | h | h | h
  · have HB := Lib.hid ((Below.refl w.heap.size w).alloc (Nat.le_refl _) (.cells #[.int .i64 nd.fKind, .int .i64 nd.fN, .int .i64 nd.fPos, .int .i64 nd.fType, .string nd.fSymbol, .string nd.fName, .int .i64 (nd.fArgs : Int), .int .i64 (nd.fDepth : Int)] 79))
    rw [combT_0 h]
    by_cases h1 : nd.fKind < 1
    · have hd : decide (nd.fKind < 1) = true := by simpa using h1
      clear h1 h hown hq0 hq1 hbr
      go_enter Try.func34, Try.ntmps34
      go_wp2
      go_ret
      exact ⟨rfl, HB.out⟩
    · have hd : decide (nd.fKind < 1) = false := by simpa using h1
      have hd2 : decide (8 < nd.fKind) = true := by simp; omega
      clear h1 h hown hq0 hq1 hbr
      go_enter Try.func34, Try.ntmps34
      go_wp2
      go_ret
      exact ⟨rfl, HB.out⟩

  · rw [combT_1 h]
    have HC := Lib.hid (fun (W : World) (hW : Below w.heap.size w W) => (show Calls Try.prog 50 #[.agg #[.slice a0 g.fSymbols.length c0_0, .slice a1 g.fRules.length c0_1, .string x.fName, .string x.fLeft, .slice b2 x.fRight.length c1_0, .bool x.fLiteral, .slice b4 x.fEquations.length c1_1, .slice b5 x.fContributions.length c1_2], .agg #[.int .i64 nd.fKind, .int .i64 nd.fN, .int .i64 nd.fPos, .int .i64 nd.fType, .string nd.fSymbol, .string nd.fName, .int .i64 (nd.fArgs : Int), .int .i64 (nd.fDepth : Int)], .slice a zs.length c] W fun e w' => e = .returned (.int .i64 (nd.fType)) ∧ Below W.heap.size W w' from typeOfConst nd zs W))
    obtain ⟨nKind, nN, nPos, nType, nSymbol, nName, nArgs, nDepth⟩ := nd
    dsimp only at h HC ⊢
    subst h
    have HB := Lib.hid ((Below.refl w.heap.size w).alloc (Nat.le_refl _) (.cells #[.int .i64 1, .int .i64 nN, .int .i64 nPos, .int .i64 nType, .string nSymbol, .string nName, .int .i64 (nArgs : Int), .int .i64 (nDepth : Int)] 79))
    have hlt0 : q0 < w.heap.size := heap_ltT hq0
    have hlt1 : q1 < w.heap.size := heap_ltT hq1
    have hltr : br < w.heap.size := heap_ltT hbr
    have k0 : (w.alloc (.cells #[.int .i64 1, .int .i64 nN, .int .i64 nPos, .int .i64 nType, .string nSymbol, .string nName, .int .i64 (nArgs : Int), .int .i64 (nDepth : Int)] 79)).heap[q0]? = _ := (heap_alloc_old w _ hlt0).trans hq0
    have k1 : (w.alloc (.cells #[.int .i64 1, .int .i64 nN, .int .i64 nPos, .int .i64 nType, .string nSymbol, .string nName, .int .i64 (nArgs : Int), .int .i64 (nDepth : Int)] 79)).heap[q1]? = _ := (heap_alloc_old w _ hlt1).trans hq1
    have kr : (w.alloc (.cells #[.int .i64 1, .int .i64 nN, .int .i64 nPos, .int .i64 nType, .string nSymbol, .string nName, .int .i64 (nArgs : Int), .int .i64 (nDepth : Int)] 79)).heap[br]? = _ := (heap_alloc_old w _ hltr).trans hbr
    have kn : (w.alloc (.cells #[.int .i64 1, .int .i64 nN, .int .i64 nPos, .int .i64 nType, .string nSymbol, .string nName, .int .i64 (nArgs : Int), .int .i64 (nDepth : Int)] 79)).heap[w.heap.size]? = some (.cells #[.int .i64 1, .int .i64 nN, .int .i64 nPos, .int .i64 nType, .string nSymbol, .string nName, .int .i64 (nArgs : Int), .int .i64 (nDepth : Int)] 79) := heap_alloc_new w _
    clear hlt0 hlt1 hltr hown hq0 hq1 hbr okg hszg okx hszx hs0 hs1 hs2 hs4 hs5 hhi okp hn hs
    go_enter Try.func34, Try.ntmps34
    go_wp2
    generalize w.alloc (.cells #[.int .i64 1, .int .i64 nN, .int .i64 nPos, .int .i64 nType, .string nSymbol, .string nName, .int .i64 (nArgs : Int), .int .i64 (nDepth : Int)] 79) = W1 at *
    have d0 : W1.cell? ⟨q0, 0, none⟩ = some (.slice (some ⟨br, 0, none⟩) 9 9) := by simp [World.cell?, k0]
    have dr : W1.cell? ⟨br, 1, none⟩ = some (.func (.func 50) #[] #[]) := by simp [World.cell?, kr]
    have d1_0 : W1.cell? ⟨q1, 0, none⟩ = some (.slice a0 g.fSymbols.length c0_0) := by simp [World.cell?, k1]
    have d1_1 : W1.cell? ⟨q1, 1, none⟩ = some (.slice a1 g.fRules.length c0_1) := by simp [World.cell?, k1]
    have d1_2 : W1.cell? ⟨q1, 2, none⟩ = some (.string x.fName) := by simp [World.cell?, k1]
    have d1_3 : W1.cell? ⟨q1, 3, none⟩ = some (.string x.fLeft) := by simp [World.cell?, k1]
    have d1_4 : W1.cell? ⟨q1, 4, none⟩ = some (.slice b2 x.fRight.length c1_0) := by simp [World.cell?, k1]
    have d1_5 : W1.cell? ⟨q1, 5, none⟩ = some (.bool x.fLiteral) := by simp [World.cell?, k1]
    have d1_6 : W1.cell? ⟨q1, 6, none⟩ = some (.slice b4 x.fEquations.length c1_1) := by simp [World.cell?, k1]
    have d1_7 : W1.cell? ⟨q1, 7, none⟩ = some (.slice b5 x.fContributions.length c1_2) := by simp [World.cell?, k1]
    have dn_0 : W1.cell? ⟨w.heap.size, 0, none⟩ = some (.int .i64 1) := by simp [World.cell?, kn]
    have dn_1 : W1.cell? ⟨w.heap.size, 1, none⟩ = some (.int .i64 nN) := by simp [World.cell?, kn]
    have dn_2 : W1.cell? ⟨w.heap.size, 2, none⟩ = some (.int .i64 nPos) := by simp [World.cell?, kn]
    have dn_3 : W1.cell? ⟨w.heap.size, 3, none⟩ = some (.int .i64 nType) := by simp [World.cell?, kn]
    have dn_4 : W1.cell? ⟨w.heap.size, 4, none⟩ = some (.string nSymbol) := by simp [World.cell?, kn]
    have dn_5 : W1.cell? ⟨w.heap.size, 5, none⟩ = some (.string nName) := by simp [World.cell?, kn]
    have dn_6 : W1.cell? ⟨w.heap.size, 6, none⟩ = some (.int .i64 (nArgs : Int)) := by simp [World.cell?, kn]
    have dn_7 : W1.cell? ⟨w.heap.size, 7, none⟩ = some (.int .i64 (nDepth : Int)) := by simp [World.cell?, kn]
    clear k0 k1 kr kn
    go_still_tail 9, (by kernel_rfl)
    change wpList _ _ _ _ _ W1.drew
    have HB2 := Lib.hid (show Below w.heap.size w W1.drew from below_drewN HB.out 1)
    generalize W1.drew = w2 at *
    go_wp2_with fail
    refine (HC.out _ HB2.out).mono ?_
    rintro e w3 ⟨rfl, hb3⟩
    have HB3 := Lib.hid (HB2.out.trans (hb3.mono HB2.out.size))
    clear hb3
    go_wp2
    go_ret
    exact ⟨rfl, HB3.out⟩

  · rw [combT_2 h]
    have HC := Lib.hid (fun (W : World) (hW : Below w.heap.size w W) => (show Calls Try.prog 51 #[.agg #[.slice a0 g.fSymbols.length c0_0, .slice a1 g.fRules.length c0_1, .string x.fName, .string x.fLeft, .slice b2 x.fRight.length c1_0, .bool x.fLiteral, .slice b4 x.fEquations.length c1_1, .slice b5 x.fContributions.length c1_2], .agg #[.int .i64 nd.fKind, .int .i64 nd.fN, .int .i64 nd.fPos, .int .i64 nd.fType, .string nd.fSymbol, .string nd.fName, .int .i64 (nd.fArgs : Int), .int .i64 (nd.fDepth : Int)], .slice a zs.length c] W fun e w' => e = .returned (.int .i64 ((if x.fLiteral = true then 1 else 0))) ∧ Below W.heap.size W w' from typeOfLiteral nd zs W))
    obtain ⟨nKind, nN, nPos, nType, nSymbol, nName, nArgs, nDepth⟩ := nd
    dsimp only at h HC ⊢
    subst h
    generalize ((if x.fLiteral = true then 1 else 0) : Int) = v at *
    have HB := Lib.hid ((Below.refl w.heap.size w).alloc (Nat.le_refl _) (.cells #[.int .i64 2, .int .i64 nN, .int .i64 nPos, .int .i64 nType, .string nSymbol, .string nName, .int .i64 (nArgs : Int), .int .i64 (nDepth : Int)] 79))
    have hlt0 : q0 < w.heap.size := heap_ltT hq0
    have hlt1 : q1 < w.heap.size := heap_ltT hq1
    have hltr : br < w.heap.size := heap_ltT hbr
    have k0 : (w.alloc (.cells #[.int .i64 2, .int .i64 nN, .int .i64 nPos, .int .i64 nType, .string nSymbol, .string nName, .int .i64 (nArgs : Int), .int .i64 (nDepth : Int)] 79)).heap[q0]? = _ := (heap_alloc_old w _ hlt0).trans hq0
    have k1 : (w.alloc (.cells #[.int .i64 2, .int .i64 nN, .int .i64 nPos, .int .i64 nType, .string nSymbol, .string nName, .int .i64 (nArgs : Int), .int .i64 (nDepth : Int)] 79)).heap[q1]? = _ := (heap_alloc_old w _ hlt1).trans hq1
    have kr : (w.alloc (.cells #[.int .i64 2, .int .i64 nN, .int .i64 nPos, .int .i64 nType, .string nSymbol, .string nName, .int .i64 (nArgs : Int), .int .i64 (nDepth : Int)] 79)).heap[br]? = _ := (heap_alloc_old w _ hltr).trans hbr
    have kn : (w.alloc (.cells #[.int .i64 2, .int .i64 nN, .int .i64 nPos, .int .i64 nType, .string nSymbol, .string nName, .int .i64 (nArgs : Int), .int .i64 (nDepth : Int)] 79)).heap[w.heap.size]? = some (.cells #[.int .i64 2, .int .i64 nN, .int .i64 nPos, .int .i64 nType, .string nSymbol, .string nName, .int .i64 (nArgs : Int), .int .i64 (nDepth : Int)] 79) := heap_alloc_new w _
    clear hlt0 hlt1 hltr hown hq0 hq1 hbr okg hszg okx hszx hs0 hs1 hs2 hs4 hs5 hhi okp hn hs
    go_enter Try.func34, Try.ntmps34
    go_wp2
    generalize w.alloc (.cells #[.int .i64 2, .int .i64 nN, .int .i64 nPos, .int .i64 nType, .string nSymbol, .string nName, .int .i64 (nArgs : Int), .int .i64 (nDepth : Int)] 79) = W1 at *
    have d0 : W1.cell? ⟨q0, 0, none⟩ = some (.slice (some ⟨br, 0, none⟩) 9 9) := by simp [World.cell?, k0]
    have dr : W1.cell? ⟨br, 2, none⟩ = some (.func (.func 51) #[] #[]) := by simp [World.cell?, kr]
    have d1_0 : W1.cell? ⟨q1, 0, none⟩ = some (.slice a0 g.fSymbols.length c0_0) := by simp [World.cell?, k1]
    have d1_1 : W1.cell? ⟨q1, 1, none⟩ = some (.slice a1 g.fRules.length c0_1) := by simp [World.cell?, k1]
    have d1_2 : W1.cell? ⟨q1, 2, none⟩ = some (.string x.fName) := by simp [World.cell?, k1]
    have d1_3 : W1.cell? ⟨q1, 3, none⟩ = some (.string x.fLeft) := by simp [World.cell?, k1]
    have d1_4 : W1.cell? ⟨q1, 4, none⟩ = some (.slice b2 x.fRight.length c1_0) := by simp [World.cell?, k1]
    have d1_5 : W1.cell? ⟨q1, 5, none⟩ = some (.bool x.fLiteral) := by simp [World.cell?, k1]
    have d1_6 : W1.cell? ⟨q1, 6, none⟩ = some (.slice b4 x.fEquations.length c1_1) := by simp [World.cell?, k1]
    have d1_7 : W1.cell? ⟨q1, 7, none⟩ = some (.slice b5 x.fContributions.length c1_2) := by simp [World.cell?, k1]
    have dn_0 : W1.cell? ⟨w.heap.size, 0, none⟩ = some (.int .i64 2) := by simp [World.cell?, kn]
    have dn_1 : W1.cell? ⟨w.heap.size, 1, none⟩ = some (.int .i64 nN) := by simp [World.cell?, kn]
    have dn_2 : W1.cell? ⟨w.heap.size, 2, none⟩ = some (.int .i64 nPos) := by simp [World.cell?, kn]
    have dn_3 : W1.cell? ⟨w.heap.size, 3, none⟩ = some (.int .i64 nType) := by simp [World.cell?, kn]
    have dn_4 : W1.cell? ⟨w.heap.size, 4, none⟩ = some (.string nSymbol) := by simp [World.cell?, kn]
    have dn_5 : W1.cell? ⟨w.heap.size, 5, none⟩ = some (.string nName) := by simp [World.cell?, kn]
    have dn_6 : W1.cell? ⟨w.heap.size, 6, none⟩ = some (.int .i64 (nArgs : Int)) := by simp [World.cell?, kn]
    have dn_7 : W1.cell? ⟨w.heap.size, 7, none⟩ = some (.int .i64 (nDepth : Int)) := by simp [World.cell?, kn]
    clear k0 k1 kr kn
    go_still_tail 9, (by kernel_rfl)
    change wpList _ _ _ _ _ W1.drew
    have HB2 := Lib.hid (show Below w.heap.size w W1.drew from below_drewN HB.out 1)
    generalize W1.drew = w2 at *
    go_wp2_with fail
    refine (HC.out _ HB2.out).mono ?_
    rintro e w3 ⟨rfl, hb3⟩
    have HB3 := Lib.hid (HB2.out.trans (hb3.mono HB2.out.size))
    clear hb3
    go_wp2
    go_ret
    exact ⟨rfl, HB3.out⟩

  · rw [combT_3 h]
    have HC := Lib.hid (fun (W : World) (hW : Below w.heap.size w W) => (show Calls Try.prog 52 #[.agg #[.slice a0 g.fSymbols.length c0_0, .slice a1 g.fRules.length c0_1, .string x.fName, .string x.fLeft, .slice b2 x.fRight.length c1_0, .bool x.fLiteral, .slice b4 x.fEquations.length c1_1, .slice b5 x.fContributions.length c1_2], .agg #[.int .i64 nd.fKind, .int .i64 nd.fN, .int .i64 nd.fPos, .int .i64 nd.fType, .string nd.fSymbol, .string nd.fName, .int .i64 (nd.fArgs : Int), .int .i64 (nd.fDepth : Int)], .slice a zs.length c] W fun e w' => e = .returned (.int .i64 ((attAt g x ⟨nd.fPos, nd.fName⟩).1.fType)) ∧ Below W.heap.size W w' from typeOfAttr (c := c) (a := a) g okg hszg x okx hszx W (Nat.le_trans hhi hW.size) (hs0.later hW hhi) (hs1.later hW hhi) (hs2.later hW hhi) (hs4.later hW hhi) (hs5.later hW hhi) nd zs okp hn))
    obtain ⟨nKind, nN, nPos, nType, nSymbol, nName, nArgs, nDepth⟩ := nd
    dsimp only at h HC ⊢
    subst h
    generalize ((attAt g x ⟨nPos, nName⟩).1.fType : Int) = v at *
    have HB := Lib.hid ((Below.refl w.heap.size w).alloc (Nat.le_refl _) (.cells #[.int .i64 3, .int .i64 nN, .int .i64 nPos, .int .i64 nType, .string nSymbol, .string nName, .int .i64 (nArgs : Int), .int .i64 (nDepth : Int)] 79))
    have hlt0 : q0 < w.heap.size := heap_ltT hq0
    have hlt1 : q1 < w.heap.size := heap_ltT hq1
    have hltr : br < w.heap.size := heap_ltT hbr
    have k0 : (w.alloc (.cells #[.int .i64 3, .int .i64 nN, .int .i64 nPos, .int .i64 nType, .string nSymbol, .string nName, .int .i64 (nArgs : Int), .int .i64 (nDepth : Int)] 79)).heap[q0]? = _ := (heap_alloc_old w _ hlt0).trans hq0
    have k1 : (w.alloc (.cells #[.int .i64 3, .int .i64 nN, .int .i64 nPos, .int .i64 nType, .string nSymbol, .string nName, .int .i64 (nArgs : Int), .int .i64 (nDepth : Int)] 79)).heap[q1]? = _ := (heap_alloc_old w _ hlt1).trans hq1
    have kr : (w.alloc (.cells #[.int .i64 3, .int .i64 nN, .int .i64 nPos, .int .i64 nType, .string nSymbol, .string nName, .int .i64 (nArgs : Int), .int .i64 (nDepth : Int)] 79)).heap[br]? = _ := (heap_alloc_old w _ hltr).trans hbr
    have kn : (w.alloc (.cells #[.int .i64 3, .int .i64 nN, .int .i64 nPos, .int .i64 nType, .string nSymbol, .string nName, .int .i64 (nArgs : Int), .int .i64 (nDepth : Int)] 79)).heap[w.heap.size]? = some (.cells #[.int .i64 3, .int .i64 nN, .int .i64 nPos, .int .i64 nType, .string nSymbol, .string nName, .int .i64 (nArgs : Int), .int .i64 (nDepth : Int)] 79) := heap_alloc_new w _
    clear hlt0 hlt1 hltr hown hq0 hq1 hbr okg hszg okx hszx hs0 hs1 hs2 hs4 hs5 hhi okp hn hs
    go_enter Try.func34, Try.ntmps34
    go_wp2
    generalize w.alloc (.cells #[.int .i64 3, .int .i64 nN, .int .i64 nPos, .int .i64 nType, .string nSymbol, .string nName, .int .i64 (nArgs : Int), .int .i64 (nDepth : Int)] 79) = W1 at *
    have d0 : W1.cell? ⟨q0, 0, none⟩ = some (.slice (some ⟨br, 0, none⟩) 9 9) := by simp [World.cell?, k0]
    have dr : W1.cell? ⟨br, 3, none⟩ = some (.func (.func 52) #[] #[]) := by simp [World.cell?, kr]
    have d1_0 : W1.cell? ⟨q1, 0, none⟩ = some (.slice a0 g.fSymbols.length c0_0) := by simp [World.cell?, k1]
    have d1_1 : W1.cell? ⟨q1, 1, none⟩ = some (.slice a1 g.fRules.length c0_1) := by simp [World.cell?, k1]
    have d1_2 : W1.cell? ⟨q1, 2, none⟩ = some (.string x.fName) := by simp [World.cell?, k1]
    have d1_3 : W1.cell? ⟨q1, 3, none⟩ = some (.string x.fLeft) := by simp [World.cell?, k1]
    have d1_4 : W1.cell? ⟨q1, 4, none⟩ = some (.slice b2 x.fRight.length c1_0) := by simp [World.cell?, k1]
    have d1_5 : W1.cell? ⟨q1, 5, none⟩ = some (.bool x.fLiteral) := by simp [World.cell?, k1]
    have d1_6 : W1.cell? ⟨q1, 6, none⟩ = some (.slice b4 x.fEquations.length c1_1) := by simp [World.cell?, k1]
    have d1_7 : W1.cell? ⟨q1, 7, none⟩ = some (.slice b5 x.fContributions.length c1_2) := by simp [World.cell?, k1]
    have dn_0 : W1.cell? ⟨w.heap.size, 0, none⟩ = some (.int .i64 3) := by simp [World.cell?, kn]
    have dn_1 : W1.cell? ⟨w.heap.size, 1, none⟩ = some (.int .i64 nN) := by simp [World.cell?, kn]
    have dn_2 : W1.cell? ⟨w.heap.size, 2, none⟩ = some (.int .i64 nPos) := by simp [World.cell?, kn]
    have dn_3 : W1.cell? ⟨w.heap.size, 3, none⟩ = some (.int .i64 nType) := by simp [World.cell?, kn]
    have dn_4 : W1.cell? ⟨w.heap.size, 4, none⟩ = some (.string nSymbol) := by simp [World.cell?, kn]
    have dn_5 : W1.cell? ⟨w.heap.size, 5, none⟩ = some (.string nName) := by simp [World.cell?, kn]
    have dn_6 : W1.cell? ⟨w.heap.size, 6, none⟩ = some (.int .i64 (nArgs : Int)) := by simp [World.cell?, kn]
    have dn_7 : W1.cell? ⟨w.heap.size, 7, none⟩ = some (.int .i64 (nDepth : Int)) := by simp [World.cell?, kn]
    clear k0 k1 kr kn
    go_still_tail 9, (by kernel_rfl)
    change wpList _ _ _ _ _ W1.drew
    have HB2 := Lib.hid (show Below w.heap.size w W1.drew from below_drewN HB.out 1)
    generalize W1.drew = w2 at *
    go_wp2_with fail
    refine (HC.out _ HB2.out).mono ?_
    rintro e w3 ⟨rfl, hb3⟩
    have HB3 := Lib.hid (HB2.out.trans (hb3.mono HB2.out.size))
    clear hb3
    go_wp2
    go_ret
    exact ⟨rfl, HB3.out⟩

  · rw [combT_4 h]
    have HC := Lib.hid (fun (W : World) (hW : Below w.heap.size w W) => (show Calls Try.prog 53 #[.agg #[.slice a0 g.fSymbols.length c0_0, .slice a1 g.fRules.length c0_1, .string x.fName, .string x.fLeft, .slice b2 x.fRight.length c1_0, .bool x.fLiteral, .slice b4 x.fEquations.length c1_1, .slice b5 x.fContributions.length c1_2], .agg #[.int .i64 nd.fKind, .int .i64 nd.fN, .int .i64 nd.fPos, .int .i64 nd.fType, .string nd.fSymbol, .string nd.fName, .int .i64 (nd.fArgs : Int), .int .i64 (nd.fDepth : Int)], .slice a zs.length c] W fun e w' => e = .returned (.int .i64 (opT nd.fN zs)) ∧ Below W.heap.size W w' from typeOfOp (C := C) g x W nd zs (ownsRow_below hown hW)))
    obtain ⟨nKind, nN, nPos, nType, nSymbol, nName, nArgs, nDepth⟩ := nd
    dsimp only at h HC ⊢
    subst h
    generalize (opT nN zs : Int) = v at *
    have HB := Lib.hid ((Below.refl w.heap.size w).alloc (Nat.le_refl _) (.cells #[.int .i64 4, .int .i64 nN, .int .i64 nPos, .int .i64 nType, .string nSymbol, .string nName, .int .i64 (nArgs : Int), .int .i64 (nDepth : Int)] 79))
    have hlt0 : q0 < w.heap.size := heap_ltT hq0
    have hlt1 : q1 < w.heap.size := heap_ltT hq1
    have hltr : br < w.heap.size := heap_ltT hbr
    have k0 : (w.alloc (.cells #[.int .i64 4, .int .i64 nN, .int .i64 nPos, .int .i64 nType, .string nSymbol, .string nName, .int .i64 (nArgs : Int), .int .i64 (nDepth : Int)] 79)).heap[q0]? = _ := (heap_alloc_old w _ hlt0).trans hq0
    have k1 : (w.alloc (.cells #[.int .i64 4, .int .i64 nN, .int .i64 nPos, .int .i64 nType, .string nSymbol, .string nName, .int .i64 (nArgs : Int), .int .i64 (nDepth : Int)] 79)).heap[q1]? = _ := (heap_alloc_old w _ hlt1).trans hq1
    have kr : (w.alloc (.cells #[.int .i64 4, .int .i64 nN, .int .i64 nPos, .int .i64 nType, .string nSymbol, .string nName, .int .i64 (nArgs : Int), .int .i64 (nDepth : Int)] 79)).heap[br]? = _ := (heap_alloc_old w _ hltr).trans hbr
    have kn : (w.alloc (.cells #[.int .i64 4, .int .i64 nN, .int .i64 nPos, .int .i64 nType, .string nSymbol, .string nName, .int .i64 (nArgs : Int), .int .i64 (nDepth : Int)] 79)).heap[w.heap.size]? = some (.cells #[.int .i64 4, .int .i64 nN, .int .i64 nPos, .int .i64 nType, .string nSymbol, .string nName, .int .i64 (nArgs : Int), .int .i64 (nDepth : Int)] 79) := heap_alloc_new w _
    clear hlt0 hlt1 hltr hown hq0 hq1 hbr okg hszg okx hszx hs0 hs1 hs2 hs4 hs5 hhi okp hn hs
    go_enter Try.func34, Try.ntmps34
    go_wp2
    generalize w.alloc (.cells #[.int .i64 4, .int .i64 nN, .int .i64 nPos, .int .i64 nType, .string nSymbol, .string nName, .int .i64 (nArgs : Int), .int .i64 (nDepth : Int)] 79) = W1 at *
    have d0 : W1.cell? ⟨q0, 0, none⟩ = some (.slice (some ⟨br, 0, none⟩) 9 9) := by simp [World.cell?, k0]
    have dr : W1.cell? ⟨br, 4, none⟩ = some (.func (.func 53) #[] #[]) := by simp [World.cell?, kr]
    have d1_0 : W1.cell? ⟨q1, 0, none⟩ = some (.slice a0 g.fSymbols.length c0_0) := by simp [World.cell?, k1]
    have d1_1 : W1.cell? ⟨q1, 1, none⟩ = some (.slice a1 g.fRules.length c0_1) := by simp [World.cell?, k1]
    have d1_2 : W1.cell? ⟨q1, 2, none⟩ = some (.string x.fName) := by simp [World.cell?, k1]
    have d1_3 : W1.cell? ⟨q1, 3, none⟩ = some (.string x.fLeft) := by simp [World.cell?, k1]
    have d1_4 : W1.cell? ⟨q1, 4, none⟩ = some (.slice b2 x.fRight.length c1_0) := by simp [World.cell?, k1]
    have d1_5 : W1.cell? ⟨q1, 5, none⟩ = some (.bool x.fLiteral) := by simp [World.cell?, k1]
    have d1_6 : W1.cell? ⟨q1, 6, none⟩ = some (.slice b4 x.fEquations.length c1_1) := by simp [World.cell?, k1]
    have d1_7 : W1.cell? ⟨q1, 7, none⟩ = some (.slice b5 x.fContributions.length c1_2) := by simp [World.cell?, k1]
    have dn_0 : W1.cell? ⟨w.heap.size, 0, none⟩ = some (.int .i64 4) := by simp [World.cell?, kn]
    have dn_1 : W1.cell? ⟨w.heap.size, 1, none⟩ = some (.int .i64 nN) := by simp [World.cell?, kn]
    have dn_2 : W1.cell? ⟨w.heap.size, 2, none⟩ = some (.int .i64 nPos) := by simp [World.cell?, kn]
    have dn_3 : W1.cell? ⟨w.heap.size, 3, none⟩ = some (.int .i64 nType) := by simp [World.cell?, kn]
    have dn_4 : W1.cell? ⟨w.heap.size, 4, none⟩ = some (.string nSymbol) := by simp [World.cell?, kn]
    have dn_5 : W1.cell? ⟨w.heap.size, 5, none⟩ = some (.string nName) := by simp [World.cell?, kn]
    have dn_6 : W1.cell? ⟨w.heap.size, 6, none⟩ = some (.int .i64 (nArgs : Int)) := by simp [World.cell?, kn]
    have dn_7 : W1.cell? ⟨w.heap.size, 7, none⟩ = some (.int .i64 (nDepth : Int)) := by simp [World.cell?, kn]
    clear k0 k1 kr kn
    go_still_tail 9, (by kernel_rfl)
    change wpList _ _ _ _ _ W1.drew
    have HB2 := Lib.hid (show Below w.heap.size w W1.drew from below_drewN HB.out 1)
    generalize W1.drew = w2 at *
    go_wp2_with fail
    refine (HC.out _ HB2.out).mono ?_
    rintro e w3 ⟨rfl, hb3⟩
    have HB3 := Lib.hid (HB2.out.trans (hb3.mono HB2.out.size))
    clear hb3
    go_wp2
    go_ret
    exact ⟨rfl, HB3.out⟩

  · rw [combT_5 h]
    have HC := Lib.hid (fun (W : World) (hW : Below w.heap.size w W) => (show Calls Try.prog 54 #[.agg #[.slice a0 g.fSymbols.length c0_0, .slice a1 g.fRules.length c0_1, .string x.fName, .string x.fLeft, .slice b2 x.fRight.length c1_0, .bool x.fLiteral, .slice b4 x.fEquations.length c1_1, .slice b5 x.fContributions.length c1_2], .agg #[.int .i64 nd.fKind, .int .i64 nd.fN, .int .i64 nd.fPos, .int .i64 nd.fType, .string nd.fSymbol, .string nd.fName, .int .i64 (nd.fArgs : Int), .int .i64 (nd.fDepth : Int)], .slice a zs.length c] W fun e w' => e = .returned (.int .i64 (ifT zs)) ∧ Below W.heap.size W w' from typeOfIf nd zs W (ownsRow_below hown hW)))
    obtain ⟨nKind, nN, nPos, nType, nSymbol, nName, nArgs, nDepth⟩ := nd
    dsimp only at h HC ⊢
    subst h
    generalize (ifT zs : Int) = v at *
    have HB := Lib.hid ((Below.refl w.heap.size w).alloc (Nat.le_refl _) (.cells #[.int .i64 5, .int .i64 nN, .int .i64 nPos, .int .i64 nType, .string nSymbol, .string nName, .int .i64 (nArgs : Int), .int .i64 (nDepth : Int)] 79))
    have hlt0 : q0 < w.heap.size := heap_ltT hq0
    have hlt1 : q1 < w.heap.size := heap_ltT hq1
    have hltr : br < w.heap.size := heap_ltT hbr
    have k0 : (w.alloc (.cells #[.int .i64 5, .int .i64 nN, .int .i64 nPos, .int .i64 nType, .string nSymbol, .string nName, .int .i64 (nArgs : Int), .int .i64 (nDepth : Int)] 79)).heap[q0]? = _ := (heap_alloc_old w _ hlt0).trans hq0
    have k1 : (w.alloc (.cells #[.int .i64 5, .int .i64 nN, .int .i64 nPos, .int .i64 nType, .string nSymbol, .string nName, .int .i64 (nArgs : Int), .int .i64 (nDepth : Int)] 79)).heap[q1]? = _ := (heap_alloc_old w _ hlt1).trans hq1
    have kr : (w.alloc (.cells #[.int .i64 5, .int .i64 nN, .int .i64 nPos, .int .i64 nType, .string nSymbol, .string nName, .int .i64 (nArgs : Int), .int .i64 (nDepth : Int)] 79)).heap[br]? = _ := (heap_alloc_old w _ hltr).trans hbr
    have kn : (w.alloc (.cells #[.int .i64 5, .int .i64 nN, .int .i64 nPos, .int .i64 nType, .string nSymbol, .string nName, .int .i64 (nArgs : Int), .int .i64 (nDepth : Int)] 79)).heap[w.heap.size]? = some (.cells #[.int .i64 5, .int .i64 nN, .int .i64 nPos, .int .i64 nType, .string nSymbol, .string nName, .int .i64 (nArgs : Int), .int .i64 (nDepth : Int)] 79) := heap_alloc_new w _
    clear hlt0 hlt1 hltr hown hq0 hq1 hbr okg hszg okx hszx hs0 hs1 hs2 hs4 hs5 hhi okp hn hs
    go_enter Try.func34, Try.ntmps34
    go_wp2
    generalize w.alloc (.cells #[.int .i64 5, .int .i64 nN, .int .i64 nPos, .int .i64 nType, .string nSymbol, .string nName, .int .i64 (nArgs : Int), .int .i64 (nDepth : Int)] 79) = W1 at *
    have d0 : W1.cell? ⟨q0, 0, none⟩ = some (.slice (some ⟨br, 0, none⟩) 9 9) := by simp [World.cell?, k0]
    have dr : W1.cell? ⟨br, 5, none⟩ = some (.func (.func 54) #[] #[]) := by simp [World.cell?, kr]
    have d1_0 : W1.cell? ⟨q1, 0, none⟩ = some (.slice a0 g.fSymbols.length c0_0) := by simp [World.cell?, k1]
    have d1_1 : W1.cell? ⟨q1, 1, none⟩ = some (.slice a1 g.fRules.length c0_1) := by simp [World.cell?, k1]
    have d1_2 : W1.cell? ⟨q1, 2, none⟩ = some (.string x.fName) := by simp [World.cell?, k1]
    have d1_3 : W1.cell? ⟨q1, 3, none⟩ = some (.string x.fLeft) := by simp [World.cell?, k1]
    have d1_4 : W1.cell? ⟨q1, 4, none⟩ = some (.slice b2 x.fRight.length c1_0) := by simp [World.cell?, k1]
    have d1_5 : W1.cell? ⟨q1, 5, none⟩ = some (.bool x.fLiteral) := by simp [World.cell?, k1]
    have d1_6 : W1.cell? ⟨q1, 6, none⟩ = some (.slice b4 x.fEquations.length c1_1) := by simp [World.cell?, k1]
    have d1_7 : W1.cell? ⟨q1, 7, none⟩ = some (.slice b5 x.fContributions.length c1_2) := by simp [World.cell?, k1]
    have dn_0 : W1.cell? ⟨w.heap.size, 0, none⟩ = some (.int .i64 5) := by simp [World.cell?, kn]
    have dn_1 : W1.cell? ⟨w.heap.size, 1, none⟩ = some (.int .i64 nN) := by simp [World.cell?, kn]
    have dn_2 : W1.cell? ⟨w.heap.size, 2, none⟩ = some (.int .i64 nPos) := by simp [World.cell?, kn]
    have dn_3 : W1.cell? ⟨w.heap.size, 3, none⟩ = some (.int .i64 nType) := by simp [World.cell?, kn]
    have dn_4 : W1.cell? ⟨w.heap.size, 4, none⟩ = some (.string nSymbol) := by simp [World.cell?, kn]
    have dn_5 : W1.cell? ⟨w.heap.size, 5, none⟩ = some (.string nName) := by simp [World.cell?, kn]
    have dn_6 : W1.cell? ⟨w.heap.size, 6, none⟩ = some (.int .i64 (nArgs : Int)) := by simp [World.cell?, kn]
    have dn_7 : W1.cell? ⟨w.heap.size, 7, none⟩ = some (.int .i64 (nDepth : Int)) := by simp [World.cell?, kn]
    clear k0 k1 kr kn
    go_still_tail 9, (by kernel_rfl)
    change wpList _ _ _ _ _ W1.drew
    have HB2 := Lib.hid (show Below w.heap.size w W1.drew from below_drewN HB.out 1)
    generalize W1.drew = w2 at *
    go_wp2_with fail
    refine (HC.out _ HB2.out).mono ?_
    rintro e w3 ⟨rfl, hb3⟩
    have HB3 := Lib.hid (HB2.out.trans (hb3.mono HB2.out.size))
    clear hb3
    go_wp2
    go_ret
    exact ⟨rfl, HB3.out⟩

  · rw [combT_6 h]
    have HC := Lib.hid (fun (W : World) (hW : Below w.heap.size w W) => (show Calls Try.prog 55 #[.agg #[.slice a0 g.fSymbols.length c0_0, .slice a1 g.fRules.length c0_1, .string x.fName, .string x.fLeft, .slice b2 x.fRight.length c1_0, .bool x.fLiteral, .slice b4 x.fEquations.length c1_1, .slice b5 x.fContributions.length c1_2], .agg #[.int .i64 nd.fKind, .int .i64 nd.fN, .int .i64 nd.fPos, .int .i64 nd.fType, .string nd.fSymbol, .string nd.fName, .int .i64 (nd.fArgs : Int), .int .i64 (nd.fDepth : Int)], .slice a zs.length c] W fun e w' => e = .returned (.int .i64 ((if inR nd.fPos 0 x.fRight.length = true then 4 else 0))) ∧ Below W.heap.size W w' from typeOfSelf g x hszx W nd zs))
    obtain ⟨nKind, nN, nPos, nType, nSymbol, nName, nArgs, nDepth⟩ := nd
    dsimp only at h HC ⊢
    subst h
    generalize ((if inR nPos 0 x.fRight.length = true then 4 else 0) : Int) = v at *
    have HB := Lib.hid ((Below.refl w.heap.size w).alloc (Nat.le_refl _) (.cells #[.int .i64 6, .int .i64 nN, .int .i64 nPos, .int .i64 nType, .string nSymbol, .string nName, .int .i64 (nArgs : Int), .int .i64 (nDepth : Int)] 79))
    have hlt0 : q0 < w.heap.size := heap_ltT hq0
    have hlt1 : q1 < w.heap.size := heap_ltT hq1
    have hltr : br < w.heap.size := heap_ltT hbr
    have k0 : (w.alloc (.cells #[.int .i64 6, .int .i64 nN, .int .i64 nPos, .int .i64 nType, .string nSymbol, .string nName, .int .i64 (nArgs : Int), .int .i64 (nDepth : Int)] 79)).heap[q0]? = _ := (heap_alloc_old w _ hlt0).trans hq0
    have k1 : (w.alloc (.cells #[.int .i64 6, .int .i64 nN, .int .i64 nPos, .int .i64 nType, .string nSymbol, .string nName, .int .i64 (nArgs : Int), .int .i64 (nDepth : Int)] 79)).heap[q1]? = _ := (heap_alloc_old w _ hlt1).trans hq1
    have kr : (w.alloc (.cells #[.int .i64 6, .int .i64 nN, .int .i64 nPos, .int .i64 nType, .string nSymbol, .string nName, .int .i64 (nArgs : Int), .int .i64 (nDepth : Int)] 79)).heap[br]? = _ := (heap_alloc_old w _ hltr).trans hbr
    have kn : (w.alloc (.cells #[.int .i64 6, .int .i64 nN, .int .i64 nPos, .int .i64 nType, .string nSymbol, .string nName, .int .i64 (nArgs : Int), .int .i64 (nDepth : Int)] 79)).heap[w.heap.size]? = some (.cells #[.int .i64 6, .int .i64 nN, .int .i64 nPos, .int .i64 nType, .string nSymbol, .string nName, .int .i64 (nArgs : Int), .int .i64 (nDepth : Int)] 79) := heap_alloc_new w _
    clear hlt0 hlt1 hltr hown hq0 hq1 hbr okg hszg okx hszx hs0 hs1 hs2 hs4 hs5 hhi okp hn hs
    go_enter Try.func34, Try.ntmps34
    go_wp2
    generalize w.alloc (.cells #[.int .i64 6, .int .i64 nN, .int .i64 nPos, .int .i64 nType, .string nSymbol, .string nName, .int .i64 (nArgs : Int), .int .i64 (nDepth : Int)] 79) = W1 at *
    have d0 : W1.cell? ⟨q0, 0, none⟩ = some (.slice (some ⟨br, 0, none⟩) 9 9) := by simp [World.cell?, k0]
    have dr : W1.cell? ⟨br, 6, none⟩ = some (.func (.func 55) #[] #[]) := by simp [World.cell?, kr]
    have d1_0 : W1.cell? ⟨q1, 0, none⟩ = some (.slice a0 g.fSymbols.length c0_0) := by simp [World.cell?, k1]
    have d1_1 : W1.cell? ⟨q1, 1, none⟩ = some (.slice a1 g.fRules.length c0_1) := by simp [World.cell?, k1]
    have d1_2 : W1.cell? ⟨q1, 2, none⟩ = some (.string x.fName) := by simp [World.cell?, k1]
    have d1_3 : W1.cell? ⟨q1, 3, none⟩ = some (.string x.fLeft) := by simp [World.cell?, k1]
    have d1_4 : W1.cell? ⟨q1, 4, none⟩ = some (.slice b2 x.fRight.length c1_0) := by simp [World.cell?, k1]
    have d1_5 : W1.cell? ⟨q1, 5, none⟩ = some (.bool x.fLiteral) := by simp [World.cell?, k1]
    have d1_6 : W1.cell? ⟨q1, 6, none⟩ = some (.slice b4 x.fEquations.length c1_1) := by simp [World.cell?, k1]
    have d1_7 : W1.cell? ⟨q1, 7, none⟩ = some (.slice b5 x.fContributions.length c1_2) := by simp [World.cell?, k1]
    have dn_0 : W1.cell? ⟨w.heap.size, 0, none⟩ = some (.int .i64 6) := by simp [World.cell?, kn]
    have dn_1 : W1.cell? ⟨w.heap.size, 1, none⟩ = some (.int .i64 nN) := by simp [World.cell?, kn]
    have dn_2 : W1.cell? ⟨w.heap.size, 2, none⟩ = some (.int .i64 nPos) := by simp [World.cell?, kn]
    have dn_3 : W1.cell? ⟨w.heap.size, 3, none⟩ = some (.int .i64 nType) := by simp [World.cell?, kn]
    have dn_4 : W1.cell? ⟨w.heap.size, 4, none⟩ = some (.string nSymbol) := by simp [World.cell?, kn]
    have dn_5 : W1.cell? ⟨w.heap.size, 5, none⟩ = some (.string nName) := by simp [World.cell?, kn]
    have dn_6 : W1.cell? ⟨w.heap.size, 6, none⟩ = some (.int .i64 (nArgs : Int)) := by simp [World.cell?, kn]
    have dn_7 : W1.cell? ⟨w.heap.size, 7, none⟩ = some (.int .i64 (nDepth : Int)) := by simp [World.cell?, kn]
    clear k0 k1 kr kn
    go_still_tail 9, (by kernel_rfl)
    change wpList _ _ _ _ _ W1.drew
    have HB2 := Lib.hid (show Below w.heap.size w W1.drew from below_drewN HB.out 1)
    generalize W1.drew = w2 at *
    go_wp2_with fail
    refine (HC.out _ HB2.out).mono ?_
    rintro e w3 ⟨rfl, hb3⟩
    have HB3 := Lib.hid (HB2.out.trans (hb3.mono HB2.out.size))
    clear hb3
    go_wp2
    go_ret
    exact ⟨rfl, HB3.out⟩

  · rw [combT_7 h]
    have HC := Lib.hid (fun (W : World) (hW : Below w.heap.size w W) => (show Calls Try.prog 56 #[.agg #[.slice a0 g.fSymbols.length c0_0, .slice a1 g.fRules.length c0_1, .string x.fName, .string x.fLeft, .slice b2 x.fRight.length c1_0, .bool x.fLiteral, .slice b4 x.fEquations.length c1_1, .slice b5 x.fContributions.length c1_2], .agg #[.int .i64 nd.fKind, .int .i64 nd.fN, .int .i64 nd.fPos, .int .i64 nd.fType, .string nd.fSymbol, .string nd.fName, .int .i64 (nd.fArgs : Int), .int .i64 (nd.fDepth : Int)], .slice a zs.length c] W fun e w' => e = .returned (.int .i64 (4)) ∧ Below W.heap.size W w' from typeOfNone nd zs W))
    obtain ⟨nKind, nN, nPos, nType, nSymbol, nName, nArgs, nDepth⟩ := nd
    dsimp only at h HC ⊢
    subst h
    have HB := Lib.hid ((Below.refl w.heap.size w).alloc (Nat.le_refl _) (.cells #[.int .i64 7, .int .i64 nN, .int .i64 nPos, .int .i64 nType, .string nSymbol, .string nName, .int .i64 (nArgs : Int), .int .i64 (nDepth : Int)] 79))
    have hlt0 : q0 < w.heap.size := heap_ltT hq0
    have hlt1 : q1 < w.heap.size := heap_ltT hq1
    have hltr : br < w.heap.size := heap_ltT hbr
    have k0 : (w.alloc (.cells #[.int .i64 7, .int .i64 nN, .int .i64 nPos, .int .i64 nType, .string nSymbol, .string nName, .int .i64 (nArgs : Int), .int .i64 (nDepth : Int)] 79)).heap[q0]? = _ := (heap_alloc_old w _ hlt0).trans hq0
    have k1 : (w.alloc (.cells #[.int .i64 7, .int .i64 nN, .int .i64 nPos, .int .i64 nType, .string nSymbol, .string nName, .int .i64 (nArgs : Int), .int .i64 (nDepth : Int)] 79)).heap[q1]? = _ := (heap_alloc_old w _ hlt1).trans hq1
    have kr : (w.alloc (.cells #[.int .i64 7, .int .i64 nN, .int .i64 nPos, .int .i64 nType, .string nSymbol, .string nName, .int .i64 (nArgs : Int), .int .i64 (nDepth : Int)] 79)).heap[br]? = _ := (heap_alloc_old w _ hltr).trans hbr
    have kn : (w.alloc (.cells #[.int .i64 7, .int .i64 nN, .int .i64 nPos, .int .i64 nType, .string nSymbol, .string nName, .int .i64 (nArgs : Int), .int .i64 (nDepth : Int)] 79)).heap[w.heap.size]? = some (.cells #[.int .i64 7, .int .i64 nN, .int .i64 nPos, .int .i64 nType, .string nSymbol, .string nName, .int .i64 (nArgs : Int), .int .i64 (nDepth : Int)] 79) := heap_alloc_new w _
    clear hlt0 hlt1 hltr hown hq0 hq1 hbr okg hszg okx hszx hs0 hs1 hs2 hs4 hs5 hhi okp hn hs
    go_enter Try.func34, Try.ntmps34
    go_wp2
    generalize w.alloc (.cells #[.int .i64 7, .int .i64 nN, .int .i64 nPos, .int .i64 nType, .string nSymbol, .string nName, .int .i64 (nArgs : Int), .int .i64 (nDepth : Int)] 79) = W1 at *
    have d0 : W1.cell? ⟨q0, 0, none⟩ = some (.slice (some ⟨br, 0, none⟩) 9 9) := by simp [World.cell?, k0]
    have dr : W1.cell? ⟨br, 7, none⟩ = some (.func (.func 56) #[] #[]) := by simp [World.cell?, kr]
    have d1_0 : W1.cell? ⟨q1, 0, none⟩ = some (.slice a0 g.fSymbols.length c0_0) := by simp [World.cell?, k1]
    have d1_1 : W1.cell? ⟨q1, 1, none⟩ = some (.slice a1 g.fRules.length c0_1) := by simp [World.cell?, k1]
    have d1_2 : W1.cell? ⟨q1, 2, none⟩ = some (.string x.fName) := by simp [World.cell?, k1]
    have d1_3 : W1.cell? ⟨q1, 3, none⟩ = some (.string x.fLeft) := by simp [World.cell?, k1]
    have d1_4 : W1.cell? ⟨q1, 4, none⟩ = some (.slice b2 x.fRight.length c1_0) := by simp [World.cell?, k1]
    have d1_5 : W1.cell? ⟨q1, 5, none⟩ = some (.bool x.fLiteral) := by simp [World.cell?, k1]
    have d1_6 : W1.cell? ⟨q1, 6, none⟩ = some (.slice b4 x.fEquations.length c1_1) := by simp [World.cell?, k1]
    have d1_7 : W1.cell? ⟨q1, 7, none⟩ = some (.slice b5 x.fContributions.length c1_2) := by simp [World.cell?, k1]
    have dn_0 : W1.cell? ⟨w.heap.size, 0, none⟩ = some (.int .i64 7) := by simp [World.cell?, kn]
    have dn_1 : W1.cell? ⟨w.heap.size, 1, none⟩ = some (.int .i64 nN) := by simp [World.cell?, kn]
    have dn_2 : W1.cell? ⟨w.heap.size, 2, none⟩ = some (.int .i64 nPos) := by simp [World.cell?, kn]
    have dn_3 : W1.cell? ⟨w.heap.size, 3, none⟩ = some (.int .i64 nType) := by simp [World.cell?, kn]
    have dn_4 : W1.cell? ⟨w.heap.size, 4, none⟩ = some (.string nSymbol) := by simp [World.cell?, kn]
    have dn_5 : W1.cell? ⟨w.heap.size, 5, none⟩ = some (.string nName) := by simp [World.cell?, kn]
    have dn_6 : W1.cell? ⟨w.heap.size, 6, none⟩ = some (.int .i64 (nArgs : Int)) := by simp [World.cell?, kn]
    have dn_7 : W1.cell? ⟨w.heap.size, 7, none⟩ = some (.int .i64 (nDepth : Int)) := by simp [World.cell?, kn]
    clear k0 k1 kr kn
    go_still_tail 9, (by kernel_rfl)
    change wpList _ _ _ _ _ W1.drew
    have HB2 := Lib.hid (show Below w.heap.size w W1.drew from below_drewN HB.out 1)
    generalize W1.drew = w2 at *
    go_wp2_with fail
    refine (HC.out _ HB2.out).mono ?_
    rintro e w3 ⟨rfl, hb3⟩
    have HB3 := Lib.hid (HB2.out.trans (hb3.mono HB2.out.size))
    clear hb3
    go_wp2
    go_ret
    exact ⟨rfl, HB3.out⟩

  · rw [combT_8 h]
    have HC := Lib.hid (fun (W : World) (hW : Below w.heap.size w W) => (show Calls Try.prog 57 #[.agg #[.slice a0 g.fSymbols.length c0_0, .slice a1 g.fRules.length c0_1, .string x.fName, .string x.fLeft, .slice b2 x.fRight.length c1_0, .bool x.fLiteral, .slice b4 x.fEquations.length c1_1, .slice b5 x.fContributions.length c1_2], .agg #[.int .i64 nd.fKind, .int .i64 nd.fN, .int .i64 nd.fPos, .int .i64 nd.fType, .string nd.fSymbol, .string nd.fName, .int .i64 (nd.fArgs : Int), .int .i64 (nd.fDepth : Int)], .slice a zs.length c] W fun e w' => e = .returned (.int .i64 (remT g nd.fSymbol nd.fName zs)) ∧ Below W.heap.size W w' from typeOfRemote (C := C) g hszg x W (Nat.le_trans hhi hW.size) (hs0.later hW hhi) nd zs (ownsRow_below hown hW)))
    obtain ⟨nKind, nN, nPos, nType, nSymbol, nName, nArgs, nDepth⟩ := nd
    dsimp only at h HC ⊢
    subst h
    generalize (remT g nSymbol nName zs : Int) = v at *
    have HB := Lib.hid ((Below.refl w.heap.size w).alloc (Nat.le_refl _) (.cells #[.int .i64 8, .int .i64 nN, .int .i64 nPos, .int .i64 nType, .string nSymbol, .string nName, .int .i64 (nArgs : Int), .int .i64 (nDepth : Int)] 79))
    have hlt0 : q0 < w.heap.size := heap_ltT hq0
    have hlt1 : q1 < w.heap.size := heap_ltT hq1
    have hltr : br < w.heap.size := heap_ltT hbr
    have k0 : (w.alloc (.cells #[.int .i64 8, .int .i64 nN, .int .i64 nPos, .int .i64 nType, .string nSymbol, .string nName, .int .i64 (nArgs : Int), .int .i64 (nDepth : Int)] 79)).heap[q0]? = _ := (heap_alloc_old w _ hlt0).trans hq0
    have k1 : (w.alloc (.cells #[.int .i64 8, .int .i64 nN, .int .i64 nPos, .int .i64 nType, .string nSymbol, .string nName, .int .i64 (nArgs : Int), .int .i64 (nDepth : Int)] 79)).heap[q1]? = _ := (heap_alloc_old w _ hlt1).trans hq1
    have kr : (w.alloc (.cells #[.int .i64 8, .int .i64 nN, .int .i64 nPos, .int .i64 nType, .string nSymbol, .string nName, .int .i64 (nArgs : Int), .int .i64 (nDepth : Int)] 79)).heap[br]? = _ := (heap_alloc_old w _ hltr).trans hbr
    have kn : (w.alloc (.cells #[.int .i64 8, .int .i64 nN, .int .i64 nPos, .int .i64 nType, .string nSymbol, .string nName, .int .i64 (nArgs : Int), .int .i64 (nDepth : Int)] 79)).heap[w.heap.size]? = some (.cells #[.int .i64 8, .int .i64 nN, .int .i64 nPos, .int .i64 nType, .string nSymbol, .string nName, .int .i64 (nArgs : Int), .int .i64 (nDepth : Int)] 79) := heap_alloc_new w _
    clear hlt0 hlt1 hltr hown hq0 hq1 hbr okg hszg okx hszx hs0 hs1 hs2 hs4 hs5 hhi okp hn hs
    go_enter Try.func34, Try.ntmps34
    go_wp2
    generalize w.alloc (.cells #[.int .i64 8, .int .i64 nN, .int .i64 nPos, .int .i64 nType, .string nSymbol, .string nName, .int .i64 (nArgs : Int), .int .i64 (nDepth : Int)] 79) = W1 at *
    have d0 : W1.cell? ⟨q0, 0, none⟩ = some (.slice (some ⟨br, 0, none⟩) 9 9) := by simp [World.cell?, k0]
    have dr : W1.cell? ⟨br, 8, none⟩ = some (.func (.func 57) #[] #[]) := by simp [World.cell?, kr]
    have d1_0 : W1.cell? ⟨q1, 0, none⟩ = some (.slice a0 g.fSymbols.length c0_0) := by simp [World.cell?, k1]
    have d1_1 : W1.cell? ⟨q1, 1, none⟩ = some (.slice a1 g.fRules.length c0_1) := by simp [World.cell?, k1]
    have d1_2 : W1.cell? ⟨q1, 2, none⟩ = some (.string x.fName) := by simp [World.cell?, k1]
    have d1_3 : W1.cell? ⟨q1, 3, none⟩ = some (.string x.fLeft) := by simp [World.cell?, k1]
    have d1_4 : W1.cell? ⟨q1, 4, none⟩ = some (.slice b2 x.fRight.length c1_0) := by simp [World.cell?, k1]
    have d1_5 : W1.cell? ⟨q1, 5, none⟩ = some (.bool x.fLiteral) := by simp [World.cell?, k1]
    have d1_6 : W1.cell? ⟨q1, 6, none⟩ = some (.slice b4 x.fEquations.length c1_1) := by simp [World.cell?, k1]
    have d1_7 : W1.cell? ⟨q1, 7, none⟩ = some (.slice b5 x.fContributions.length c1_2) := by simp [World.cell?, k1]
    have dn_0 : W1.cell? ⟨w.heap.size, 0, none⟩ = some (.int .i64 8) := by simp [World.cell?, kn]
    have dn_1 : W1.cell? ⟨w.heap.size, 1, none⟩ = some (.int .i64 nN) := by simp [World.cell?, kn]
    have dn_2 : W1.cell? ⟨w.heap.size, 2, none⟩ = some (.int .i64 nPos) := by simp [World.cell?, kn]
    have dn_3 : W1.cell? ⟨w.heap.size, 3, none⟩ = some (.int .i64 nType) := by simp [World.cell?, kn]
    have dn_4 : W1.cell? ⟨w.heap.size, 4, none⟩ = some (.string nSymbol) := by simp [World.cell?, kn]
    have dn_5 : W1.cell? ⟨w.heap.size, 5, none⟩ = some (.string nName) := by simp [World.cell?, kn]
    have dn_6 : W1.cell? ⟨w.heap.size, 6, none⟩ = some (.int .i64 (nArgs : Int)) := by simp [World.cell?, kn]
    have dn_7 : W1.cell? ⟨w.heap.size, 7, none⟩ = some (.int .i64 (nDepth : Int)) := by simp [World.cell?, kn]
    clear k0 k1 kr kn
    go_still_tail 9, (by kernel_rfl)
    change wpList _ _ _ _ _ W1.drew
    have HB2 := Lib.hid (show Below w.heap.size w W1.drew from below_drewN HB.out 1)
    generalize W1.drew = w2 at *
    go_wp2_with fail
    refine (HC.out _ HB2.out).mono ?_
    rintro e w3 ⟨rfl, hb3⟩
    have HB3 := Lib.hid (HB2.out.trans (hb3.mono HB2.out.size))
    clear hb3
    go_wp2
    go_ret
    exact ⟨rfl, HB3.out⟩
end Go.Proofs.Ytpipdlgnedhhaaa
