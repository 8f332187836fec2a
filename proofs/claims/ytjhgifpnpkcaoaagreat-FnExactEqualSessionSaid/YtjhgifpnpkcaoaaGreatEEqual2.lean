/-
  EqualExpr in the program: over the lists of nodes.
-/
import Derived.Test.YtjhgifpnpkcaoaaGreatEEqual
import Derived.WalkSpells
import Derived.Deep.QuietTactic
import Derived.BigQuiet
import Derived.Deep.RegionWith
namespace Go.Proofs.YtjhgifpnpkcaoaaGreat
open Go.ChangeShapes Go.WideShapes Go.ChangeAt Go.RowKit Go.Deep

theorem ENode.ext' {x y : ENode} (h0 : x.fKind = y.fKind) (h1 : x.fN = y.fN) (h2 : x.fPos = y.fPos) (h3 : x.fType = y.fType) (h4 : x.fSymbol = y.fSymbol) (h5 : x.fName = y.fName) (h6 : x.fArgs = y.fArgs) (h7 : x.fDepth = y.fDepth) : x = y := by
  cases x; cases y
  simp only at *
  subst h0 h1 h2 h3 h4 h5 h6 h7
  rfl
theorem nodes_ext {l m : List ENode} (hl : l.length = m.length) (h : ∀ k, k < l.length → l.getD k default = m.getD k default) : l = m := by
  refine List.ext_getElem hl fun k hk hk' => ?_
  have := h k hk
  rw [List.getD_eq_getElem?_getD, List.getElem?_eq_getElem hk, List.getD_eq_getElem?_getD, List.getElem?_eq_getElem hk'] at this
  exact this

set_option maxHeartbeats 1600000 in
set_option maxRecDepth 100000 in
theorem slicesEqual_nodes {a b : Option Addr} {c d B1 B2 : Nat} (N M : List ENode) (hN : N.length ≤ 1048577) (_ : M.length ≤ 1048577) (r : Bool) (hr : r = true ↔ N = M) (w : World) (h1 : w.ownsRow B1 188 8 (.slice a N.length c) N.length (nodeCells N)) (h2 : w.ownsRow B2 188 8 (.slice b M.length d) M.length (nodeCells M)) :
    Calls Tryz.prog 112 #[.slice a N.length c, .slice b M.length d] w fun e w' => e = .returned (.bool r) ∧ Below w.heap.size w w' := by
  have H1 := Lib.hid h1
  have H2 := Lib.hid h2
  have HNO := Lib.hid (show N ≠ M → r = false from fun h => by cases r <;> simp_all)
  have HYES := Lib.hid (show N = M → r = true from hr.2)
  clear h1 h2 hr
  by_cases hl : N.length = M.length
  · have HL := Lib.hid hl
    rw [← hl]
    clear hl
    go_enter Tryz.func112, Tryz.ntmps112
    go_wp2
    go_loopw [13] (fun i wr => ∃ k : Nat, k ≤ N.length ∧ i = .int .i64 (k : Int) ∧ (∀ j, j < k → N.getD j default = M.getD j default) ∧ ∃ q, wr = w.drewN q) (fun i _ => N.length - (intOf i).toNat)
    case atStart => exact ⟨0, Nat.zero_le _, rfl, fun _ h => absurd h (Nat.not_lt_zero _), 0, rfl⟩
    case round =>
      obtain ⟨k, hk, rfl, hall, q, rfl⟩ := hrel
      have HALL := Lib.hid hall
      clear hall
      by_cases hlt : k < N.length
      · obtain ⟨g, c2, e2, _, _⟩ := own_some H1.out (by omega)
        simp only [Value.slice.injEq, true_and] at e2
        obtain ⟨rfl, rfl⟩ := e2
        obtain ⟨g', c3, e3, _, _⟩ := own_some H2.out (by rw [← HL.out]; omega)
        simp only [Value.slice.injEq, true_and] at e3
        obtain ⟨rfl, rfl⟩ := e3
        obtain ⟨d0, d1, d2, d3, d4, d5, d6, d7⟩ := own_nodes H1.out hlt
        obtain ⟨f0, f1, f2, f3, f4, f5, f6, f7⟩ := own_nodes H2.out (k := k) (by rw [← HL.out]; exact hlt)
        have HEX := Lib.hid (show N.getD k default = M.getD k default → ∀ j, j < k + 1 → N.getD j default = M.getD j default from fun h j hj => by
          by_cases hjk : j = k
          · subst hjk; exact h
          · exact HALL.out j (by omega))
        have HNE := Lib.hid (show N.getD k default ≠ M.getD k default → r = false from fun h => HNO.out fun e => h (by rw [e]))
        generalize N.getD k default = n at *
        generalize M.getD k default = m at *
        by_cases g0 : n.fKind = m.fKind
        · skip
          by_cases g1 : n.fN = m.fN
          · skip
            by_cases g2 : n.fPos = m.fPos
            · skip
              by_cases g3 : n.fType = m.fType
              · skip
                by_cases g4 : n.fSymbol = m.fSymbol
                · skip
                  by_cases g5 : n.fName = m.fName
                  · skip
                    by_cases g6 : n.fArgs = m.fArgs
                    · skip
                      by_cases g7 : n.fDepth = m.fDepth
                      · skip
                        have HPS := Lib.hid (HEX.out (ENode.ext' g0 g1 g2 g3 g4 g5 g6 g7))
                        rw [g0] at d0
                        rw [g1] at d1
                        rw [g2] at d2
                        rw [g3] at d3
                        rw [g4] at d4
                        rw [g5] at d5
                        rw [g6] at d6
                        rw [g7] at d7
                        clear g0 g1 g2 g3 g4 g5 g6 g7
                        go_wp2
                        go_quiet (fail)
                        go_wp2
                        go_roundw
                        case rel => exact ⟨k + 1, by omega, by go_num, HPS.out, _, rfl⟩
                        case measure => simp [intOf]; omega
                      · skip
                        have FIN := Lib.hid (HNE.out (fun e => g7 (by rw [e])))
                        rw [g0] at d0
                        rw [g1] at d1
                        rw [g2] at d2
                        rw [g3] at d3
                        rw [g4] at d4
                        rw [g5] at d5
                        rw [g6] at d6
                        clear g0 g1 g2 g3 g4 g5 g6
                        have e1 : (((n.fDepth : Nat) : Int) == ((m.fDepth : Nat) : Int)) = false := beq_eq_false_iff_ne.2 (by omega)
                        clear g7
                        generalize n.fDepth = u7 at *
                        generalize m.fDepth = v7 at *
                        go_wp2
                        go_quiet (fail)
                        go_wp2
                        go_ret
                        exact ⟨ret_b FIN.out.symm, below_drewN (below_drewN (Below.refl _ _) _) _⟩
                    · skip
                      have FIN := Lib.hid (HNE.out (fun e => g6 (by rw [e])))
                      rw [g0] at d0
                      rw [g1] at d1
                      rw [g2] at d2
                      rw [g3] at d3
                      rw [g4] at d4
                      rw [g5] at d5
                      clear g0 g1 g2 g3 g4 g5
                      have e1 : (((n.fArgs : Nat) : Int) == ((m.fArgs : Nat) : Int)) = false := beq_eq_false_iff_ne.2 (by omega)
                      clear g6
                      generalize n.fArgs = u6 at *
                      generalize m.fArgs = v6 at *
                      generalize n.fDepth = u7 at *
                      generalize m.fDepth = v7 at *
                      go_wp2
                      go_quiet (fail)
                      go_wp2
                      go_ret
                      exact ⟨ret_b FIN.out.symm, below_drewN (below_drewN (Below.refl _ _) _) _⟩
                  · skip
                    have FIN := Lib.hid (HNE.out (fun e => g5 (by rw [e])))
                    rw [g0] at d0
                    rw [g1] at d1
                    rw [g2] at d2
                    rw [g3] at d3
                    rw [g4] at d4
                    clear g0 g1 g2 g3 g4
                    have e1 : (n.fName.toList == m.fName.toList) = false := ne_str g5
                    clear g5
                    generalize n.fName = u5 at *
                    generalize m.fName = v5 at *
                    generalize n.fArgs = u6 at *
                    generalize m.fArgs = v6 at *
                    generalize n.fDepth = u7 at *
                    generalize m.fDepth = v7 at *
                    go_wp2
                    go_quiet (fail)
                    go_wp2
                    go_ret
                    exact ⟨ret_b FIN.out.symm, below_drewN (below_drewN (Below.refl _ _) _) _⟩
                · skip
                  have FIN := Lib.hid (HNE.out (fun e => g4 (by rw [e])))
                  rw [g0] at d0
                  rw [g1] at d1
                  rw [g2] at d2
                  rw [g3] at d3
                  clear g0 g1 g2 g3
                  have e1 : (n.fSymbol.toList == m.fSymbol.toList) = false := ne_str g4
                  clear g4
                  generalize n.fSymbol = u4 at *
                  generalize m.fSymbol = v4 at *
                  generalize n.fName = u5 at *
                  generalize m.fName = v5 at *
                  generalize n.fArgs = u6 at *
                  generalize m.fArgs = v6 at *
                  generalize n.fDepth = u7 at *
                  generalize m.fDepth = v7 at *
                  go_wp2
                  go_quiet (fail)
                  go_wp2
                  go_ret
                  exact ⟨ret_b FIN.out.symm, below_drewN (below_drewN (Below.refl _ _) _) _⟩
              · skip
                have FIN := Lib.hid (HNE.out (fun e => g3 (by rw [e])))
                rw [g0] at d0
                rw [g1] at d1
                rw [g2] at d2
                clear g0 g1 g2
                have e1 : (n.fType == m.fType) = false := beq_eq_false_iff_ne.2 g3
                clear g3
                generalize n.fType = u3 at *
                generalize m.fType = v3 at *
                generalize n.fSymbol = u4 at *
                generalize m.fSymbol = v4 at *
                generalize n.fName = u5 at *
                generalize m.fName = v5 at *
                generalize n.fArgs = u6 at *
                generalize m.fArgs = v6 at *
                generalize n.fDepth = u7 at *
                generalize m.fDepth = v7 at *
                go_wp2
                go_quiet (fail)
                go_wp2
                go_ret
                exact ⟨ret_b FIN.out.symm, below_drewN (below_drewN (Below.refl _ _) _) _⟩
            · skip
              have FIN := Lib.hid (HNE.out (fun e => g2 (by rw [e])))
              rw [g0] at d0
              rw [g1] at d1
              clear g0 g1
              have e1 : (n.fPos == m.fPos) = false := beq_eq_false_iff_ne.2 g2
              clear g2
              generalize n.fPos = u2 at *
              generalize m.fPos = v2 at *
              generalize n.fType = u3 at *
              generalize m.fType = v3 at *
              generalize n.fSymbol = u4 at *
              generalize m.fSymbol = v4 at *
              generalize n.fName = u5 at *
              generalize m.fName = v5 at *
              generalize n.fArgs = u6 at *
              generalize m.fArgs = v6 at *
              generalize n.fDepth = u7 at *
              generalize m.fDepth = v7 at *
              go_wp2
              go_quiet (fail)
              go_wp2
              go_ret
              exact ⟨ret_b FIN.out.symm, below_drewN (below_drewN (Below.refl _ _) _) _⟩
          · skip
            have FIN := Lib.hid (HNE.out (fun e => g1 (by rw [e])))
            rw [g0] at d0
            clear g0
            have e1 : (n.fN == m.fN) = false := beq_eq_false_iff_ne.2 g1
            clear g1
            generalize n.fN = u1 at *
            generalize m.fN = v1 at *
            generalize n.fPos = u2 at *
            generalize m.fPos = v2 at *
            generalize n.fType = u3 at *
            generalize m.fType = v3 at *
            generalize n.fSymbol = u4 at *
            generalize m.fSymbol = v4 at *
            generalize n.fName = u5 at *
            generalize m.fName = v5 at *
            generalize n.fArgs = u6 at *
            generalize m.fArgs = v6 at *
            generalize n.fDepth = u7 at *
            generalize m.fDepth = v7 at *
            go_wp2
            go_quiet (fail)
            go_wp2
            go_ret
            exact ⟨ret_b FIN.out.symm, below_drewN (below_drewN (Below.refl _ _) _) _⟩
        · skip
          have FIN := Lib.hid (HNE.out (fun e => g0 (by rw [e])))
          have e1 : (n.fKind == m.fKind) = false := beq_eq_false_iff_ne.2 g0
          clear g0
          generalize n.fKind = u0 at *
          generalize m.fKind = v0 at *
          generalize n.fN = u1 at *
          generalize m.fN = v1 at *
          generalize n.fPos = u2 at *
          generalize m.fPos = v2 at *
          generalize n.fType = u3 at *
          generalize m.fType = v3 at *
          generalize n.fSymbol = u4 at *
          generalize m.fSymbol = v4 at *
          generalize n.fName = u5 at *
          generalize m.fName = v5 at *
          generalize n.fArgs = u6 at *
          generalize m.fArgs = v6 at *
          generalize n.fDepth = u7 at *
          generalize m.fDepth = v7 at *
          go_wp2
          go_quiet (fail)
          go_wp2
          go_ret
          exact ⟨ret_b FIN.out.symm, below_drewN (below_drewN (Below.refl _ _) _) _⟩
      · obtain rfl : k = N.length := by omega
        have FIN := Lib.hid (HYES.out (nodes_ext HL.out HALL.out))
        go_wp2
        go_ret
        exact ⟨ret_b FIN.out.symm, below_drewN (Below.refl _ _) _⟩
  · have FIN := Lib.hid (HNO.out fun e => hl (by rw [e]))
    have hne : ((N.length : Nat) : Int) ≠ ((M.length : Nat) : Int) := by omega
    have e1 : (((N.length : Nat) : Int) == ((M.length : Nat) : Int)) = false := beq_eq_false_iff_ne.2 hne
    have e2 : (((N.length : Nat) : Int) != ((M.length : Nat) : Int)) = true := by rw [bne, e1]; rfl
    clear hl hne
    go_enter Tryz.func112, Tryz.ntmps112
    go_wp2
    go_ret
    exact ⟨ret_b FIN.out.symm, Below.refl _ _⟩

set_option maxHeartbeats 1600000 in
set_option maxRecDepth 100000 in
theorem impl_EqualExpr {lo hi c0_0 c1_0 : Nat} {a6 b6 : Option Addr} (x : DExpr) (_ : x.ok) (hsz : x.sz ≤ 1048576) (y : DExpr) (_ : y.ok) (hsz2 : y.sz ≤ 1048576) (w : World) (hhi : hi ≤ w.heap.size) (hs6 : Sf lo hi w 7 x.fArgs.length (ctE x.fArgs) a6) (ht6 : Sf lo hi w 7 y.fArgs.length (ctE y.fArgs) b6) :
    Calls Tryz.prog 94 #[.agg #[.int .i64 x.fKind, .int .i64 x.fN, .int .i64 x.fPos, .int .i64 x.fType, .string x.fSymbol, .string x.fName, .slice a6 x.fArgs.length c0_0], .agg #[.int .i64 y.fKind, .int .i64 y.fN, .int .i64 y.fPos, .int .i64 y.fType, .string y.fSymbol, .string y.fName, .slice b6 y.fArgs.length c1_0]] w fun e w' => e = .returned (.bool (eqE x y)) ∧ Below w.heap.size w w' := by
  have HB := Lib.hid (((Below.refl w.heap.size w).alloc (Nat.le_refl _) (.cells #[.int .i64 x.fKind, .int .i64 x.fN, .int .i64 x.fPos, .int .i64 x.fType, .string x.fSymbol, .string x.fName, .slice a6 x.fArgs.length c0_0] 123)).alloc (by simp) (.cells #[.int .i64 y.fKind, .int .i64 y.fN, .int .i64 y.fPos, .int .i64 y.fType, .string y.fSymbol, .string y.fName, .slice b6 y.fArgs.length c1_0] 123))
  have HX := Lib.hid (fun (W : World) (hW : Below w.heap.size w W) => impl_allNodesOf (c6 := c0_0) x hsz W (Nat.le_trans hhi hW.size) ((hs6.mono (Nat.zero_le _) (Nat.le_refl _)).later hW hhi))
  have HY := Lib.hid (fun (W : World) (hW : Below w.heap.size w W) => impl_allNodesOf (c6 := c1_0) y hsz2 W (Nat.le_trans hhi hW.size) ((ht6.mono (Nat.zero_le _) (Nat.le_refl _)).later hW hhi))
  have hl1 := len_nodesX x 1
  have hl2 := len_nodesX y 1
  have hc1 := cntX_le x
  have hc2 := cntX_le y
  have HE := Lib.hid (fun (W : World) (a b : Option Addr) (c d B1 B2 : Nat) => slicesEqual_nodes (a := a) (b := b) (c := c) (d := d) (B1 := B1) (B2 := B2) (nodesX x 1) (nodesX y 1) (by omega) (by omega) (eqE x y) (eqE_nodes x y) W)
  have HS0 := Lib.hid (show w.heap.size + 2 ≤ (((w.alloc (.cells #[.int .i64 x.fKind, .int .i64 x.fN, .int .i64 x.fPos, .int .i64 x.fType, .string x.fSymbol, .string x.fName, .slice a6 x.fArgs.length c0_0] 123)).alloc (.cells #[.int .i64 y.fKind, .int .i64 y.fN, .int .i64 y.fPos, .int .i64 y.fType, .string y.fSymbol, .string y.fName, .slice b6 y.fArgs.length c1_0] 123))).heap.size from by simp)
  have Kx0 := Lib.hid (show ∀ W, Below (w.heap.size + 2) ((w.alloc (.cells #[.int .i64 x.fKind, .int .i64 x.fN, .int .i64 x.fPos, .int .i64 x.fType, .string x.fSymbol, .string x.fName, .slice a6 x.fArgs.length c0_0] 123)).alloc (.cells #[.int .i64 y.fKind, .int .i64 y.fN, .int .i64 y.fPos, .int .i64 y.fType, .string y.fSymbol, .string y.fName, .slice b6 y.fArgs.length c1_0] 123)) W → W.cell? ⟨w.heap.size, 0, none⟩ = some (.int .i64 x.fKind) from fun W hW => (hW.cell (p := ⟨w.heap.size, 0, none⟩) (by simp)).trans (by go_simp))
  have Kx1 := Lib.hid (show ∀ W, Below (w.heap.size + 2) ((w.alloc (.cells #[.int .i64 x.fKind, .int .i64 x.fN, .int .i64 x.fPos, .int .i64 x.fType, .string x.fSymbol, .string x.fName, .slice a6 x.fArgs.length c0_0] 123)).alloc (.cells #[.int .i64 y.fKind, .int .i64 y.fN, .int .i64 y.fPos, .int .i64 y.fType, .string y.fSymbol, .string y.fName, .slice b6 y.fArgs.length c1_0] 123)) W → W.cell? ⟨w.heap.size, 1, none⟩ = some (.int .i64 x.fN) from fun W hW => (hW.cell (p := ⟨w.heap.size, 1, none⟩) (by simp)).trans (by go_simp))
  have Kx2 := Lib.hid (show ∀ W, Below (w.heap.size + 2) ((w.alloc (.cells #[.int .i64 x.fKind, .int .i64 x.fN, .int .i64 x.fPos, .int .i64 x.fType, .string x.fSymbol, .string x.fName, .slice a6 x.fArgs.length c0_0] 123)).alloc (.cells #[.int .i64 y.fKind, .int .i64 y.fN, .int .i64 y.fPos, .int .i64 y.fType, .string y.fSymbol, .string y.fName, .slice b6 y.fArgs.length c1_0] 123)) W → W.cell? ⟨w.heap.size, 2, none⟩ = some (.int .i64 x.fPos) from fun W hW => (hW.cell (p := ⟨w.heap.size, 2, none⟩) (by simp)).trans (by go_simp))
  have Kx3 := Lib.hid (show ∀ W, Below (w.heap.size + 2) ((w.alloc (.cells #[.int .i64 x.fKind, .int .i64 x.fN, .int .i64 x.fPos, .int .i64 x.fType, .string x.fSymbol, .string x.fName, .slice a6 x.fArgs.length c0_0] 123)).alloc (.cells #[.int .i64 y.fKind, .int .i64 y.fN, .int .i64 y.fPos, .int .i64 y.fType, .string y.fSymbol, .string y.fName, .slice b6 y.fArgs.length c1_0] 123)) W → W.cell? ⟨w.heap.size, 3, none⟩ = some (.int .i64 x.fType) from fun W hW => (hW.cell (p := ⟨w.heap.size, 3, none⟩) (by simp)).trans (by go_simp))
  have Kx4 := Lib.hid (show ∀ W, Below (w.heap.size + 2) ((w.alloc (.cells #[.int .i64 x.fKind, .int .i64 x.fN, .int .i64 x.fPos, .int .i64 x.fType, .string x.fSymbol, .string x.fName, .slice a6 x.fArgs.length c0_0] 123)).alloc (.cells #[.int .i64 y.fKind, .int .i64 y.fN, .int .i64 y.fPos, .int .i64 y.fType, .string y.fSymbol, .string y.fName, .slice b6 y.fArgs.length c1_0] 123)) W → W.cell? ⟨w.heap.size, 4, none⟩ = some (.string x.fSymbol) from fun W hW => (hW.cell (p := ⟨w.heap.size, 4, none⟩) (by simp)).trans (by go_simp))
  have Kx5 := Lib.hid (show ∀ W, Below (w.heap.size + 2) ((w.alloc (.cells #[.int .i64 x.fKind, .int .i64 x.fN, .int .i64 x.fPos, .int .i64 x.fType, .string x.fSymbol, .string x.fName, .slice a6 x.fArgs.length c0_0] 123)).alloc (.cells #[.int .i64 y.fKind, .int .i64 y.fN, .int .i64 y.fPos, .int .i64 y.fType, .string y.fSymbol, .string y.fName, .slice b6 y.fArgs.length c1_0] 123)) W → W.cell? ⟨w.heap.size, 5, none⟩ = some (.string x.fName) from fun W hW => (hW.cell (p := ⟨w.heap.size, 5, none⟩) (by simp)).trans (by go_simp))
  have Kx6 := Lib.hid (show ∀ W, Below (w.heap.size + 2) ((w.alloc (.cells #[.int .i64 x.fKind, .int .i64 x.fN, .int .i64 x.fPos, .int .i64 x.fType, .string x.fSymbol, .string x.fName, .slice a6 x.fArgs.length c0_0] 123)).alloc (.cells #[.int .i64 y.fKind, .int .i64 y.fN, .int .i64 y.fPos, .int .i64 y.fType, .string y.fSymbol, .string y.fName, .slice b6 y.fArgs.length c1_0] 123)) W → W.cell? ⟨w.heap.size, 6, none⟩ = some (.slice a6 x.fArgs.length c0_0) from fun W hW => (hW.cell (p := ⟨w.heap.size, 6, none⟩) (by simp)).trans (by go_simp))
  have Ky0 := Lib.hid (show ∀ W, Below (w.heap.size + 2) ((w.alloc (.cells #[.int .i64 x.fKind, .int .i64 x.fN, .int .i64 x.fPos, .int .i64 x.fType, .string x.fSymbol, .string x.fName, .slice a6 x.fArgs.length c0_0] 123)).alloc (.cells #[.int .i64 y.fKind, .int .i64 y.fN, .int .i64 y.fPos, .int .i64 y.fType, .string y.fSymbol, .string y.fName, .slice b6 y.fArgs.length c1_0] 123)) W → W.cell? ⟨w.heap.size + 1, 0, none⟩ = some (.int .i64 y.fKind) from fun W hW => (hW.cell (p := ⟨w.heap.size + 1, 0, none⟩) (by simp)).trans (by go_simp))
  have Ky1 := Lib.hid (show ∀ W, Below (w.heap.size + 2) ((w.alloc (.cells #[.int .i64 x.fKind, .int .i64 x.fN, .int .i64 x.fPos, .int .i64 x.fType, .string x.fSymbol, .string x.fName, .slice a6 x.fArgs.length c0_0] 123)).alloc (.cells #[.int .i64 y.fKind, .int .i64 y.fN, .int .i64 y.fPos, .int .i64 y.fType, .string y.fSymbol, .string y.fName, .slice b6 y.fArgs.length c1_0] 123)) W → W.cell? ⟨w.heap.size + 1, 1, none⟩ = some (.int .i64 y.fN) from fun W hW => (hW.cell (p := ⟨w.heap.size + 1, 1, none⟩) (by simp)).trans (by go_simp))
  have Ky2 := Lib.hid (show ∀ W, Below (w.heap.size + 2) ((w.alloc (.cells #[.int .i64 x.fKind, .int .i64 x.fN, .int .i64 x.fPos, .int .i64 x.fType, .string x.fSymbol, .string x.fName, .slice a6 x.fArgs.length c0_0] 123)).alloc (.cells #[.int .i64 y.fKind, .int .i64 y.fN, .int .i64 y.fPos, .int .i64 y.fType, .string y.fSymbol, .string y.fName, .slice b6 y.fArgs.length c1_0] 123)) W → W.cell? ⟨w.heap.size + 1, 2, none⟩ = some (.int .i64 y.fPos) from fun W hW => (hW.cell (p := ⟨w.heap.size + 1, 2, none⟩) (by simp)).trans (by go_simp))
  have Ky3 := Lib.hid (show ∀ W, Below (w.heap.size + 2) ((w.alloc (.cells #[.int .i64 x.fKind, .int .i64 x.fN, .int .i64 x.fPos, .int .i64 x.fType, .string x.fSymbol, .string x.fName, .slice a6 x.fArgs.length c0_0] 123)).alloc (.cells #[.int .i64 y.fKind, .int .i64 y.fN, .int .i64 y.fPos, .int .i64 y.fType, .string y.fSymbol, .string y.fName, .slice b6 y.fArgs.length c1_0] 123)) W → W.cell? ⟨w.heap.size + 1, 3, none⟩ = some (.int .i64 y.fType) from fun W hW => (hW.cell (p := ⟨w.heap.size + 1, 3, none⟩) (by simp)).trans (by go_simp))
  have Ky4 := Lib.hid (show ∀ W, Below (w.heap.size + 2) ((w.alloc (.cells #[.int .i64 x.fKind, .int .i64 x.fN, .int .i64 x.fPos, .int .i64 x.fType, .string x.fSymbol, .string x.fName, .slice a6 x.fArgs.length c0_0] 123)).alloc (.cells #[.int .i64 y.fKind, .int .i64 y.fN, .int .i64 y.fPos, .int .i64 y.fType, .string y.fSymbol, .string y.fName, .slice b6 y.fArgs.length c1_0] 123)) W → W.cell? ⟨w.heap.size + 1, 4, none⟩ = some (.string y.fSymbol) from fun W hW => (hW.cell (p := ⟨w.heap.size + 1, 4, none⟩) (by simp)).trans (by go_simp))
  have Ky5 := Lib.hid (show ∀ W, Below (w.heap.size + 2) ((w.alloc (.cells #[.int .i64 x.fKind, .int .i64 x.fN, .int .i64 x.fPos, .int .i64 x.fType, .string x.fSymbol, .string x.fName, .slice a6 x.fArgs.length c0_0] 123)).alloc (.cells #[.int .i64 y.fKind, .int .i64 y.fN, .int .i64 y.fPos, .int .i64 y.fType, .string y.fSymbol, .string y.fName, .slice b6 y.fArgs.length c1_0] 123)) W → W.cell? ⟨w.heap.size + 1, 5, none⟩ = some (.string y.fName) from fun W hW => (hW.cell (p := ⟨w.heap.size + 1, 5, none⟩) (by simp)).trans (by go_simp))
  have Ky6 := Lib.hid (show ∀ W, Below (w.heap.size + 2) ((w.alloc (.cells #[.int .i64 x.fKind, .int .i64 x.fN, .int .i64 x.fPos, .int .i64 x.fType, .string x.fSymbol, .string x.fName, .slice a6 x.fArgs.length c0_0] 123)).alloc (.cells #[.int .i64 y.fKind, .int .i64 y.fN, .int .i64 y.fPos, .int .i64 y.fType, .string y.fSymbol, .string y.fName, .slice b6 y.fArgs.length c1_0] 123)) W → W.cell? ⟨w.heap.size + 1, 6, none⟩ = some (.slice b6 y.fArgs.length c1_0) from fun W hW => (hW.cell (p := ⟨w.heap.size + 1, 6, none⟩) (by simp)).trans (by go_simp))
  clear hs6 ht6 hl1 hl2 hc1 hc2 hsz hsz2
  generalize nodesX x 1 = N at *
  generalize nodesX y 1 = M at *
  generalize eqE x y = res at *
  go_enter Tryz.func94, Tryz.ntmps94
  go_wp2_with fail
  go_region_with ((first
    | (go_at_call_of 113 x; refine (HX.out _ (by first | exact HB.out.drew | exact HB1.out)).mono ?_; rintro e wx ⟨vx, rfl, hox, hbx⟩; obtain ⟨ax, cx, rfl⟩ := own_slice hox; have HB1 := Lib.hid (show Below w.heap.size w wx from by first | exact HB1.out.trans (hbx.mono HB1.out.size) | exact HB.out.drew.trans (hbx.mono HB.out.size)); have HBQ := Lib.hid (show Below (w.heap.size + 2) ((w.alloc (.cells #[.int .i64 x.fKind, .int .i64 x.fN, .int .i64 x.fPos, .int .i64 x.fType, .string x.fSymbol, .string x.fName, .slice a6 x.fArgs.length c0_0] 123)).alloc (.cells #[.int .i64 y.fKind, .int .i64 y.fN, .int .i64 y.fPos, .int .i64 y.fType, .string y.fSymbol, .string y.fName, .slice b6 y.fArgs.length c1_0] 123)) wx from by first | exact HBQ.out.trans (hbx.mono (Nat.le_trans HS0.out HBQ.out.size)) | exact (Below.refl _ _).drew.trans (hbx.mono HS0.out)); have kx0 := Kx0.out _ HBQ.out; have kx1 := Kx1.out _ HBQ.out; have kx2 := Kx2.out _ HBQ.out; have kx3 := Kx3.out _ HBQ.out; have kx4 := Kx4.out _ HBQ.out; have kx5 := Kx5.out _ HBQ.out; have kx6 := Kx6.out _ HBQ.out; have ky0 := Ky0.out _ HBQ.out; have ky1 := Ky1.out _ HBQ.out; have ky2 := Ky2.out _ HBQ.out; have ky3 := Ky3.out _ HBQ.out; have ky4 := Ky4.out _ HBQ.out; have ky5 := Ky5.out _ HBQ.out; have ky6 := Ky6.out _ HBQ.out)
    | (go_at_call_of 113 y; refine (HY.out _ (by first | exact HB.out.drew | exact HB1.out)).mono ?_; rintro e wy ⟨vy, rfl, hoy, hby⟩; obtain ⟨ay, cy, rfl⟩ := own_slice hoy; have HB1 := Lib.hid (show Below w.heap.size w wy from by first | exact HB1.out.trans (hby.mono HB1.out.size) | exact HB.out.drew.trans (hby.mono HB.out.size)); have HBQ := Lib.hid (show Below (w.heap.size + 2) ((w.alloc (.cells #[.int .i64 x.fKind, .int .i64 x.fN, .int .i64 x.fPos, .int .i64 x.fType, .string x.fSymbol, .string x.fName, .slice a6 x.fArgs.length c0_0] 123)).alloc (.cells #[.int .i64 y.fKind, .int .i64 y.fN, .int .i64 y.fPos, .int .i64 y.fType, .string y.fSymbol, .string y.fName, .slice b6 y.fArgs.length c1_0] 123)) wy from by first | exact HBQ.out.trans (hby.mono (Nat.le_trans HS0.out HBQ.out.size)) | exact (Below.refl _ _).drew.trans (hby.mono HS0.out)); have kx0 := Kx0.out _ HBQ.out; have kx1 := Kx1.out _ HBQ.out; have kx2 := Kx2.out _ HBQ.out; have kx3 := Kx3.out _ HBQ.out; have kx4 := Kx4.out _ HBQ.out; have kx5 := Kx5.out _ HBQ.out; have kx6 := Kx6.out _ HBQ.out; have ky0 := Ky0.out _ HBQ.out; have ky1 := Ky1.out _ HBQ.out; have ky2 := Ky2.out _ HBQ.out; have ky3 := Ky3.out _ HBQ.out; have ky4 := Ky4.out _ HBQ.out; have ky5 := Ky5.out _ HBQ.out; have ky6 := Ky6.out _ HBQ.out)
    | (go_at_call 112; refine (HE.out _ ax ay cx cy _ _ (by first | exact hox | exact ownsRow_below hox hby) (by first | exact hoy | exact ownsRow_below hoy hbx)).mono ?_; rintro e wz ⟨rfl, hbz⟩; have HB2 := Lib.hid (HB1.out.trans (hbz.mono HB1.out.size)))))
  all_goals
    go_wp2
    go_ret
    exact ⟨rfl, HB2.out⟩
end Go.Proofs.YtjhgifpnpkcaoaaGreat
