/-
  EqualExpr, in the model and in the program.
-/
import Derived.Test.YtjhgifpnpkcaoaaGreatECount
import Derived.Lib.Strings
namespace Go.Proofs.YtjhgifpnpkcaoaaGreat
open Go.ChangeShapes Go.WideShapes Go.ChangeAt Go.RowKit Go.Deep


theorem toList_inj' {x y : ByteArray} (h : x.toList = y.toList) : x = y := by
  rw [Lib.toList_data, Lib.toList_data] at h
  cases x; cases y
  simp only at h
  rw [ByteArray.mk.injEq]
  exact Array.toList_inj.1 h
theorem ne_str {x y : ByteArray} (h : x ≠ y) : (x.toList == y.toList) = false := beq_eq_false_iff_ne.2 (fun e => h (toList_inj' e))
open Classical in
/-- Two expressions are one. -/
noncomputable def eqE (x y : DExpr) : Bool := decide (x = y)
theorem eqE_no {x y : DExpr} (h : x ≠ y) : eqE x y = false := by classical exact decide_eq_false h
theorem eqE_yes {x y : DExpr} (h : x = y) : eqE x y = true := by classical exact decide_eq_true h
theorem DExpr.ext' {x y : DExpr} (h0 : x.fKind = y.fKind) (h1 : x.fN = y.fN) (h2 : x.fPos = y.fPos) (h3 : x.fType = y.fType) (h4 : x.fSymbol = y.fSymbol) (h5 : x.fName = y.fName) (h6 : x.fArgs = y.fArgs) : x = y := by
  cases x; cases y
  simp only at *
  subst h0 h1 h2 h3 h4 h5 h6
  rfl
theorem args_ext {l m : List DExpr} (hl : l.length = m.length) (h : ∀ k, k < l.length → l.getD k default = m.getD k default) : l = m := by
  refine List.ext_getElem hl fun k hk hk' => ?_
  have := h k hk
  rw [List.getD_eq_getElem?_getD, List.getElem?_eq_getElem hk, List.getD_eq_getElem?_getD, List.getElem?_eq_getElem hk'] at this
  exact this
theorem nodes_list (P : DExpr → Prop) (hP : ∀ x, P x → ∀ (y : DExpr) (d : Nat) (r r' : List ENode), nodesX x d ++ r = nodesX y d ++ r' → x = y ∧ r = r') (d : Nat) : ∀ (l m : List DExpr) (r r' : List ENode), (∀ a ∈ l, P a) → l.length = m.length → nodesL l d ++ r = nodesL m d ++ r' → l = m ∧ r = r'
  | [], [], r, r', _, _, h => ⟨rfl, h⟩
  | a :: l, b :: m, r, r', hp, hl, h => by
    have h' : nodesX a d ++ (nodesL l d ++ r) = nodesX b d ++ (nodesL m d ++ r') := by rw [← List.append_assoc, ← List.append_assoc]; exact h
    obtain ⟨rfl, h2⟩ := hP a (hp a (List.mem_cons_self ..)) b d _ _ h'
    obtain ⟨rfl, h3⟩ := nodes_list P hP d l m r r' (fun x hx => hp x (List.mem_cons_of_mem _ hx)) (by simpa using hl) h2
    exact ⟨rfl, h3⟩
  | [], _ :: _, _, _, _, hl, _ => by simp at hl
  | _ :: _, [], _, _, _, hl, _ => by simp at hl
theorem nodes_inj : ∀ (x y : DExpr) (d : Nat) (r r' : List ENode), nodesX x d ++ r = nodesX y d ++ r' → x = y ∧ r = r' := by
  intro x
  refine DExpr.ind (P := fun x => ∀ (y : DExpr) (d : Nat) (r r' : List ENode), nodesX x d ++ r = nodesX y d ++ r' → x = y ∧ r = r') (fun x ih y d r r' h => ?_) x
  rw [nodesX_eq, nodesX_eq, List.cons_append, List.cons_append, List.cons.injEq] at h
  obtain ⟨h0, h1⟩ := h
  unfold nodeOfX at h0
  simp only [ENode.mk.injEq, and_true] at h0
  obtain ⟨a0, a1, a2, a3, a4, a5, a6⟩ := h0
  obtain ⟨h2, h3⟩ := nodes_list _ (fun _ h => h) (d + 1) x.fArgs y.fArgs r r' ih a6 h1
  exact ⟨DExpr.ext' a0 a1 a2 a3 a4 a5 h2, h3⟩
theorem eqE_nodes (x y : DExpr) : eqE x y = true ↔ nodesX x 1 = nodesX y 1 := by
  classical
  unfold eqE
  rw [decide_eq_true_eq]
  refine ⟨fun h => by rw [h], fun h => (nodes_inj x y 1 [] [] (by rw [h])).1⟩

def SpecEq (x : DExpr) : Prop := ∀ (y : DExpr) ⦃lo hi c6 lo2 hi2 e6 : Nat⦄ ⦃a6 b6 : Option Addr⦄ (_hsz : x.sz ≤ 1048576) (_hsz2 : y.sz ≤ 1048576) (w : World) (_hhi : hi ≤ w.heap.size) (_hhi2 : hi2 ≤ w.heap.size) (_hs6 : Sl lo hi w 7 x.fArgs.length (ctE x.fArgs) a6) (_ht6 : Sl lo2 hi2 w 7 y.fArgs.length (ctE y.fArgs) b6),
  Calls Tryz.prog 58 #[.agg #[.int .i64 x.fKind, .int .i64 x.fN, .int .i64 x.fPos, .int .i64 x.fType, .string x.fSymbol, .string x.fName, .slice a6 x.fArgs.length c6], .agg #[.int .i64 y.fKind, .int .i64 y.fN, .int .i64 y.fPos, .int .i64 y.fType, .string y.fSymbol, .string y.fName, .slice b6 y.fArgs.length e6]] w fun e w' => e = .returned (.bool (eqE x y)) ∧ Below w.heap.size w w'

set_option maxHeartbeats 3200000 in
set_option maxRecDepth 100000 in
theorem specEq_step (x : DExpr) (ih : ∀ a ∈ x.fArgs, SpecEq a) : SpecEq x := by
  intro y lo hi c6 lo2 hi2 e6 a6 b6 hsz hsz2 w hhi hhi2 hs6 ht6
  have hn : x.fArgs.length ≤ 1048576 := by have h := hsz; rw [DExpr.sz_eq] at h; unfold lsz at h; omega
  have hn2 : y.fArgs.length ≤ 1048576 := by have h := hsz2; rw [DExpr.sz_eq] at h; unfold lsz at h; omega
  have HZ := Lib.hid hsz
  have HZ2 := Lib.hid hsz2
  have IH := Lib.hid ih
  have HS := Lib.hid hs6
  have HS2 := Lib.hid ht6
  have HB := Lib.hid (((Below.refl w.heap.size w).alloc (Nat.le_refl _) (.cells #[.int .i64 x.fKind, .int .i64 x.fN, .int .i64 x.fPos, .int .i64 x.fType, .string x.fSymbol, .string x.fName, .slice a6 x.fArgs.length c6] 123)).alloc (by simp) (.cells #[.int .i64 y.fKind, .int .i64 y.fN, .int .i64 y.fPos, .int .i64 y.fType, .string y.fSymbol, .string y.fName, .slice b6 y.fArgs.length e6] 123))
  clear hsz hsz2 ih hs6 ht6
  by_cases h0 : x.fKind = y.fKind
  · skip
    by_cases h1 : x.fN = y.fN
    · skip
      by_cases h2 : x.fPos = y.fPos
      · skip
        by_cases h3 : x.fType = y.fType
        · skip
          by_cases h4 : x.fSymbol = y.fSymbol
          · skip
            by_cases h5 : x.fName = y.fName
            · skip
              by_cases h6 : x.fArgs.length = y.fArgs.length
              · skip
                have HX := Lib.hid (show (∀ k, k < x.fArgs.length → x.fArgs.getD k default = y.fArgs.getD k default) → eqE x y = true from fun h => eqE_yes (DExpr.ext' h0 h1 h2 h3 h4 h5 (args_ext h6 h)))
                have HNX := Lib.hid (show ∀ k, x.fArgs.getD k default ≠ y.fArgs.getD k default → eqE x y = false from fun k h => eqE_no fun e => h (by rw [e]))
                rw [← h6] at HS2
                rw [h0, h1, h2, h3, h4, h5, ← h6] at HB ⊢
                generalize eqE x y = res at *
                have hyy : y.fArgs.length = x.fArgs.length := h6.symm
                have HYY := Lib.hid hyy
                clear hyy h0 h1 h2 h3 h4 h5 h6 hn2
                generalize y.fKind = p0 at *
                generalize y.fN = p1 at *
                generalize y.fPos = p2 at *
                generalize y.fType = p3 at *
                generalize y.fSymbol = p4 at *
                generalize y.fName = p5 at *
                go_enter Tryz.func58, Tryz.ntmps58
                go_wp2
                go_loopw [5] (fun i wr => ∃ k : Nat, k ≤ x.fArgs.length ∧ i = .int .i64 (k : Int) ∧ (∀ j, j < k → x.fArgs.getD j default = y.fArgs.getD j default) ∧ Below (w.heap.size + 2) ((w.alloc (.cells #[.int .i64 p0, .int .i64 p1, .int .i64 p2, .int .i64 p3, .string p4, .string p5, .slice a6 x.fArgs.length c6] 123)).alloc (.cells #[.int .i64 p0, .int .i64 p1, .int .i64 p2, .int .i64 p3, .string p4, .string p5, .slice b6 x.fArgs.length e6] 123)) wr) (fun i _ => x.fArgs.length - (intOf i).toNat)
                case atStart => exact ⟨0, Nat.zero_le _, rfl, fun _ h => absurd h (Nat.not_lt_zero _), Below.refl _ _⟩
                case round =>
                  obtain ⟨k, hk, rfl, hall, hbl⟩ := hrel
                  have HALL := Lib.hid hall
                  have HBL := Lib.hid hbl
                  have hbw : Below w.heap.size w wr := HB.out.trans (hbl.mono (by omega))
                  have HBW := Lib.hid hbw
                  have p6 : wr.cell? ⟨w.heap.size, 6, none⟩ = some (.slice a6 x.fArgs.length c6) := (hbl.cell (p := ⟨w.heap.size, 6, none⟩) (by simp)).trans (by go_simp)
                  have q6 : wr.cell? ⟨w.heap.size + 1, 6, none⟩ = some (.slice b6 x.fArgs.length e6) := (hbl.cell (p := ⟨w.heap.size + 1, 6, none⟩) (by simp)).trans (by go_simp)
                  have hsz1 : w.heap.size + 2 ≤ wr.heap.size := Nat.le_trans (by simp) hbl.size
                  clear hbl hall
                  by_cases hlt : k < x.fArgs.length
                  · obtain ⟨rb, ro, rfl, _, hrb, hc⟩ := (HS.out.later (hbw.mono hhi) (Nat.le_refl _)).at k hlt
                    obtain ⟨rb2, ro2, rfl, _, hrb2, hd⟩ := (HS2.out.later (hbw.mono hhi2) (Nat.le_refl _)).at k hlt
                    have hlt2 : k < y.fArgs.length := by rw [HYY.out]; exact hlt
                    rw [ctE_at hlt] at hc
                    rw [ctE_at hlt2] at hd
                    obtain ⟨a9, c9, hc0, hc1, hc2, hc3, hc4, hc5, hc6, hs9⟩ := DExpr.open hc
                    obtain ⟨b9, e9, hd0, hd1, hd2, hd3, hd4, hd5, hd6, ht9⟩ := DExpr.open hd
                    have hszk := szle_at (f := DExpr.sz) x.fArgs k hlt
                    have hszk2 := szle_at (f := DExpr.sz) y.fArgs k hlt2
                    have hszx := HZ.out
                    have hszy := HZ2.out
                    rw [DExpr.sz_eq] at hszx hszy
                    have hbi : hi ≤ wr.heap.size := Nat.le_trans hhi hbw.size
                    have hbi2 : hi2 ≤ wr.heap.size := Nat.le_trans hhi2 hbw.size
                    have HC := Lib.hid (fun (W : World) (hW : Below wr.heap.size wr W) => IH.out _ (getD_mem hlt) (y.fArgs.getD k default) (c6 := c9) (e6 := e9) (by omega) (by omega) W (Nat.le_trans hbi hW.size) (Nat.le_trans hbi2 hW.size) (hs9.later (hW.mono hbi) (Nat.le_refl _)) (ht9.later (hW.mono hbi2) (Nat.le_refl _)))
                    clear hbw hc hd hs9 ht9 hszk hszk2 hszx hszy hlt2
                    by_cases heq : x.fArgs.getD k default = y.fArgs.getD k default
                    · have HPS := Lib.hid (show ∀ j, j < k + 1 → x.fArgs.getD j default = y.fArgs.getD j default from fun j hj => by
                        by_cases hjk : j = k
                        · subst hjk; exact heq
                        · exact HALL.out j (by omega))
                      rw [eqE_yes heq] at HC
                      clear heq
                      generalize x.fArgs.getD k default = x1 at hc0 hc1 hc2 hc3 hc4 hc5 hc6 HC
                      generalize y.fArgs.getD k default = y1 at hd0 hd1 hd2 hd3 hd4 hd5 hd6 HC
                      go_wp2_with fail
                      go_region_with ((go_at_call 58; refine (HC.out _ (by first | exact Below.refl _ _ | exact (Below.refl _ _).drew | exact below_drewN (Below.refl _ _) _)).mono ?_; rintro e w1 ⟨rfl, hb1⟩))
                      all_goals
                        go_wp2
                        go_roundw
                        case rel =>
                          refine ⟨k + 1, by omega, by go_num, HPS.out, ?_⟩
                          have hb2 : Below wr.heap.size wr w1 := ⟨hb1.os, hb1.tape, hb1.output, hb1.size, hb1.block⟩
                          repeat (first | exact HBL.out.trans (hb2.mono hsz1) | apply Below.drew | refine below_drewN ?_ _)
                        case measure => simp [intOf]; omega
                    · have FIN := Lib.hid (HNX.out k heq)
                      rw [eqE_no heq] at HC
                      clear heq
                      generalize x.fArgs.getD k default = x1 at hc0 hc1 hc2 hc3 hc4 hc5 hc6 HC
                      generalize y.fArgs.getD k default = y1 at hd0 hd1 hd2 hd3 hd4 hd5 hd6 HC
                      go_wp2_with fail
                      go_region_with ((go_at_call 58; refine (HC.out _ (by first | exact Below.refl _ _ | exact (Below.refl _ _).drew | exact below_drewN (Below.refl _ _) _)).mono ?_; rintro e w1 ⟨rfl, hb1⟩))
                      all_goals
                        go_wp2
                        go_ret
                        refine ⟨ret_b FIN.out.symm, ?_⟩
                        have hb2 : Below wr.heap.size wr w1 := ⟨hb1.os, hb1.tape, hb1.output, hb1.size, hb1.block⟩
                        repeat (first | exact HBW.out.trans (hb2.mono HBW.out.size) | apply Below.drew | refine below_drewN ?_ _)
                  · obtain rfl : k = x.fArgs.length := by omega
                    have FIN := Lib.hid (HX.out HALL.out)
                    clear hbw
                    go_wp2
                    go_ret
                    exact ⟨ret_b FIN.out.symm, HBW.out⟩
              · skip
                have fin := Lib.hid (eqE_no (x := x) (y := y) (fun e => h6 (by rw [e])))
                rw [h0, h1, h2, h3, h4, h5] at HB ⊢
                clear HS HS2 IH HZ HZ2 h0 h1 h2 h3 h4 h5
                generalize y.fKind = p0 at *
                generalize y.fN = p1 at *
                generalize y.fPos = p2 at *
                generalize y.fType = p3 at *
                generalize y.fSymbol = p4 at *
                generalize y.fName = p5 at *
                have e6 : (((x.fArgs.length : Nat) : Int) == ((y.fArgs.length : Nat) : Int)) = false := beq_eq_false_iff_ne.2 (by omega)
                have g6 : (((x.fArgs.length : Nat) : Int) != ((y.fArgs.length : Nat) : Int)) = true := by rw [bne, e6]; rfl
                clear h6
                generalize eqE x y = res at *
                generalize x.fArgs.length = u6 at *
                generalize y.fArgs.length = v6 at *
                go_enter Tryz.func58, Tryz.ntmps58
                go_wp2
                go_ret
                exact ⟨ret_b fin.out.symm, HB.out⟩
            · skip
              have fin := Lib.hid (eqE_no (x := x) (y := y) (fun e => h5 (by rw [e])))
              rw [h0, h1, h2, h3, h4] at HB ⊢
              clear HS HS2 IH HZ HZ2 h0 h1 h2 h3 h4
              generalize y.fKind = p0 at *
              generalize y.fN = p1 at *
              generalize y.fPos = p2 at *
              generalize y.fType = p3 at *
              generalize y.fSymbol = p4 at *
              have e5 : (x.fName.toList == y.fName.toList) = false := ne_str h5
              clear h5
              generalize eqE x y = res at *
              generalize x.fName = u5 at *
              generalize y.fName = v5 at *
              generalize x.fArgs.length = u6 at *
              generalize y.fArgs.length = v6 at *
              go_enter Tryz.func58, Tryz.ntmps58
              go_wp2
              go_ret
              exact ⟨ret_b fin.out.symm, HB.out⟩
          · skip
            have fin := Lib.hid (eqE_no (x := x) (y := y) (fun e => h4 (by rw [e])))
            rw [h0, h1, h2, h3] at HB ⊢
            clear HS HS2 IH HZ HZ2 h0 h1 h2 h3
            generalize y.fKind = p0 at *
            generalize y.fN = p1 at *
            generalize y.fPos = p2 at *
            generalize y.fType = p3 at *
            have e4 : (x.fSymbol.toList == y.fSymbol.toList) = false := ne_str h4
            clear h4
            generalize eqE x y = res at *
            generalize x.fSymbol = u4 at *
            generalize y.fSymbol = v4 at *
            generalize x.fName = u5 at *
            generalize y.fName = v5 at *
            generalize x.fArgs.length = u6 at *
            generalize y.fArgs.length = v6 at *
            go_enter Tryz.func58, Tryz.ntmps58
            go_wp2
            go_ret
            exact ⟨ret_b fin.out.symm, HB.out⟩
        · skip
          have fin := Lib.hid (eqE_no (x := x) (y := y) (fun e => h3 (by rw [e])))
          rw [h0, h1, h2] at HB ⊢
          clear HS HS2 IH HZ HZ2 h0 h1 h2
          generalize y.fKind = p0 at *
          generalize y.fN = p1 at *
          generalize y.fPos = p2 at *
          have e3 : (x.fType == y.fType) = false := beq_eq_false_iff_ne.2 h3
          have g3 : (x.fType != y.fType) = true := by simpa using h3
          clear h3
          generalize eqE x y = res at *
          generalize x.fType = u3 at *
          generalize y.fType = v3 at *
          generalize x.fSymbol = u4 at *
          generalize y.fSymbol = v4 at *
          generalize x.fName = u5 at *
          generalize y.fName = v5 at *
          generalize x.fArgs.length = u6 at *
          generalize y.fArgs.length = v6 at *
          go_enter Tryz.func58, Tryz.ntmps58
          go_wp2
          go_ret
          exact ⟨ret_b fin.out.symm, HB.out⟩
      · skip
        have fin := Lib.hid (eqE_no (x := x) (y := y) (fun e => h2 (by rw [e])))
        rw [h0, h1] at HB ⊢
        clear HS HS2 IH HZ HZ2 h0 h1
        generalize y.fKind = p0 at *
        generalize y.fN = p1 at *
        have e2 : (x.fPos == y.fPos) = false := beq_eq_false_iff_ne.2 h2
        have g2 : (x.fPos != y.fPos) = true := by simpa using h2
        clear h2
        generalize eqE x y = res at *
        generalize x.fPos = u2 at *
        generalize y.fPos = v2 at *
        generalize x.fType = u3 at *
        generalize y.fType = v3 at *
        generalize x.fSymbol = u4 at *
        generalize y.fSymbol = v4 at *
        generalize x.fName = u5 at *
        generalize y.fName = v5 at *
        generalize x.fArgs.length = u6 at *
        generalize y.fArgs.length = v6 at *
        go_enter Tryz.func58, Tryz.ntmps58
        go_wp2
        go_ret
        exact ⟨ret_b fin.out.symm, HB.out⟩
    · skip
      have fin := Lib.hid (eqE_no (x := x) (y := y) (fun e => h1 (by rw [e])))
      rw [h0] at HB ⊢
      clear HS HS2 IH HZ HZ2 h0
      generalize y.fKind = p0 at *
      have e1 : (x.fN == y.fN) = false := beq_eq_false_iff_ne.2 h1
      have g1 : (x.fN != y.fN) = true := by simpa using h1
      clear h1
      generalize eqE x y = res at *
      generalize x.fN = u1 at *
      generalize y.fN = v1 at *
      generalize x.fPos = u2 at *
      generalize y.fPos = v2 at *
      generalize x.fType = u3 at *
      generalize y.fType = v3 at *
      generalize x.fSymbol = u4 at *
      generalize y.fSymbol = v4 at *
      generalize x.fName = u5 at *
      generalize y.fName = v5 at *
      generalize x.fArgs.length = u6 at *
      generalize y.fArgs.length = v6 at *
      go_enter Tryz.func58, Tryz.ntmps58
      go_wp2
      go_ret
      exact ⟨ret_b fin.out.symm, HB.out⟩
  · skip
    have fin := Lib.hid (eqE_no (x := x) (y := y) (fun e => h0 (by rw [e])))
    clear HS HS2 IH HZ HZ2
    have e0 : (x.fKind == y.fKind) = false := beq_eq_false_iff_ne.2 h0
    have g0 : (x.fKind != y.fKind) = true := by simpa using h0
    clear h0
    generalize eqE x y = res at *
    generalize x.fKind = u0 at *
    generalize y.fKind = v0 at *
    generalize x.fN = u1 at *
    generalize y.fN = v1 at *
    generalize x.fPos = u2 at *
    generalize y.fPos = v2 at *
    generalize x.fType = u3 at *
    generalize y.fType = v3 at *
    generalize x.fSymbol = u4 at *
    generalize y.fSymbol = v4 at *
    generalize x.fName = u5 at *
    generalize y.fName = v5 at *
    generalize x.fArgs.length = u6 at *
    generalize y.fArgs.length = v6 at *
    go_enter Tryz.func58, Tryz.ntmps58
    go_wp2
    go_ret
    exact ⟨ret_b fin.out.symm, HB.out⟩

theorem spec_EqualExpr {lo hi c0_0 c1_0 : Nat} {a6 b6 : Option Addr} (x : DExpr) (_ : x.ok) (hsz : x.sz ≤ 1048576) (y : DExpr) (_ : y.ok) (hsz2 : y.sz ≤ 1048576) (w : World) (hhi : hi ≤ w.heap.size) (hs6 : Sl lo hi w 7 x.fArgs.length (ctE x.fArgs) a6) (ht6 : Sl lo hi w 7 y.fArgs.length (ctE y.fArgs) b6) :
    Calls Tryz.prog 58 #[.agg #[.int .i64 x.fKind, .int .i64 x.fN, .int .i64 x.fPos, .int .i64 x.fType, .string x.fSymbol, .string x.fName, .slice a6 x.fArgs.length c0_0], .agg #[.int .i64 y.fKind, .int .i64 y.fN, .int .i64 y.fPos, .int .i64 y.fType, .string y.fSymbol, .string y.fName, .slice b6 y.fArgs.length c1_0]] w fun e w' => e = .returned (.bool (eqE x y)) ∧ Below w.heap.size w w' :=
  DExpr.ind (P := SpecEq) specEq_step x y hsz hsz2 w hhi hhi hs6 ht6
end Go.Proofs.YtjhgifpnpkcaoaaGreat
