/-
  EqualRule: its parts.
-/
import Derived.Test.YtjhgifpnpkcaoaaGreatTRule
import Derived.Test.YtjhgifpnpkcaoaaGreatEEqual2
import Derived.Test.YtjhgifpnpkcaoaaGreatTStr
import Derived.Lib.Strings
namespace Go.Proofs.YtjhgifpnpkcaoaaGreat
open Go.ChangeShapes Go.WideShapes Go.ChangeAt Go.RowKit Go.Deep

theorem strs_ext {l m : List ByteArray} (hl : l.length = m.length) (h : ∀ k, k < l.length → l.getD k default = m.getD k default) : l = m := by
  refine List.ext_getElem hl fun k hk hk' => ?_
  have := h k hk
  rw [List.getD_eq_getElem?_getD, List.getElem?_eq_getElem hk, List.getD_eq_getElem?_getD, List.getElem?_eq_getElem hk'] at this
  exact this

set_option maxHeartbeats 3200000 in
set_option maxRecDepth 100000 in
theorem spec_l3Texts {lo hi lo2 hi2 cap cap2 : Nat} {a a2 : Option Addr} (l m : List ByteArray) (hn : l.length ≤ 1048576) (_ : m.length ≤ 1048576) (r : Bool) (hr : r = true ↔ l = m) (w : World) (hs : Sl lo hi w 1 l.length (fun k => ictS (l.getD k default)) a) (hs2 : Sl lo2 hi2 w 1 m.length (fun k => ictS (m.getD k default)) a2) :
    Calls Tryz.prog 57 #[.slice a l.length cap, .slice a2 m.length cap2] w fun e w' => e = .returned (.bool r) ∧ ∃ q, w' = w.drewN q := by
  have HNO := Lib.hid (show l ≠ m → r = false from fun h => by cases r <;> simp_all)
  have HYES := Lib.hid (show l = m → r = true from hr.2)
  clear hr
  by_cases hl : l.length = m.length
  · have HS := Lib.hid hs
    have HS2 := Lib.hid hs2
    have HL := Lib.hid hl
    have e0 : ((l.length : Int) == (m.length : Int)) = true := by rw [hl]; exact beq_self_eq_true _
    have e00 : ((l.length : Int) != (m.length : Int)) = false := by rw [bne, e0]; rfl
    clear hs hs2 hl
    go_enter Tryz.func57, Tryz.ntmps57
    go_wp2
    go_loopw [5] (fun i wr => ∃ k : Nat, k ≤ l.length ∧ i = .int .i64 (k : Int) ∧ (∀ jj, jj < k → l.getD jj default = m.getD jj default) ∧ ∃ q, wr = w.drewN q) (fun i _ => l.length - (intOf i).toNat)
    case atStart => exact ⟨0, Nat.zero_le _, rfl, fun _ h => absurd h (Nat.not_lt_zero _), 0, rfl⟩
    case round =>
      obtain ⟨k, hk, rfl, heq, q, rfl⟩ := hrel
      have HE := Lib.hid heq
      clear heq
      by_cases hlt : k < l.length
      · obtain ⟨b, off, rfl, _, _, hc⟩ := HS.out.at k hlt
        have hltm : k < m.length := by rw [← HL.out]; exact hlt
        obtain ⟨b2, off2, rfl, _, _, hcq⟩ := HS2.out.at k hltm
        rw [Nat.mul_one] at hc hcq; have d0 := open_String hc
        have f0 := open_String hcq
        clear hc hcq
        have HEX := Lib.hid (show l.getD k default = m.getD k default → ∀ jj, jj < k + 1 → l.getD jj default = m.getD jj default from fun h jj hj => by
          by_cases hjk : jj = k
          · subst hjk; exact h
          · exact HE.out jj (by omega))
        have HNE := Lib.hid (show l.getD k default ≠ m.getD k default → r = false from fun h => HNO.out fun e => h (by rw [e]))
        generalize l.getD k default = x at *
        generalize m.getD k default = y at *
        by_cases g0 : x = y
        · skip
          have HPS := Lib.hid (HEX.out (g0))
          rw [g0] at d0
          clear g0
          go_wp2
          go_quiet (fail)
          go_wp2
          go_roundw
          case rel => exact ⟨k + 1, by omega, by go_num, HPS.out, _, rfl⟩
          case measure => simp [intOf]; omega
        · have FIN := Lib.hid (HNE.out (fun e => g0 (by rw [e])))
          have e1 : (x.toList == y.toList) = false := ne_str g0
          clear g0
          generalize x = u0 at *
          generalize y = v0 at *
          go_wp2
          go_quiet (fail)
          go_wp2
          go_ret
          exact ⟨ret_b FIN.out.symm, _, World.drewN_drewN _ _ _⟩
      · obtain rfl : k = l.length := by omega
        have FIN := Lib.hid (HYES.out (strs_ext HL.out HE.out))
        go_wp2
        go_ret
        exact ⟨ret_b FIN.out.symm, _, rfl⟩
  · have FIN := Lib.hid (HNO.out fun e => hl (by rw [e]))
    have e0 : ((l.length : Int) == (m.length : Int)) = false := beq_eq_false_iff_ne.2 (by omega)
    have e00 : ((l.length : Int) != (m.length : Int)) = true := by rw [bne, e0]; rfl
    clear hs hs2 hl
    go_enter Tryz.func57, Tryz.ntmps57
    go_wp2
    go_ret
    exact ⟨ret_b FIN.out.symm, 0, rfl⟩

set_option maxHeartbeats 3200000 in
set_option maxRecDepth 100000 in
theorem Equal_strings {lo hi lo2 hi2 cap cap2 : Nat} {a a2 : Option Addr} (l m : List ByteArray) (hn : l.length ≤ 1048576) (_ : m.length ≤ 1048576) (r : Bool) (hr : r = true ↔ l = m) (w : World) (hs : Sl lo hi w 1 l.length (fun k => ictS (l.getD k default)) a) (hs2 : Sl lo2 hi2 w 1 m.length (fun k => ictS (m.getD k default)) a2) :
    Calls Tryz.prog 69 #[.slice a l.length cap, .slice a2 m.length cap2] w fun e w' => e = .returned (.bool r) ∧ ∃ q, w' = w.drewN q := by
  have HNO := Lib.hid (show l ≠ m → r = false from fun h => by cases r <;> simp_all)
  have HYES := Lib.hid (show l = m → r = true from hr.2)
  clear hr
  by_cases hl : l.length = m.length
  · have HS := Lib.hid hs
    have HS2 := Lib.hid hs2
    have HL := Lib.hid hl
    have e0 : ((l.length : Int) == (m.length : Int)) = true := by rw [hl]; exact beq_self_eq_true _
    have e00 : ((l.length : Int) != (m.length : Int)) = false := by rw [bne, e0]; rfl
    clear hs hs2 hl
    go_enter Tryz.func69, Tryz.ntmps69
    go_wp2
    go_loopw [13] (fun i wr => ∃ k : Nat, k ≤ l.length ∧ i = .int .i64 (k : Int) ∧ (∀ jj, jj < k → l.getD jj default = m.getD jj default) ∧ ∃ q, wr = w.drewN q) (fun i _ => l.length - (intOf i).toNat)
    case atStart => exact ⟨0, Nat.zero_le _, rfl, fun _ h => absurd h (Nat.not_lt_zero _), 0, rfl⟩
    case round =>
      obtain ⟨k, hk, rfl, heq, q, rfl⟩ := hrel
      have HE := Lib.hid heq
      clear heq
      by_cases hlt : k < l.length
      · obtain ⟨b, off, rfl, _, _, hc⟩ := HS.out.at k hlt
        have hltm : k < m.length := by rw [← HL.out]; exact hlt
        obtain ⟨b2, off2, rfl, _, _, hcq⟩ := HS2.out.at k hltm
        rw [Nat.mul_one] at hc hcq; have d0 := open_String hc
        have f0 := open_String hcq
        clear hc hcq
        have HEX := Lib.hid (show l.getD k default = m.getD k default → ∀ jj, jj < k + 1 → l.getD jj default = m.getD jj default from fun h jj hj => by
          by_cases hjk : jj = k
          · subst hjk; exact h
          · exact HE.out jj (by omega))
        have HNE := Lib.hid (show l.getD k default ≠ m.getD k default → r = false from fun h => HNO.out fun e => h (by rw [e]))
        generalize l.getD k default = x at *
        generalize m.getD k default = y at *
        by_cases g0 : x = y
        · skip
          have HPS := Lib.hid (HEX.out (g0))
          rw [g0] at d0
          clear g0
          go_wp2
          go_quiet (fail)
          go_wp2
          go_roundw
          case rel => exact ⟨k + 1, by omega, by go_num, HPS.out, _, rfl⟩
          case measure => simp [intOf]; omega
        · have FIN := Lib.hid (HNE.out (fun e => g0 (by rw [e])))
          have e1 : (x.toList == y.toList) = false := ne_str g0
          clear g0
          generalize x = u0 at *
          generalize y = v0 at *
          go_wp2
          go_quiet (fail)
          go_wp2
          go_ret
          exact ⟨ret_b FIN.out.symm, _, World.drewN_drewN _ _ _⟩
      · obtain rfl : k = l.length := by omega
        have FIN := Lib.hid (HYES.out (strs_ext HL.out HE.out))
        go_wp2
        go_ret
        exact ⟨ret_b FIN.out.symm, _, rfl⟩
  · have FIN := Lib.hid (HNO.out fun e => hl (by rw [e]))
    have e0 : ((l.length : Int) == (m.length : Int)) = false := beq_eq_false_iff_ne.2 (by omega)
    have e00 : ((l.length : Int) != (m.length : Int)) = true := by rw [bne, e0]; rfl
    clear hs hs2 hl
    go_enter Tryz.func69, Tryz.ntmps69
    go_wp2
    go_ret
    exact ⟨ret_b FIN.out.symm, 0, rfl⟩

theorem DEquation.openS {lo hi b o : Nat} {w : World} {x : DEquation} (h : ∀ j, j < 9 → ∃ u, w.cell? ⟨b, o + j, none⟩ = some u ∧ Soft lo hi w (x.ct j) u) :
    ∃ a8 c8, w.cell? ⟨b, o, none⟩ = some (.int .i64 x.fAt.fPos) ∧ w.cell? ⟨b, o + 1, none⟩ = some (.string x.fAt.fName) ∧ w.cell? ⟨b, o + 2, none⟩ = some (.int .i64 x.fExpr.fKind) ∧ w.cell? ⟨b, o + 3, none⟩ = some (.int .i64 x.fExpr.fN) ∧ w.cell? ⟨b, o + 4, none⟩ = some (.int .i64 x.fExpr.fPos) ∧ w.cell? ⟨b, o + 5, none⟩ = some (.int .i64 x.fExpr.fType) ∧ w.cell? ⟨b, o + 6, none⟩ = some (.string x.fExpr.fSymbol) ∧ w.cell? ⟨b, o + 7, none⟩ = some (.string x.fExpr.fName) ∧ w.cell? ⟨b, o + 8, none⟩ = some (.slice a8 x.fExpr.fArgs.length c8) ∧ Sf lo hi w 7 x.fExpr.fArgs.length (ctE x.fExpr.fArgs) a8 := by
  obtain ⟨u0, hc0, hl0⟩ := h 0 (by decide)
  obtain rfl := soft_lit hl0
  obtain ⟨u1, hc1, hl1⟩ := h 1 (by decide)
  obtain rfl := soft_lit hl1
  obtain ⟨u2, hc2, hl2⟩ := h 2 (by decide)
  obtain rfl := soft_lit hl2
  obtain ⟨u3, hc3, hl3⟩ := h 3 (by decide)
  obtain rfl := soft_lit hl3
  obtain ⟨u4, hc4, hl4⟩ := h 4 (by decide)
  obtain rfl := soft_lit hl4
  obtain ⟨u5, hc5, hl5⟩ := h 5 (by decide)
  obtain rfl := soft_lit hl5
  obtain ⟨u6, hc6, hl6⟩ := h 6 (by decide)
  obtain rfl := soft_lit hl6
  obtain ⟨u7, hc7, hl7⟩ := h 7 (by decide)
  obtain rfl := soft_lit hl7
  obtain ⟨u8, hc8, hl8⟩ := h 8 (by decide)
  obtain ⟨a8, c8, rfl, hs8⟩ := soft_sl hl8
  exact ⟨a8, c8, hc0, hc1, hc2, hc3, hc4, hc5, hc6, hc7, hc8, hs8⟩

theorem DContribution.openS {lo hi b o : Nat} {w : World} {x : DContribution} (h : ∀ j, j < 16 → ∃ u, w.cell? ⟨b, o + j, none⟩ = some u ∧ Soft lo hi w (x.ct j) u) :
    ∃ a8 c8, ∃ a15 c15, w.cell? ⟨b, o, none⟩ = some (.string x.fSymbol) ∧ w.cell? ⟨b, o + 1, none⟩ = some (.string x.fName) ∧ w.cell? ⟨b, o + 2, none⟩ = some (.int .i64 x.fTarget.fKind) ∧ w.cell? ⟨b, o + 3, none⟩ = some (.int .i64 x.fTarget.fN) ∧ w.cell? ⟨b, o + 4, none⟩ = some (.int .i64 x.fTarget.fPos) ∧ w.cell? ⟨b, o + 5, none⟩ = some (.int .i64 x.fTarget.fType) ∧ w.cell? ⟨b, o + 6, none⟩ = some (.string x.fTarget.fSymbol) ∧ w.cell? ⟨b, o + 7, none⟩ = some (.string x.fTarget.fName) ∧ w.cell? ⟨b, o + 8, none⟩ = some (.slice a8 x.fTarget.fArgs.length c8) ∧ w.cell? ⟨b, o + 9, none⟩ = some (.int .i64 x.fValue.fKind) ∧ w.cell? ⟨b, o + 10, none⟩ = some (.int .i64 x.fValue.fN) ∧ w.cell? ⟨b, o + 11, none⟩ = some (.int .i64 x.fValue.fPos) ∧ w.cell? ⟨b, o + 12, none⟩ = some (.int .i64 x.fValue.fType) ∧ w.cell? ⟨b, o + 13, none⟩ = some (.string x.fValue.fSymbol) ∧ w.cell? ⟨b, o + 14, none⟩ = some (.string x.fValue.fName) ∧ w.cell? ⟨b, o + 15, none⟩ = some (.slice a15 x.fValue.fArgs.length c15) ∧ Sf lo hi w 7 x.fTarget.fArgs.length (ctE x.fTarget.fArgs) a8 ∧ Sf lo hi w 7 x.fValue.fArgs.length (ctE x.fValue.fArgs) a15 := by
  obtain ⟨u0, hc0, hl0⟩ := h 0 (by decide)
  obtain rfl := soft_lit hl0
  obtain ⟨u1, hc1, hl1⟩ := h 1 (by decide)
  obtain rfl := soft_lit hl1
  obtain ⟨u2, hc2, hl2⟩ := h 2 (by decide)
  obtain rfl := soft_lit hl2
  obtain ⟨u3, hc3, hl3⟩ := h 3 (by decide)
  obtain rfl := soft_lit hl3
  obtain ⟨u4, hc4, hl4⟩ := h 4 (by decide)
  obtain rfl := soft_lit hl4
  obtain ⟨u5, hc5, hl5⟩ := h 5 (by decide)
  obtain rfl := soft_lit hl5
  obtain ⟨u6, hc6, hl6⟩ := h 6 (by decide)
  obtain rfl := soft_lit hl6
  obtain ⟨u7, hc7, hl7⟩ := h 7 (by decide)
  obtain rfl := soft_lit hl7
  obtain ⟨u8, hc8, hl8⟩ := h 8 (by decide)
  obtain ⟨a8, c8, rfl, hs8⟩ := soft_sl hl8
  obtain ⟨u9, hc9, hl9⟩ := h 9 (by decide)
  obtain rfl := soft_lit hl9
  obtain ⟨u10, hc10, hl10⟩ := h 10 (by decide)
  obtain rfl := soft_lit hl10
  obtain ⟨u11, hc11, hl11⟩ := h 11 (by decide)
  obtain rfl := soft_lit hl11
  obtain ⟨u12, hc12, hl12⟩ := h 12 (by decide)
  obtain rfl := soft_lit hl12
  obtain ⟨u13, hc13, hl13⟩ := h 13 (by decide)
  obtain rfl := soft_lit hl13
  obtain ⟨u14, hc14, hl14⟩ := h 14 (by decide)
  obtain rfl := soft_lit hl14
  obtain ⟨u15, hc15, hl15⟩ := h 15 (by decide)
  obtain ⟨a15, c15, rfl, hs15⟩ := soft_sl hl15
  exact ⟨a8, c8, a15, c15, hc0, hc1, hc2, hc3, hc4, hc5, hc6, hc7, hc8, hc9, hc10, hc11, hc12, hc13, hc14, hc15, hs8, hs15⟩

def CondQ (x y : DEquation) : Prop := x.fAt.fPos = y.fAt.fPos ∧ x.fAt.fName = y.fAt.fName ∧ eqE x.fExpr y.fExpr = true
noncomputable def eqQ (x y : DEquation) : Bool := by classical exact decide (CondQ x y)
theorem eqQ_no {x y : DEquation} (h : ¬ CondQ x y) : eqQ x y = false := by classical unfold eqQ; exact decide_eq_false h
theorem eqQ_last {x y : DEquation} (h0 : x.fAt.fPos = y.fAt.fPos) (h1 : x.fAt.fName = y.fAt.fName) : eqQ x y = eqE x.fExpr y.fExpr := by
  classical
  cases h : eqE x.fExpr y.fExpr
  · exact eqQ_no fun e => by have e9 := e.2.2; rw [h] at e9; cases e9
  · unfold eqQ; exact decide_eq_true ⟨h0, h1, h⟩
def CondC (x y : DContribution) : Prop := x.fSymbol = y.fSymbol ∧ x.fName = y.fName ∧ eqE x.fTarget y.fTarget = true ∧ eqE x.fValue y.fValue = true
noncomputable def eqC (x y : DContribution) : Bool := by classical exact decide (CondC x y)
theorem eqC_no {x y : DContribution} (h : ¬ CondC x y) : eqC x y = false := by classical unfold eqC; exact decide_eq_false h
theorem eqC_last {x y : DContribution} (h0 : x.fSymbol = y.fSymbol) (h1 : x.fName = y.fName) (h2 : eqE x.fTarget y.fTarget = true) : eqC x y = eqE x.fValue y.fValue := by
  classical
  cases h : eqE x.fValue y.fValue
  · exact eqC_no fun e => by have e9 := e.2.2.2; rw [h] at e9; cases e9
  · unfold eqC; exact decide_eq_true ⟨h0, h1, h2, h⟩

set_option maxHeartbeats 3200000 in
set_option maxRecDepth 100000 in
theorem impl_equalEquation {lo hi : Nat} {a6 b6 : Option Addr} {c6 d6 : Nat} (x y : DEquation) (hox : x.ok) (hoy : y.ok) (hx : x.sz ≤ 1048576) (hy : y.sz ≤ 1048576) (w : World) (hhi : hi ≤ w.heap.size) (hs : Sf lo hi w 7 x.fExpr.fArgs.length (ctE x.fExpr.fArgs) a6) (ht : Sf lo hi w 7 y.fExpr.fArgs.length (ctE y.fExpr.fArgs) b6) :
    Calls Tryz.prog 71 #[.agg #[.int .i64 x.fAt.fPos, .string x.fAt.fName, .int .i64 x.fExpr.fKind, .int .i64 x.fExpr.fN, .int .i64 x.fExpr.fPos, .int .i64 x.fExpr.fType, .string x.fExpr.fSymbol, .string x.fExpr.fName, .slice a6 x.fExpr.fArgs.length c6], .agg #[.int .i64 y.fAt.fPos, .string y.fAt.fName, .int .i64 y.fExpr.fKind, .int .i64 y.fExpr.fN, .int .i64 y.fExpr.fPos, .int .i64 y.fExpr.fType, .string y.fExpr.fSymbol, .string y.fExpr.fName, .slice b6 y.fExpr.fArgs.length d6]] w fun e w' => e = .returned (.bool (eqQ x y)) ∧ Below w.heap.size w w' := by
  have HB := Lib.hid (((Below.refl w.heap.size w).alloc (Nat.le_refl _) (.cells #[.int .i64 x.fAt.fPos, .string x.fAt.fName, .int .i64 x.fExpr.fKind, .int .i64 x.fExpr.fN, .int .i64 x.fExpr.fPos, .int .i64 x.fExpr.fType, .string x.fExpr.fSymbol, .string x.fExpr.fName, .slice a6 x.fExpr.fArgs.length c6] 125)).alloc (by simp) (.cells #[.int .i64 y.fAt.fPos, .string y.fAt.fName, .int .i64 y.fExpr.fKind, .int .i64 y.fExpr.fN, .int .i64 y.fExpr.fPos, .int .i64 y.fExpr.fType, .string y.fExpr.fSymbol, .string y.fExpr.fName, .slice b6 y.fExpr.fArgs.length d6] 125))
  have HC := Lib.hid (fun (W : World) (hW : Below w.heap.size w W) => impl_EqualExpr (c0_0 := c6) (c1_0 := d6) x.fExpr hox.2 (Nat.le_trans (Nat.le_add_left _ _) hx) y.fExpr hoy.2 (Nat.le_trans (Nat.le_add_left _ _) hy) W (Nat.le_trans hhi hW.size) (hs.later hW hhi) (ht.later hW hhi))
  have hno := @eqQ_no x y
  have hlast := @eqQ_last x y
  unfold CondQ at hno
  clear hs ht hx hy hox hoy
  generalize eqQ x y = res at *
  generalize eqE x.fExpr y.fExpr = rr at *
  generalize x.fAt.fPos = p1 at *
  generalize y.fAt.fPos = p2 at *
  generalize x.fAt.fName = s1 at *
  generalize y.fAt.fName = s2 at *
  generalize x.fExpr = xe at *
  generalize y.fExpr = ye at *
  generalize xe.fKind = u0 at *
  generalize xe.fN = u1 at *
  generalize xe.fPos = u2 at *
  generalize xe.fType = u3 at *
  generalize xe.fSymbol = u4 at *
  generalize xe.fName = u5 at *
  generalize xe.fArgs.length = u6 at *
  generalize ye.fKind = v0 at *
  generalize ye.fN = v1 at *
  generalize ye.fPos = v2 at *
  generalize ye.fType = v3 at *
  generalize ye.fSymbol = v4 at *
  generalize ye.fName = v5 at *
  generalize ye.fArgs.length = v6 at *
  by_cases h0 : p1 = p2
  · subst h0
    by_cases h1 : s1 = s2
    · subst h1
      have fin := Lib.hid (hlast rfl rfl)
      clear hno hlast
      go_enter Tryz.func71, Tryz.ntmps71
      go_wp2_with fail
      refine (HC.out _ HB.out).mono ?_
      rintro e w1 ⟨rfl, hb1⟩
      have HB1 := Lib.hid (HB.out.trans (hb1.mono HB.out.size))
      clear hb1
      go_wp2
      go_ret
      exact ⟨ret_b fin.out.symm, HB1.out⟩
    · have fin := Lib.hid (hno (fun e => h1 e.2.1))
      have e1 : (s1.toList == s2.toList) = false := ne_str h1
      clear h1 hno hlast HC
      go_enter Tryz.func71, Tryz.ntmps71
      go_wp2
      go_ret
      exact ⟨ret_b fin.out.symm, HB.out⟩
  · have fin := Lib.hid (hno (fun e => h0 e.1))
    have e1 : (p1 == p2) = false := beq_eq_false_iff_ne.2 h0
    clear h0 hno hlast HC
    go_enter Tryz.func71, Tryz.ntmps71
    go_wp2
    go_ret
    exact ⟨ret_b fin.out.symm, HB.out⟩

set_option maxHeartbeats 3200000 in
set_option maxRecDepth 100000 in
theorem impl_equalContribution {lo hi : Nat} {a6 b6 a7 b7 : Option Addr} {c6 d6 c7 d7 : Nat} (x y : DContribution) (hox : x.ok) (hoy : y.ok) (hx : x.sz ≤ 1048576) (hy : y.sz ≤ 1048576) (w : World) (hhi : hi ≤ w.heap.size) (hs : Sf lo hi w 7 x.fTarget.fArgs.length (ctE x.fTarget.fArgs) a6) (hs2 : Sf lo hi w 7 x.fValue.fArgs.length (ctE x.fValue.fArgs) a7) (ht : Sf lo hi w 7 y.fTarget.fArgs.length (ctE y.fTarget.fArgs) b6) (ht2 : Sf lo hi w 7 y.fValue.fArgs.length (ctE y.fValue.fArgs) b7) :
    Calls Tryz.prog 73 #[.agg #[.string x.fSymbol, .string x.fName, .int .i64 x.fTarget.fKind, .int .i64 x.fTarget.fN, .int .i64 x.fTarget.fPos, .int .i64 x.fTarget.fType, .string x.fTarget.fSymbol, .string x.fTarget.fName, .slice a6 x.fTarget.fArgs.length c6, .int .i64 x.fValue.fKind, .int .i64 x.fValue.fN, .int .i64 x.fValue.fPos, .int .i64 x.fValue.fType, .string x.fValue.fSymbol, .string x.fValue.fName, .slice a7 x.fValue.fArgs.length c7], .agg #[.string y.fSymbol, .string y.fName, .int .i64 y.fTarget.fKind, .int .i64 y.fTarget.fN, .int .i64 y.fTarget.fPos, .int .i64 y.fTarget.fType, .string y.fTarget.fSymbol, .string y.fTarget.fName, .slice b6 y.fTarget.fArgs.length d6, .int .i64 y.fValue.fKind, .int .i64 y.fValue.fN, .int .i64 y.fValue.fPos, .int .i64 y.fValue.fType, .string y.fValue.fSymbol, .string y.fValue.fName, .slice b7 y.fValue.fArgs.length d7]] w fun e w' => e = .returned (.bool (eqC x y)) ∧ Below w.heap.size w w' := by
  have HB := Lib.hid (((Below.refl w.heap.size w).alloc (Nat.le_refl _) (.cells #[.string x.fSymbol, .string x.fName, .int .i64 x.fTarget.fKind, .int .i64 x.fTarget.fN, .int .i64 x.fTarget.fPos, .int .i64 x.fTarget.fType, .string x.fTarget.fSymbol, .string x.fTarget.fName, .slice a6 x.fTarget.fArgs.length c6, .int .i64 x.fValue.fKind, .int .i64 x.fValue.fN, .int .i64 x.fValue.fPos, .int .i64 x.fValue.fType, .string x.fValue.fSymbol, .string x.fValue.fName, .slice a7 x.fValue.fArgs.length c7] 128)).alloc (by simp) (.cells #[.string y.fSymbol, .string y.fName, .int .i64 y.fTarget.fKind, .int .i64 y.fTarget.fN, .int .i64 y.fTarget.fPos, .int .i64 y.fTarget.fType, .string y.fTarget.fSymbol, .string y.fTarget.fName, .slice b6 y.fTarget.fArgs.length d6, .int .i64 y.fValue.fKind, .int .i64 y.fValue.fN, .int .i64 y.fValue.fPos, .int .i64 y.fValue.fType, .string y.fValue.fSymbol, .string y.fValue.fName, .slice b7 y.fValue.fArgs.length d7] 128))
  have hzx : DExpr.sz x.fTarget ≤ 1048576 ∧ DExpr.sz x.fValue ≤ 1048576 := by unfold DContribution.sz at hx; omega
  have hzy : DExpr.sz y.fTarget ≤ 1048576 ∧ DExpr.sz y.fValue ≤ 1048576 := by unfold DContribution.sz at hy; omega
  have HC := Lib.hid (fun (W : World) (hW : Below w.heap.size w W) => impl_EqualExpr (c0_0 := c6) (c1_0 := d6) x.fTarget hox.2.2.1 hzx.1 y.fTarget hoy.2.2.1 hzy.1 W (Nat.le_trans hhi hW.size) (hs.later hW hhi) (ht.later hW hhi))
  have HV := Lib.hid (fun (W : World) (hW : Below w.heap.size w W) => impl_EqualExpr (c0_0 := c7) (c1_0 := d7) x.fValue hox.2.2.2 hzx.2 y.fValue hoy.2.2.2 hzy.2 W (Nat.le_trans hhi hW.size) (hs2.later hW hhi) (ht2.later hW hhi))
  have hno := @eqC_no x y
  have hlast := @eqC_last x y
  unfold CondC at hno
  clear hs ht hs2 ht2 hx hy hox hoy hzx hzy
  generalize eqC x y = res at *
  generalize eqE x.fTarget y.fTarget = r1 at *
  generalize eqE x.fValue y.fValue = r2 at *
  generalize x.fSymbol = p1 at *
  generalize y.fSymbol = p2 at *
  generalize x.fName = s1 at *
  generalize y.fName = s2 at *
  generalize x.fTarget = xe at *
  generalize y.fTarget = ye at *
  generalize x.fValue = xv at *
  generalize y.fValue = yv at *
  generalize xe.fKind = u0 at *
  generalize xe.fN = u1 at *
  generalize xe.fPos = u2 at *
  generalize xe.fType = u3 at *
  generalize xe.fSymbol = u4 at *
  generalize xe.fName = u5 at *
  generalize xe.fArgs.length = u6 at *
  generalize ye.fKind = v0 at *
  generalize ye.fN = v1 at *
  generalize ye.fPos = v2 at *
  generalize ye.fType = v3 at *
  generalize ye.fSymbol = v4 at *
  generalize ye.fName = v5 at *
  generalize ye.fArgs.length = v6 at *
  generalize xv.fKind = s_0 at *
  generalize xv.fN = s_1 at *
  generalize xv.fPos = s_2 at *
  generalize xv.fType = s_3 at *
  generalize xv.fSymbol = s_4 at *
  generalize xv.fName = s_5 at *
  generalize xv.fArgs.length = s_6 at *
  generalize yv.fKind = t_0 at *
  generalize yv.fN = t_1 at *
  generalize yv.fPos = t_2 at *
  generalize yv.fType = t_3 at *
  generalize yv.fSymbol = t_4 at *
  generalize yv.fName = t_5 at *
  generalize yv.fArgs.length = t_6 at *
  by_cases h0 : p1 = p2
  · subst h0
    by_cases h1 : s1 = s2
    · subst h1
      cases r1
      · have fin := Lib.hid (hno (fun e => by cases e.2.2.1))
        clear hno hlast HV
        go_enter Tryz.func73, Tryz.ntmps73
        go_wp2_with fail
        refine (HC.out _ HB.out).mono ?_
        rintro e w1 ⟨rfl, hb1⟩
        have HB1 := Lib.hid (HB.out.trans (hb1.mono HB.out.size))
        clear hb1
        go_wp2
        go_ret
        exact ⟨ret_b fin.out.symm, HB1.out⟩
      · have fin := Lib.hid (hlast rfl rfl rfl)
        clear hno hlast
        go_enter Tryz.func73, Tryz.ntmps73
        go_wp2_with fail
        refine (HC.out _ HB.out).mono ?_
        rintro e w1 ⟨rfl, hb1⟩
        have p9 : w1.cell? ⟨w.heap.size, 9, none⟩ = some (.int .i64 s_0) := (hb1.cell (p := ⟨w.heap.size, 9, none⟩) (by simp <;> omega)).trans (by go_simp)
        have p10 : w1.cell? ⟨w.heap.size, 10, none⟩ = some (.int .i64 s_1) := (hb1.cell (p := ⟨w.heap.size, 10, none⟩) (by simp <;> omega)).trans (by go_simp)
        have p11 : w1.cell? ⟨w.heap.size, 11, none⟩ = some (.int .i64 s_2) := (hb1.cell (p := ⟨w.heap.size, 11, none⟩) (by simp <;> omega)).trans (by go_simp)
        have p12 : w1.cell? ⟨w.heap.size, 12, none⟩ = some (.int .i64 s_3) := (hb1.cell (p := ⟨w.heap.size, 12, none⟩) (by simp <;> omega)).trans (by go_simp)
        have p13 : w1.cell? ⟨w.heap.size, 13, none⟩ = some (.string s_4) := (hb1.cell (p := ⟨w.heap.size, 13, none⟩) (by simp <;> omega)).trans (by go_simp)
        have p14 : w1.cell? ⟨w.heap.size, 14, none⟩ = some (.string s_5) := (hb1.cell (p := ⟨w.heap.size, 14, none⟩) (by simp <;> omega)).trans (by go_simp)
        have p15 : w1.cell? ⟨w.heap.size, 15, none⟩ = some (.slice a7 s_6 c7) := (hb1.cell (p := ⟨w.heap.size, 15, none⟩) (by simp <;> omega)).trans (by go_simp)
        have q9 : w1.cell? ⟨w.heap.size + 1, 9, none⟩ = some (.int .i64 t_0) := (hb1.cell (p := ⟨w.heap.size + 1, 9, none⟩) (by simp <;> omega)).trans (by go_simp)
        have q10 : w1.cell? ⟨w.heap.size + 1, 10, none⟩ = some (.int .i64 t_1) := (hb1.cell (p := ⟨w.heap.size + 1, 10, none⟩) (by simp <;> omega)).trans (by go_simp)
        have q11 : w1.cell? ⟨w.heap.size + 1, 11, none⟩ = some (.int .i64 t_2) := (hb1.cell (p := ⟨w.heap.size + 1, 11, none⟩) (by simp <;> omega)).trans (by go_simp)
        have q12 : w1.cell? ⟨w.heap.size + 1, 12, none⟩ = some (.int .i64 t_3) := (hb1.cell (p := ⟨w.heap.size + 1, 12, none⟩) (by simp <;> omega)).trans (by go_simp)
        have q13 : w1.cell? ⟨w.heap.size + 1, 13, none⟩ = some (.string t_4) := (hb1.cell (p := ⟨w.heap.size + 1, 13, none⟩) (by simp <;> omega)).trans (by go_simp)
        have q14 : w1.cell? ⟨w.heap.size + 1, 14, none⟩ = some (.string t_5) := (hb1.cell (p := ⟨w.heap.size + 1, 14, none⟩) (by simp <;> omega)).trans (by go_simp)
        have q15 : w1.cell? ⟨w.heap.size + 1, 15, none⟩ = some (.slice b7 t_6 d7) := (hb1.cell (p := ⟨w.heap.size + 1, 15, none⟩) (by simp <;> omega)).trans (by go_simp)
        have HB1 := Lib.hid (HB.out.trans (hb1.mono HB.out.size))
        clear hb1
        go_wp2_with fail
        refine (HV.out _ HB1.out).mono ?_
        rintro e w2 ⟨rfl, hb2⟩
        have HB2 := Lib.hid (HB1.out.trans (hb2.mono HB1.out.size))
        clear hb2
        go_wp2
        go_ret
        exact ⟨ret_b fin.out.symm, HB2.out⟩
    · have fin := Lib.hid (hno (fun e => h1 e.2.1))
      have e1 : (s1.toList == s2.toList) = false := ne_str h1
      clear h1 hno hlast HC HV
      go_enter Tryz.func73, Tryz.ntmps73
      go_wp2
      go_ret
      exact ⟨ret_b fin.out.symm, HB.out⟩
  · have fin := Lib.hid (hno (fun e => h0 e.1))
    have e1 : (p1.toList == p2.toList) = false := ne_str h0
    clear h0 hno hlast HC HV
    go_enter Tryz.func73, Tryz.ntmps73
    go_wp2
    go_ret
    exact ⟨ret_b fin.out.symm, HB.out⟩

/-- Whether two lists have the same length and agree item by item. -/
noncomputable def allEq {α : Type} [Inhabited α] (f : α → α → Bool) (l m : List α) : Bool := by classical exact decide (l.length = m.length ∧ ∀ k, k < l.length → f (l.getD k default) (m.getD k default) = true)
theorem allEq_len {α : Type} [Inhabited α] {f : α → α → Bool} {l m : List α} (h : ¬ l.length = m.length) : allEq f l m = false := by classical unfold allEq; exact decide_eq_false fun e => h e.1
theorem allEq_no {α : Type} [Inhabited α] {f : α → α → Bool} {l m : List α} {k : Nat} (hk : k < l.length) (h : f (l.getD k default) (m.getD k default) = false) : allEq f l m = false := by
  classical
  unfold allEq
  exact decide_eq_false fun e => by have e9 := e.2 k hk; rw [h] at e9; cases e9
theorem allEq_yes {α : Type} [Inhabited α] {f : α → α → Bool} {l m : List α} (hl : l.length = m.length) (h : ∀ k, k < l.length → f (l.getD k default) (m.getD k default) = true) : allEq f l m = true := by classical unfold allEq; exact decide_eq_true ⟨hl, h⟩

set_option maxHeartbeats 3200000 in
set_option maxRecDepth 100000 in
theorem EqualFunc_equations {lo hi cap cap2 : Nat} {a a2 : Option Addr} (l m : List DEquation) (hol : okL DEquation.ok l) (hom : okL DEquation.ok m) (hl : lsz DEquation.sz l ≤ 1048576) (hm : lsz DEquation.sz m ≤ 1048576) (w : World) (hhi : hi ≤ w.heap.size) (hs : Sf lo hi w 9 l.length (fun k => DEquation.ct (l.getD k default)) a) (hs2 : Sf lo hi w 9 m.length (fun k => DEquation.ct (m.getD k default)) a2) :
    Calls Tryz.prog 70 #[.slice a l.length cap, .slice a2 m.length cap2, .func (.func 71) #[] #[]] w fun e w' => e = .returned (.bool (allEq eqQ l m)) ∧ Below w.heap.size w w' := by
  have hn : l.length ≤ 1048576 := by unfold lsz at hl; omega
  have hn2 : m.length ≤ 1048576 := by unfold lsz at hm; omega
  have HW0 := Lib.hid (Below.refl w.heap.size w)
  by_cases hlen : l.length = m.length
  · have HS := Lib.hid hs
    have HS2 := Lib.hid hs2
    have HL := Lib.hid hlen
    have HSZ := Lib.hid (fun k (hk : k < l.length) => Nat.le_trans (szle_at (f := DEquation.sz) l k hk) hl)
    have HSZ2 := Lib.hid (fun k (hk : k < m.length) => Nat.le_trans (szle_at (f := DEquation.sz) m k hk) hm)
    have OKX := Lib.hid (fun k (hk : k < l.length) => hol.at hk)
    have OKY := Lib.hid (fun k (hk : k < m.length) => hom.at hk)
    have e0 : ((l.length : Int) == (m.length : Int)) = true := by rw [hlen]; exact beq_self_eq_true _
    have e00 : ((l.length : Int) != (m.length : Int)) = false := by rw [bne, e0]; rfl
    clear hs hs2 hlen hl hm hol hom
    go_enter Tryz.func70, Tryz.ntmps70
    go_wp2
    go_loopw [17] (fun i wr => ∃ k : Nat, k ≤ l.length ∧ i = .int .i64 (k : Int) ∧ (∀ jj, jj < k → eqQ (l.getD jj default) (m.getD jj default) = true) ∧ Below w.heap.size w wr) (fun i _ => l.length - (intOf i).toNat)
    case atStart => exact ⟨0, Nat.zero_le _, rfl, fun _ h => absurd h (Nat.not_lt_zero _), Below.refl _ _⟩
    case round =>
      obtain ⟨k, hk, rfl, heq, hbl⟩ := hrel
      have HE := Lib.hid heq
      have HBW := Lib.hid hbl
      clear heq hbl
      by_cases hlt : k < l.length
      · have hltm : k < m.length := by rw [← HL.out]; exact hlt
        obtain ⟨b, off, rfl, _, hb_, _, hc⟩ := (HS.out.later (HBW.out.mono hhi) (Nat.le_refl _)).at k hlt
        obtain ⟨b2, off2, rfl, _, hb2_, _, hcq⟩ := (HS2.out.later (HBW.out.mono hhi) (Nat.le_refl _)).at k hltm
        obtain ⟨ax, cx, h0, h1, h2, h3, h4, h5, h6, h7, h8, hs8⟩ := DEquation.openS hc
        obtain ⟨ay, cy, g0, g1, g2, g3, g4, g5, g6, g7, g8, ht8⟩ := DEquation.openS hcq
        have bl2 : b2 < wr.heap.size := Nat.lt_of_lt_of_le hb2_ (Nat.le_trans hhi HBW.out.size)
        have bl1 : b < wr.heap.size := Nat.lt_of_lt_of_le hb_ (Nat.le_trans hhi HBW.out.size)
        have f0 : ∀ o, (wr.alloc o).cell? ⟨b2, off2 + k * 9, none⟩ = some (.int .i64 (m.getD k default).fAt.fPos) := fun o => (((Below.refl wr.heap.size wr).alloc (Nat.le_refl _) o).cell (p := ⟨b2, off2 + k * 9, none⟩) bl2).trans g0
        have f1 : ∀ o, (wr.alloc o).cell? ⟨b2, off2 + k * 9 + 1, none⟩ = some (.string (m.getD k default).fAt.fName) := fun o => (((Below.refl wr.heap.size wr).alloc (Nat.le_refl _) o).cell (p := ⟨b2, off2 + k * 9 + 1, none⟩) bl2).trans g1
        have f2 : ∀ o, (wr.alloc o).cell? ⟨b2, off2 + k * 9 + 2, none⟩ = some (.int .i64 (m.getD k default).fExpr.fKind) := fun o => (((Below.refl wr.heap.size wr).alloc (Nat.le_refl _) o).cell (p := ⟨b2, off2 + k * 9 + 2, none⟩) bl2).trans g2
        have f3 : ∀ o, (wr.alloc o).cell? ⟨b2, off2 + k * 9 + 3, none⟩ = some (.int .i64 (m.getD k default).fExpr.fN) := fun o => (((Below.refl wr.heap.size wr).alloc (Nat.le_refl _) o).cell (p := ⟨b2, off2 + k * 9 + 3, none⟩) bl2).trans g3
        have f4 : ∀ o, (wr.alloc o).cell? ⟨b2, off2 + k * 9 + 4, none⟩ = some (.int .i64 (m.getD k default).fExpr.fPos) := fun o => (((Below.refl wr.heap.size wr).alloc (Nat.le_refl _) o).cell (p := ⟨b2, off2 + k * 9 + 4, none⟩) bl2).trans g4
        have f5 : ∀ o, (wr.alloc o).cell? ⟨b2, off2 + k * 9 + 5, none⟩ = some (.int .i64 (m.getD k default).fExpr.fType) := fun o => (((Below.refl wr.heap.size wr).alloc (Nat.le_refl _) o).cell (p := ⟨b2, off2 + k * 9 + 5, none⟩) bl2).trans g5
        have f6 : ∀ o, (wr.alloc o).cell? ⟨b2, off2 + k * 9 + 6, none⟩ = some (.string (m.getD k default).fExpr.fSymbol) := fun o => (((Below.refl wr.heap.size wr).alloc (Nat.le_refl _) o).cell (p := ⟨b2, off2 + k * 9 + 6, none⟩) bl2).trans g6
        have f7 : ∀ o, (wr.alloc o).cell? ⟨b2, off2 + k * 9 + 7, none⟩ = some (.string (m.getD k default).fExpr.fName) := fun o => (((Below.refl wr.heap.size wr).alloc (Nat.le_refl _) o).cell (p := ⟨b2, off2 + k * 9 + 7, none⟩) bl2).trans g7
        have f8 : ∀ o, (wr.alloc o).cell? ⟨b2, off2 + k * 9 + 8, none⟩ = some (.slice ay (m.getD k default).fExpr.fArgs.length cy) := fun o => (((Below.refl wr.heap.size wr).alloc (Nat.le_refl _) o).cell (p := ⟨b2, off2 + k * 9 + 8, none⟩) bl2).trans g8
        have HC := Lib.hid (fun (W : World) (hW : Below wr.heap.size wr W) => impl_equalEquation (c6 := cx) (d6 := cy) (l.getD k default) (m.getD k default) (OKX.out k hlt) (OKY.out k hltm) (HSZ.out k hlt) (HSZ2.out k hltm) W (Nat.le_trans hhi (Nat.le_trans HBW.out.size hW.size)) (hs8.later (hW.mono (Nat.le_trans hhi HBW.out.size)) (Nat.le_refl _)) (ht8.later (hW.mono (Nat.le_trans hhi HBW.out.size)) (Nat.le_refl _)))
        have HPS := Lib.hid (show eqQ (l.getD k default) (m.getD k default) = true → ∀ jj, jj < k + 1 → eqQ (l.getD jj default) (m.getD jj default) = true from fun h1 jj hj => by
          rcases Nat.lt_succ_iff_lt_or_eq.1 hj with h | h
          · exact HE.out jj h
          · rw [h]; exact h1)
        have HNO := Lib.hid (fun h => allEq_no (f := eqQ) (m := m) hlt h)
        clear hc hcq hs8 ht8
        generalize eqQ (l.getD k default) (m.getD k default) = qq at *
        generalize l.getD k default = x at *
        generalize m.getD k default = y at *
        go_wp2_with fail
        refine (HC.out _ (by repeat (first | (with_reducible exact Below.refl _ _) | (with_reducible refine below_drewN ?_ _) | (with_reducible apply Below.drew) | (refine Below.setCell ?_ (by simp <;> omega) _) | (refine Below.alloc ?_ (by simp <;> omega) _)) : Below wr.heap.size wr _)).mono ?_
        rintro e w1 ⟨rfl, hb1⟩
        have HB1 := Lib.hid (((by repeat (first | (with_reducible exact Below.refl _ _) | (with_reducible refine below_drewN ?_ _) | (with_reducible apply Below.drew) | (refine Below.setCell ?_ (by simp <;> omega) _) | (refine Below.alloc ?_ (by simp <;> omega) _)) : Below wr.heap.size wr _)).trans (hb1.mono (by repeat (first | (with_reducible exact Below.refl _ _) | (with_reducible refine below_drewN ?_ _) | (with_reducible apply Below.drew) | (refine Below.setCell ?_ (by simp <;> omega) _) | (refine Below.alloc ?_ (by simp <;> omega) _)) : Below wr.heap.size wr _).size))
        clear hb1 HC
        clear f0 f1 f2 f3 f4 f5 f6 f7 f8
        cases qq
        · have fin := Lib.hid (HNO.out rfl)
          clear HPS HNO
          go_wp2
          go_ret
          exact ⟨ret_b fin.out.symm, HBW.out.trans (HB1.out.mono HBW.out.size)⟩
        · have HP2 := Lib.hid (HPS.out rfl)
          clear HPS HNO
          go_wp2
          go_roundw
          case rel => exact ⟨k + 1, by omega, by go_num, HP2.out, HBW.out.trans (HB1.out.mono HBW.out.size)⟩
          case measure => simp [intOf]; omega
      · obtain rfl : k = l.length := by omega
        have fin := Lib.hid (allEq_yes HL.out HE.out)
        go_wp2
        go_ret
        exact ⟨ret_b fin.out.symm, HBW.out⟩
  · have fin := Lib.hid (allEq_len (f := eqQ) hlen)
    have e0 : ((l.length : Int) == (m.length : Int)) = false := beq_eq_false_iff_ne.2 (by omega)
    have e00 : ((l.length : Int) != (m.length : Int)) = true := by rw [bne, e0]; rfl
    clear hs hs2 hlen
    go_enter Tryz.func70, Tryz.ntmps70
    go_wp2
    go_ret
    exact ⟨ret_b fin.out.symm, HW0.out⟩
end Go.Proofs.YtjhgifpnpkcaoaaGreat
