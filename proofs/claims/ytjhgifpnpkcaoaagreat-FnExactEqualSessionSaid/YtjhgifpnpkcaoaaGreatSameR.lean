/-
  SameResults, in the model and in the program.
-/

import Derived.Test.YtjhgifpnpkcaoaaGreatSameSrc
import Derived.Test.YtjhgifpnpkcaoaaGreatTMemo
import Derived.Deep.QuietTactic
import Derived.BigQuiet
namespace Go.Proofs.YtjhgifpnpkcaoaaGreat
open Go.ChangeShapes Go.WideShapes Go.ChangeAt Go.RowKit Go.Deep

theorem DInstance.ext' {x y : DInstance} (h0 : x.fNode = y.fNode) (h1 : x.fName = y.fName) : x = y := by
  cases x; cases y
  simp only at *
  subst h0 h1
  rfl
theorem DReading.ext' {x y : DReading} (h0 : x.fAt.fNode = y.fAt.fNode) (h1 : x.fAt.fName = y.fAt.fName) (h2 : x.fValue = y.fValue) (h3 : x.fSymbol = y.fSymbol) : x = y := by
  have h : x.fAt = y.fAt := DInstance.ext' h0 h1
  cases x; cases y
  simp only at *
  subst h h2 h3
  rfl
theorem DReading.list_ext {l m : List DReading} (hl : l.length = m.length) (h : ∀ k, k < l.length → l.getD k default = m.getD k default) : l = m := by
  refine List.ext_getElem hl fun k hk hk' => ?_
  have := h k hk
  rw [List.getD_eq_getElem?_getD, List.getElem?_eq_getElem hk, List.getD_eq_getElem?_getD, List.getElem?_eq_getElem hk'] at this
  exact this
theorem DInstance.list_ext {l m : List DInstance} (hl : l.length = m.length) (h : ∀ k, k < l.length → l.getD k default = m.getD k default) : l = m := by
  refine List.ext_getElem hl fun k hk hk' => ?_
  have := h k hk
  rw [List.getD_eq_getElem?_getD, List.getElem?_eq_getElem hk, List.getD_eq_getElem?_getD, List.getElem?_eq_getElem hk'] at this
  exact this
theorem entry_reads {x : DEntry} (h : x.sz ≤ 1048576) : x.fReads.length ≤ 1048576 := by unfold DEntry.sz lsz at h; omega
def CondE (x y : DEntry) : Prop := sameSrc x y = true ∧ x.fValue = y.fValue ∧ x.fReads = y.fReads
/-- Whether two entries agree. -/
noncomputable def eqEnt (x y : DEntry) : Bool := by classical exact decide (CondE x y)
theorem eqEnt_iff {x y : DEntry} : eqEnt x y = true ↔ CondE x y := by classical unfold eqEnt; exact decide_eq_true_iff
theorem eqEnt_no {x y : DEntry} (h : ¬ CondE x y) : eqEnt x y = false := by classical unfold eqEnt; exact decide_eq_false h
noncomputable def sameR (l m : List DEntry) : Bool := by classical exact decide (l.length = m.length ∧ ∀ k, k < l.length → eqEnt (l.getD k default) (m.getD k default) = true)
theorem sameR_len {l m : List DEntry} (h : ¬ l.length = m.length) : sameR l m = false := by classical unfold sameR; exact decide_eq_false fun e => h e.1
theorem sameR_no {l m : List DEntry} {k : Nat} (hk : k < l.length) (h : eqEnt (l.getD k default) (m.getD k default) = false) : sameR l m = false := by
  classical
  unfold sameR
  exact decide_eq_false fun e => by rw [e.2 k hk] at h; cases h
theorem sameR_yes {l m : List DEntry} (hl : l.length = m.length) (h : ∀ k, k < l.length → eqEnt (l.getD k default) (m.getD k default) = true) : sameR l m = true := by classical unfold sameR; exact decide_eq_true ⟨hl, h⟩

set_option maxHeartbeats 3200000 in
set_option maxRecDepth 100000 in
theorem spec_l37Readings {lo hi lo2 hi2 cap cap2 : Nat} {a a2 : Option Addr} (l m : List DReading) (hn : l.length ≤ 1048576) (_ : m.length ≤ 1048576) (r : Bool) (hr : r = true ↔ l = m) (w : World) (hs : Sl lo hi w 4 l.length (fun k => DReading.ct (l.getD k default)) a) (hs2 : Sl lo2 hi2 w 4 m.length (fun k => DReading.ct (m.getD k default)) a2) :
    Calls Tryz.prog 61 #[.slice a l.length cap, .slice a2 m.length cap2] w fun e w' => e = .returned (.bool r) ∧ ∃ q, w' = w.drewN q := by
  have HNO := Lib.hid (show l ≠ m → r = false from fun h => by cases r <;> simp_all)
  have HYES := Lib.hid (show l = m → r = true from hr.2)
  clear hr
  by_cases hl : l.length = m.length
  · have HS := Lib.hid hs
    have HS2 := Lib.hid hs2
    have HL := Lib.hid hl
    have e0 : ((l.length : Int) == (m.length : Int)) = true := by rw [hl]; exact beq_self_eq_true _
    have e00 : ((l.length : Int) != (m.length : Int)) = false := by rw [bne, e0]; rfl
    clear hs hs2 hl
    go_enter Tryz.func61, Tryz.ntmps61
    go_wp2
    go_loopw [5] (fun i wr => ∃ k : Nat, k ≤ l.length ∧ i = .int .i64 (k : Int) ∧ (∀ jj, jj < k → l.getD jj default = m.getD jj default) ∧ ∃ q, wr = w.drewN q) (fun i _ => l.length - (intOf i).toNat)
    case atStart => exact ⟨0, Nat.zero_le _, rfl, fun _ h => absurd h (Nat.not_lt_zero _), 0, rfl⟩
    case round =>
      obtain ⟨k, hk, rfl, heq, q, rfl⟩ := hrel
      have HE := Lib.hid heq
      clear heq
      by_cases hlt : k < l.length
      · obtain ⟨b, off, rfl, _, _, hc⟩ := HS.out.at k hlt
        have hltm : k < m.length := by rw [← HL.out]; exact hlt
        obtain ⟨b2, off2, rfl, _, _, hcq⟩ := HS2.out.at k hltm
        obtain ⟨d0, d1, d2, d3⟩ := DReading.open hc
        obtain ⟨f0, f1, f2, f3⟩ := DReading.open hcq
        clear hc hcq
        have HEX := Lib.hid (show l.getD k default = m.getD k default → ∀ jj, jj < k + 1 → l.getD jj default = m.getD jj default from fun h jj hj => by
          by_cases hjk : jj = k
          · subst hjk; exact h
          · exact HE.out jj (by omega))
        have HNE := Lib.hid (show l.getD k default ≠ m.getD k default → r = false from fun h => HNO.out fun e => h (by rw [e]))
        generalize l.getD k default = x at *
        generalize m.getD k default = y at *
        by_cases g0 : x.fAt.fNode = y.fAt.fNode
        · skip
          by_cases g1 : x.fAt.fName = y.fAt.fName
          · skip
            by_cases g2 : x.fValue = y.fValue
            · skip
              by_cases g3 : x.fSymbol = y.fSymbol
              · skip
                have HPS := Lib.hid (HEX.out (DReading.ext' g0 g1 g2 g3))
                rw [g0] at d0
                rw [g1] at d1
                rw [g2] at d2
                rw [g3] at d3
                clear g0 g1 g2 g3
                go_wp2
                go_quiet (fail)
                go_wp2
                go_roundw
                case rel => exact ⟨k + 1, by omega, by go_num, HPS.out, _, rfl⟩
                case measure => simp [intOf]; omega
              · have FIN := Lib.hid (HNE.out (fun e => g3 (by rw [e])))
                rw [g0] at d0
                rw [g1] at d1
                rw [g2] at d2
                clear g0 g1 g2
                have e1 : (x.fSymbol.toList == y.fSymbol.toList) = false := ne_str g3
                clear g3
                generalize x.fSymbol = u3 at *
                generalize y.fSymbol = v3 at *
                go_wp2
                go_quiet (fail)
                go_wp2
                go_ret
                exact ⟨ret_b FIN.out.symm, _, World.drewN_drewN _ _ _⟩
            · have FIN := Lib.hid (HNE.out (fun e => g2 (by rw [e])))
              rw [g0] at d0
              rw [g1] at d1
              clear g0 g1
              have e1 : (x.fValue == y.fValue) = false := beq_eq_false_iff_ne.2 g2
              clear g2
              generalize x.fValue = u2 at *
              generalize y.fValue = v2 at *
              generalize x.fSymbol = u3 at *
              generalize y.fSymbol = v3 at *
              go_wp2
              go_quiet (fail)
              go_wp2
              go_ret
              exact ⟨ret_b FIN.out.symm, _, World.drewN_drewN _ _ _⟩
          · have FIN := Lib.hid (HNE.out (fun e => g1 (by rw [e])))
            rw [g0] at d0
            clear g0
            have e1 : (x.fAt.fName.toList == y.fAt.fName.toList) = false := ne_str g1
            clear g1
            generalize x.fAt.fName = u1 at *
            generalize y.fAt.fName = v1 at *
            generalize x.fValue = u2 at *
            generalize y.fValue = v2 at *
            generalize x.fSymbol = u3 at *
            generalize y.fSymbol = v3 at *
            go_wp2
            go_quiet (fail)
            go_wp2
            go_ret
            exact ⟨ret_b FIN.out.symm, _, World.drewN_drewN _ _ _⟩
        · have FIN := Lib.hid (HNE.out (fun e => g0 (by rw [e])))
          have e1 : (x.fAt.fNode == y.fAt.fNode) = false := beq_eq_false_iff_ne.2 g0
          clear g0
          generalize x.fAt.fNode = u0 at *
          generalize y.fAt.fNode = v0 at *
          generalize x.fAt.fName = u1 at *
          generalize y.fAt.fName = v1 at *
          generalize x.fValue = u2 at *
          generalize y.fValue = v2 at *
          generalize x.fSymbol = u3 at *
          generalize y.fSymbol = v3 at *
          go_wp2
          go_quiet (fail)
          go_wp2
          go_ret
          exact ⟨ret_b FIN.out.symm, _, World.drewN_drewN _ _ _⟩
      · obtain rfl : k = l.length := by omega
        have FIN := Lib.hid (HYES.out (DReading.list_ext HL.out HE.out))
        go_wp2
        go_ret
        exact ⟨ret_b FIN.out.symm, _, rfl⟩
  · have FIN := Lib.hid (HNO.out fun e => hl (by rw [e]))
    have e0 : ((l.length : Int) == (m.length : Int)) = false := beq_eq_false_iff_ne.2 (by omega)
    have e00 : ((l.length : Int) != (m.length : Int)) = true := by rw [bne, e0]; rfl
    clear hs hs2 hl
    go_enter Tryz.func61, Tryz.ntmps61
    go_wp2
    go_ret
    exact ⟨ret_b FIN.out.symm, 0, rfl⟩

set_option maxHeartbeats 3200000 in
set_option maxRecDepth 100000 in
theorem Equal_readings {lo hi lo2 hi2 cap cap2 : Nat} {a a2 : Option Addr} (l m : List DReading) (hn : l.length ≤ 1048576) (_ : m.length ≤ 1048576) (r : Bool) (hr : r = true ↔ l = m) (w : World) (hs : Sl lo hi w 4 l.length (fun k => DReading.ct (l.getD k default)) a) (hs2 : Sl lo2 hi2 w 4 m.length (fun k => DReading.ct (m.getD k default)) a2) :
    Calls Tryz.prog 97 #[.slice a l.length cap, .slice a2 m.length cap2] w fun e w' => e = .returned (.bool r) ∧ ∃ q, w' = w.drewN q := by
  have HNO := Lib.hid (show l ≠ m → r = false from fun h => by cases r <;> simp_all)
  have HYES := Lib.hid (show l = m → r = true from hr.2)
  clear hr
  by_cases hl : l.length = m.length
  · have HS := Lib.hid hs
    have HS2 := Lib.hid hs2
    have HL := Lib.hid hl
    have e0 : ((l.length : Int) == (m.length : Int)) = true := by rw [hl]; exact beq_self_eq_true _
    have e00 : ((l.length : Int) != (m.length : Int)) = false := by rw [bne, e0]; rfl
    clear hs hs2 hl
    go_enter Tryz.func97, Tryz.ntmps97
    go_wp2
    go_loopw [13] (fun i wr => ∃ k : Nat, k ≤ l.length ∧ i = .int .i64 (k : Int) ∧ (∀ jj, jj < k → l.getD jj default = m.getD jj default) ∧ ∃ q, wr = w.drewN q) (fun i _ => l.length - (intOf i).toNat)
    case atStart => exact ⟨0, Nat.zero_le _, rfl, fun _ h => absurd h (Nat.not_lt_zero _), 0, rfl⟩
    case round =>
      obtain ⟨k, hk, rfl, heq, q, rfl⟩ := hrel
      have HE := Lib.hid heq
      clear heq
      by_cases hlt : k < l.length
      · obtain ⟨b, off, rfl, _, _, hc⟩ := HS.out.at k hlt
        have hltm : k < m.length := by rw [← HL.out]; exact hlt
        obtain ⟨b2, off2, rfl, _, _, hcq⟩ := HS2.out.at k hltm
        obtain ⟨d0, d1, d2, d3⟩ := DReading.open hc
        obtain ⟨f0, f1, f2, f3⟩ := DReading.open hcq
        clear hc hcq
        have HEX := Lib.hid (show l.getD k default = m.getD k default → ∀ jj, jj < k + 1 → l.getD jj default = m.getD jj default from fun h jj hj => by
          by_cases hjk : jj = k
          · subst hjk; exact h
          · exact HE.out jj (by omega))
        have HNE := Lib.hid (show l.getD k default ≠ m.getD k default → r = false from fun h => HNO.out fun e => h (by rw [e]))
        generalize l.getD k default = x at *
        generalize m.getD k default = y at *
        by_cases g0 : x.fAt.fNode = y.fAt.fNode
        · skip
          by_cases g1 : x.fAt.fName = y.fAt.fName
          · skip
            by_cases g2 : x.fValue = y.fValue
            · skip
              by_cases g3 : x.fSymbol = y.fSymbol
              · skip
                have HPS := Lib.hid (HEX.out (DReading.ext' g0 g1 g2 g3))
                rw [g0] at d0
                rw [g1] at d1
                rw [g2] at d2
                rw [g3] at d3
                clear g0 g1 g2 g3
                go_wp2
                go_quiet (fail)
                go_wp2
                go_roundw
                case rel => exact ⟨k + 1, by omega, by go_num, HPS.out, _, rfl⟩
                case measure => simp [intOf]; omega
              · have FIN := Lib.hid (HNE.out (fun e => g3 (by rw [e])))
                rw [g0] at d0
                rw [g1] at d1
                rw [g2] at d2
                clear g0 g1 g2
                have e1 : (x.fSymbol.toList == y.fSymbol.toList) = false := ne_str g3
                clear g3
                generalize x.fSymbol = u3 at *
                generalize y.fSymbol = v3 at *
                go_wp2
                go_quiet (fail)
                go_wp2
                go_ret
                exact ⟨ret_b FIN.out.symm, _, World.drewN_drewN _ _ _⟩
            · have FIN := Lib.hid (HNE.out (fun e => g2 (by rw [e])))
              rw [g0] at d0
              rw [g1] at d1
              clear g0 g1
              have e1 : (x.fValue == y.fValue) = false := beq_eq_false_iff_ne.2 g2
              clear g2
              generalize x.fValue = u2 at *
              generalize y.fValue = v2 at *
              generalize x.fSymbol = u3 at *
              generalize y.fSymbol = v3 at *
              go_wp2
              go_quiet (fail)
              go_wp2
              go_ret
              exact ⟨ret_b FIN.out.symm, _, World.drewN_drewN _ _ _⟩
          · have FIN := Lib.hid (HNE.out (fun e => g1 (by rw [e])))
            rw [g0] at d0
            clear g0
            have e1 : (x.fAt.fName.toList == y.fAt.fName.toList) = false := ne_str g1
            clear g1
            generalize x.fAt.fName = u1 at *
            generalize y.fAt.fName = v1 at *
            generalize x.fValue = u2 at *
            generalize y.fValue = v2 at *
            generalize x.fSymbol = u3 at *
            generalize y.fSymbol = v3 at *
            go_wp2
            go_quiet (fail)
            go_wp2
            go_ret
            exact ⟨ret_b FIN.out.symm, _, World.drewN_drewN _ _ _⟩
        · have FIN := Lib.hid (HNE.out (fun e => g0 (by rw [e])))
          have e1 : (x.fAt.fNode == y.fAt.fNode) = false := beq_eq_false_iff_ne.2 g0
          clear g0
          generalize x.fAt.fNode = u0 at *
          generalize y.fAt.fNode = v0 at *
          generalize x.fAt.fName = u1 at *
          generalize y.fAt.fName = v1 at *
          generalize x.fValue = u2 at *
          generalize y.fValue = v2 at *
          generalize x.fSymbol = u3 at *
          generalize y.fSymbol = v3 at *
          go_wp2
          go_quiet (fail)
          go_wp2
          go_ret
          exact ⟨ret_b FIN.out.symm, _, World.drewN_drewN _ _ _⟩
      · obtain rfl : k = l.length := by omega
        have FIN := Lib.hid (HYES.out (DReading.list_ext HL.out HE.out))
        go_wp2
        go_ret
        exact ⟨ret_b FIN.out.symm, _, rfl⟩
  · have FIN := Lib.hid (HNO.out fun e => hl (by rw [e]))
    have e0 : ((l.length : Int) == (m.length : Int)) = false := beq_eq_false_iff_ne.2 (by omega)
    have e00 : ((l.length : Int) != (m.length : Int)) = true := by rw [bne, e0]; rfl
    clear hs hs2 hl
    go_enter Tryz.func97, Tryz.ntmps97
    go_wp2
    go_ret
    exact ⟨ret_b FIN.out.symm, 0, rfl⟩

set_option maxHeartbeats 3200000 in
set_option maxRecDepth 100000 in
theorem impl_equalEntry {lo hi : Nat} {a6 a7 a8 b6 b7 b8 : Option Addr} {c6 c7 c8 d6 d7 d8 : Nat} (x y : DEntry) (hox : x.ok) (hoy : y.ok) (hx : x.sz ≤ 1048576) (hy : y.sz ≤ 1048576) (w : World) (hhi : hi ≤ w.heap.size) (hs6 : Sl lo hi w 1 x.fIds.length (fun k => ictI (x.fIds.getD k default)) a6) (hs7 : Sl lo hi w 1 x.fShape.length (fun k => ictI (x.fShape.getD k default)) a7) (hs8 : Sl lo hi w 4 x.fReads.length (fun k => DReading.ct (x.fReads.getD k default)) a8) (ht6 : Sl lo hi w 1 y.fIds.length (fun k => ictI (y.fIds.getD k default)) b6) (ht7 : Sl lo hi w 1 y.fShape.length (fun k => ictI (y.fShape.getD k default)) b7) (ht8 : Sl lo hi w 4 y.fReads.length (fun k => DReading.ct (y.fReads.getD k default)) b8) :
    Calls Tryz.prog 76 #[.agg #[.int .i64 x.fAt.fNode, .string x.fAt.fName, .int .i64 x.fValue, .int .i64 x.fOwner, .int .i64 x.fLiteral, .string x.fRule, .slice a6 x.fIds.length c6, .slice a7 x.fShape.length c7, .slice a8 x.fReads.length c8], .agg #[.int .i64 y.fAt.fNode, .string y.fAt.fName, .int .i64 y.fValue, .int .i64 y.fOwner, .int .i64 y.fLiteral, .string y.fRule, .slice b6 y.fIds.length d6, .slice b7 y.fShape.length d7, .slice b8 y.fReads.length d8]] w fun e w' => e = .returned (.bool (eqEnt x y)) ∧ Below w.heap.size w w' := by
  have HB := Lib.hid (((Below.refl w.heap.size w).alloc (Nat.le_refl _) (.cells #[.int .i64 x.fAt.fNode, .string x.fAt.fName, .int .i64 x.fValue, .int .i64 x.fOwner, .int .i64 x.fLiteral, .string x.fRule, .slice a6 x.fIds.length c6, .slice a7 x.fShape.length c7, .slice a8 x.fReads.length c8] 132)).alloc (by simp) (.cells #[.int .i64 y.fAt.fNode, .string y.fAt.fName, .int .i64 y.fValue, .int .i64 y.fOwner, .int .i64 y.fLiteral, .string y.fRule, .slice b6 y.fIds.length d6, .slice b7 y.fShape.length d7, .slice b8 y.fReads.length d8] 132))
  have HS := Lib.hid (fun (W : World) (hW : Below w.heap.size w W) => impl_SameSource (a6x := a6) (a7x := a7) (a8x := a8) (a6y := b6) (a7y := b7) (a8y := b8) (c0_0 := c6) (c0_1 := c7) (c0_2 := c8) (c1_0 := d6) (c1_1 := d7) (c1_2 := d8) x hox hx y hoy hy W (Nat.le_trans hhi hW.size) (hs6.later hW hhi) (hs7.later hW hhi) (hs8.later hW hhi) (ht6.later hW hhi) (ht7.later hW hhi) (ht8.later hW hhi))
  obtain ⟨r, hr⟩ : ∃ r : Bool, r = true ↔ x.fReads = y.fReads := by classical exact ⟨decide (x.fReads = y.fReads), decide_eq_true_iff⟩
  have HR := Lib.hid (fun (W : World) (hW : Below w.heap.size w W) => Equal_readings (cap := c8) (cap2 := d8) x.fReads y.fReads (entry_reads hx) (entry_reads hy) r hr W (hs8.later hW hhi) (ht8.later hW hhi))
  have hno := @eqEnt_no x y
  have hyes := (@eqEnt_iff x y).2
  unfold CondE at hno hyes
  clear hs6 hs7 hs8 ht6 ht7 ht8 hx hy hox hoy
  generalize eqEnt x y = res at *
  cases hq : sameSrc x y
  · have fin := Lib.hid (hno (fun e => by rw [hq] at e; cases e.1))
    rw [hq] at HS
    clear hq hno hyes HR hr
    generalize x.fAt.fNode = xv0 at *
    generalize y.fAt.fNode = yv0 at *
    generalize x.fAt.fName = xv1 at *
    generalize y.fAt.fName = yv1 at *
    generalize x.fOwner = xv2 at *
    generalize y.fOwner = yv2 at *
    generalize x.fLiteral = xv3 at *
    generalize y.fLiteral = yv3 at *
    generalize x.fRule = xv4 at *
    generalize y.fRule = yv4 at *
    generalize x.fIds.length = xv5 at *
    generalize y.fIds.length = yv5 at *
    generalize x.fShape.length = xv6 at *
    generalize y.fShape.length = yv6 at *
    generalize x.fReads.length = xv7 at *
    generalize y.fReads.length = yv7 at *
    generalize x.fValue = vv at *
    generalize y.fValue = vv2 at *
    go_enter Tryz.func76, Tryz.ntmps76
    go_wp2_with fail
    refine (HS.out _ HB.out).mono ?_
    rintro e w1 ⟨rfl, hb1⟩
    have HB1 := Lib.hid (HB.out.trans (hb1.mono HB.out.size))
    clear hb1
    go_wp2
    go_ret
    exact ⟨ret_b fin.out.symm, HB1.out⟩
  · rw [hq] at HS
    by_cases hv : x.fValue = y.fValue
    · have fin := Lib.hid (show r = res by
        cases r
        · exact (hno (fun e => by have := hr.2 e.2.2; cases this)).symm
        · exact (hyes ⟨hq, hv, hr.1 rfl⟩).symm)
      clear hq hno hyes hr
      rw [hv] at HB HS ⊢
      clear hv
      generalize x.fAt.fNode = xv0 at *
      generalize y.fAt.fNode = yv0 at *
      generalize x.fAt.fName = xv1 at *
      generalize y.fAt.fName = yv1 at *
      generalize x.fOwner = xv2 at *
      generalize y.fOwner = yv2 at *
      generalize x.fLiteral = xv3 at *
      generalize y.fLiteral = yv3 at *
      generalize x.fRule = xv4 at *
      generalize y.fRule = yv4 at *
      generalize x.fIds.length = xv5 at *
      generalize y.fIds.length = yv5 at *
      generalize x.fShape.length = xv6 at *
      generalize y.fShape.length = yv6 at *
      generalize x.fReads.length = xv7 at *
      generalize y.fReads.length = yv7 at *
      generalize y.fValue = vv at *
      go_enter Tryz.func76, Tryz.ntmps76
      go_wp2_with fail
      refine (HS.out _ HB.out).mono ?_
      rintro e w1 ⟨rfl, hb1⟩
      have p2 : w1.cell? ⟨w.heap.size, 2, none⟩ = some (.int .i64 vv) := (hb1.cell (p := ⟨w.heap.size, 2, none⟩) (by simp <;> omega)).trans (by go_simp)
      have p8 : w1.cell? ⟨w.heap.size, 8, none⟩ = some (.slice a8 xv7 c8) := (hb1.cell (p := ⟨w.heap.size, 8, none⟩) (by simp <;> omega)).trans (by go_simp)
      have q2 : w1.cell? ⟨w.heap.size + 1, 2, none⟩ = some (.int .i64 vv) := (hb1.cell (p := ⟨w.heap.size + 1, 2, none⟩) (by simp <;> omega)).trans (by go_simp)
      have q8 : w1.cell? ⟨w.heap.size + 1, 8, none⟩ = some (.slice b8 yv7 d8) := (hb1.cell (p := ⟨w.heap.size + 1, 8, none⟩) (by simp <;> omega)).trans (by go_simp)
      have HB1 := Lib.hid (HB.out.trans (hb1.mono HB.out.size))
      clear hb1
      go_wp2_with fail
      refine (HR.out _ HB1.out).mono ?_
      rintro e w2 ⟨rfl, q, rfl⟩
      go_wp2
      go_ret
      exact ⟨ret_b fin.out, below_drewN HB1.out _⟩
    · have fin := Lib.hid (hno (fun e => hv e.2.1))
      have e1 : (x.fValue == y.fValue) = false := beq_eq_false_iff_ne.2 hv
      clear hq hno hyes hr HR hv
      generalize x.fAt.fNode = xv0 at *
      generalize y.fAt.fNode = yv0 at *
      generalize x.fAt.fName = xv1 at *
      generalize y.fAt.fName = yv1 at *
      generalize x.fOwner = xv2 at *
      generalize y.fOwner = yv2 at *
      generalize x.fLiteral = xv3 at *
      generalize y.fLiteral = yv3 at *
      generalize x.fRule = xv4 at *
      generalize y.fRule = yv4 at *
      generalize x.fIds.length = xv5 at *
      generalize y.fIds.length = yv5 at *
      generalize x.fShape.length = xv6 at *
      generalize y.fShape.length = yv6 at *
      generalize x.fReads.length = xv7 at *
      generalize y.fReads.length = yv7 at *
      generalize x.fValue = vv at *
      generalize y.fValue = vv2 at *
      go_enter Tryz.func76, Tryz.ntmps76
      go_wp2_with fail
      refine (HS.out _ HB.out).mono ?_
      rintro e w1 ⟨rfl, hb1⟩
      have p2 : w1.cell? ⟨w.heap.size, 2, none⟩ = some (.int .i64 vv) := (hb1.cell (p := ⟨w.heap.size, 2, none⟩) (by simp <;> omega)).trans (by go_simp)
      have p8 : w1.cell? ⟨w.heap.size, 8, none⟩ = some (.slice a8 xv7 c8) := (hb1.cell (p := ⟨w.heap.size, 8, none⟩) (by simp <;> omega)).trans (by go_simp)
      have q2 : w1.cell? ⟨w.heap.size + 1, 2, none⟩ = some (.int .i64 vv2) := (hb1.cell (p := ⟨w.heap.size + 1, 2, none⟩) (by simp <;> omega)).trans (by go_simp)
      have q8 : w1.cell? ⟨w.heap.size + 1, 8, none⟩ = some (.slice b8 yv7 d8) := (hb1.cell (p := ⟨w.heap.size + 1, 8, none⟩) (by simp <;> omega)).trans (by go_simp)
      have HB1 := Lib.hid (HB.out.trans (hb1.mono HB.out.size))
      clear hb1
      go_wp2
      go_ret
      exact ⟨ret_b fin.out.symm, HB1.out⟩

set_option maxHeartbeats 3200000 in
set_option maxRecDepth 100000 in
theorem EqualFunc_entries {lo hi cap cap2 : Nat} {a a2 : Option Addr} (l m : List DEntry) (hol : okL DEntry.ok l) (hom : okL DEntry.ok m) (hl : lsz DEntry.sz l ≤ 1048576) (hm : lsz DEntry.sz m ≤ 1048576) (w : World) (hhi : hi ≤ w.heap.size) (hs : Sl lo hi w 9 l.length (fun k => DEntry.ct (l.getD k default)) a) (hs2 : Sl lo hi w 9 m.length (fun k => DEntry.ct (m.getD k default)) a2) :
    Calls Tryz.prog 75 #[.slice a l.length cap, .slice a2 m.length cap2, .func (.func 76) #[] #[]] w fun e w' => e = .returned (.bool (sameR l m)) ∧ Below w.heap.size w w' := by
  have hn : l.length ≤ 1048576 := by unfold lsz at hl; omega
  have hn2 : m.length ≤ 1048576 := by unfold lsz at hm; omega
  have HW0 := Lib.hid (Below.refl w.heap.size w)
  by_cases hlen : l.length = m.length
  · have HS := Lib.hid hs
    have HS2 := Lib.hid hs2
    have HL := Lib.hid hlen
    have HSZ := Lib.hid (fun k (hk : k < l.length) => Nat.le_trans (szle_at (f := DEntry.sz) l k hk) hl)
    have HSZ2 := Lib.hid (fun k (hk : k < m.length) => Nat.le_trans (szle_at (f := DEntry.sz) m k hk) hm)
    have OKX := Lib.hid (fun k (hk : k < l.length) => hol.at hk)
    have OKY := Lib.hid (fun k (hk : k < m.length) => hom.at hk)
    have e0 : ((l.length : Int) == (m.length : Int)) = true := by rw [hlen]; exact beq_self_eq_true _
    have e00 : ((l.length : Int) != (m.length : Int)) = false := by rw [bne, e0]; rfl
    clear hs hs2 hlen hl hm hol hom
    go_enter Tryz.func75, Tryz.ntmps75
    go_wp2
    go_loopw [17] (fun i wr => ∃ k : Nat, k ≤ l.length ∧ i = .int .i64 (k : Int) ∧ (∀ jj, jj < k → eqEnt (l.getD jj default) (m.getD jj default) = true) ∧ Below w.heap.size w wr) (fun i _ => l.length - (intOf i).toNat)
    case atStart => exact ⟨0, Nat.zero_le _, rfl, fun _ h => absurd h (Nat.not_lt_zero _), Below.refl _ _⟩
    case round =>
      obtain ⟨k, hk, rfl, heq, hbl⟩ := hrel
      have HE := Lib.hid heq
      have HBW := Lib.hid hbl
      clear heq hbl
      by_cases hlt : k < l.length
      · have hltm : k < m.length := by rw [← HL.out]; exact hlt
        obtain ⟨b, off, rfl, _, hb_, hc⟩ := (HS.out.later (HBW.out.mono hhi) (Nat.le_refl _)).at k hlt
        obtain ⟨b2, off2, rfl, _, hb2_, hcq⟩ := (HS2.out.later (HBW.out.mono hhi) (Nat.le_refl _)).at k hltm
        obtain ⟨a6, c6, a7, c7, a8, c8, h0, h1, h2, h3, h4, h5, h6, h7, h8, hs6, hs7, hs8⟩ := DEntry.open hc
        obtain ⟨b6, d6, b7, d7, b8, d8, g0, g1, g2, g3, g4, g5, g6, g7, g8, ht6, ht7, ht8⟩ := DEntry.open hcq
        have bl2 : b2 < wr.heap.size := Nat.lt_of_lt_of_le hb2_ (Nat.le_trans hhi HBW.out.size)
        have bl1 : b < wr.heap.size := Nat.lt_of_lt_of_le hb_ (Nat.le_trans hhi HBW.out.size)
        have f0 : ∀ o, (wr.alloc o).cell? ⟨b2, off2 + k * 9, none⟩ = some (.int .i64 (m.getD k default).fAt.fNode) := fun o => (((Below.refl wr.heap.size wr).alloc (Nat.le_refl _) o).cell (p := ⟨b2, off2 + k * 9, none⟩) bl2).trans g0
        have f1 : ∀ o, (wr.alloc o).cell? ⟨b2, off2 + k * 9 + 1, none⟩ = some (.string (m.getD k default).fAt.fName) := fun o => (((Below.refl wr.heap.size wr).alloc (Nat.le_refl _) o).cell (p := ⟨b2, off2 + k * 9 + 1, none⟩) bl2).trans g1
        have f2 : ∀ o, (wr.alloc o).cell? ⟨b2, off2 + k * 9 + 2, none⟩ = some (.int .i64 (m.getD k default).fValue) := fun o => (((Below.refl wr.heap.size wr).alloc (Nat.le_refl _) o).cell (p := ⟨b2, off2 + k * 9 + 2, none⟩) bl2).trans g2
        have f3 : ∀ o, (wr.alloc o).cell? ⟨b2, off2 + k * 9 + 3, none⟩ = some (.int .i64 (m.getD k default).fOwner) := fun o => (((Below.refl wr.heap.size wr).alloc (Nat.le_refl _) o).cell (p := ⟨b2, off2 + k * 9 + 3, none⟩) bl2).trans g3
        have f4 : ∀ o, (wr.alloc o).cell? ⟨b2, off2 + k * 9 + 4, none⟩ = some (.int .i64 (m.getD k default).fLiteral) := fun o => (((Below.refl wr.heap.size wr).alloc (Nat.le_refl _) o).cell (p := ⟨b2, off2 + k * 9 + 4, none⟩) bl2).trans g4
        have f5 : ∀ o, (wr.alloc o).cell? ⟨b2, off2 + k * 9 + 5, none⟩ = some (.string (m.getD k default).fRule) := fun o => (((Below.refl wr.heap.size wr).alloc (Nat.le_refl _) o).cell (p := ⟨b2, off2 + k * 9 + 5, none⟩) bl2).trans g5
        have f6 : ∀ o, (wr.alloc o).cell? ⟨b2, off2 + k * 9 + 6, none⟩ = some (.slice b6 (m.getD k default).fIds.length d6) := fun o => (((Below.refl wr.heap.size wr).alloc (Nat.le_refl _) o).cell (p := ⟨b2, off2 + k * 9 + 6, none⟩) bl2).trans g6
        have f7 : ∀ o, (wr.alloc o).cell? ⟨b2, off2 + k * 9 + 7, none⟩ = some (.slice b7 (m.getD k default).fShape.length d7) := fun o => (((Below.refl wr.heap.size wr).alloc (Nat.le_refl _) o).cell (p := ⟨b2, off2 + k * 9 + 7, none⟩) bl2).trans g7
        have f8 : ∀ o, (wr.alloc o).cell? ⟨b2, off2 + k * 9 + 8, none⟩ = some (.slice b8 (m.getD k default).fReads.length d8) := fun o => (((Below.refl wr.heap.size wr).alloc (Nat.le_refl _) o).cell (p := ⟨b2, off2 + k * 9 + 8, none⟩) bl2).trans g8
        have HC := Lib.hid (fun (W : World) (hW : Below wr.heap.size wr W) => impl_equalEntry (c6 := c6) (c7 := c7) (c8 := c8) (d6 := d6) (d7 := d7) (d8 := d8) (l.getD k default) (m.getD k default) (OKX.out k hlt) (OKY.out k hltm) (HSZ.out k hlt) (HSZ2.out k hltm) W (Nat.le_trans hhi (Nat.le_trans HBW.out.size hW.size)) (hs6.later (hW.mono (Nat.le_trans hhi HBW.out.size)) (Nat.le_refl _)) (hs7.later (hW.mono (Nat.le_trans hhi HBW.out.size)) (Nat.le_refl _)) (hs8.later (hW.mono (Nat.le_trans hhi HBW.out.size)) (Nat.le_refl _)) (ht6.later (hW.mono (Nat.le_trans hhi HBW.out.size)) (Nat.le_refl _)) (ht7.later (hW.mono (Nat.le_trans hhi HBW.out.size)) (Nat.le_refl _)) (ht8.later (hW.mono (Nat.le_trans hhi HBW.out.size)) (Nat.le_refl _)))
        have HPS := Lib.hid (show eqEnt (l.getD k default) (m.getD k default) = true → ∀ jj, jj < k + 1 → eqEnt (l.getD jj default) (m.getD jj default) = true from fun h1 jj hj => by
          rcases Nat.lt_succ_iff_lt_or_eq.1 hj with h | h
          · exact HE.out jj h
          · rw [h]; exact h1)
        have HNO := Lib.hid (fun h => sameR_no (m := m) hlt h)
        clear hc hcq hs6 hs7 hs8 ht6 ht7 ht8
        cases hq : eqEnt (l.getD k default) (m.getD k default)
        · have fin := Lib.hid (HNO.out (by assumption))
          rw [hq] at HC
          clear hq HPS HNO
          generalize l.getD k default = x at *
          generalize m.getD k default = y at *
          go_wp2_with fail
          refine (HC.out _ (by repeat (first | (with_reducible exact Below.refl _ _) | (with_reducible refine below_drewN ?_ _) | (with_reducible apply Below.drew) | (refine Below.setCell ?_ (by simp <;> omega) _) | (refine Below.alloc ?_ (by simp <;> omega) _)) : Below wr.heap.size wr _)).mono ?_
          rintro e w1 ⟨rfl, hb1⟩
          have HB1 := Lib.hid ((by repeat (first | (with_reducible exact Below.refl _ _) | (with_reducible refine below_drewN ?_ _) | (with_reducible apply Below.drew) | (refine Below.setCell ?_ (by simp <;> omega) _) | (refine Below.alloc ?_ (by simp <;> omega) _)) : Below wr.heap.size wr _).trans (hb1.mono (by repeat (first | (with_reducible exact Below.refl _ _) | (with_reducible refine below_drewN ?_ _) | (with_reducible apply Below.drew) | (refine Below.setCell ?_ (by simp <;> omega) _) | (refine Below.alloc ?_ (by simp <;> omega) _)) : Below wr.heap.size wr _).size))
          clear hb1
          go_wp2
          go_ret
          exact ⟨ret_b fin.out.symm, HBW.out.trans (HB1.out.mono HBW.out.size)⟩
        · have HP2 := Lib.hid (HPS.out (by assumption))
          rw [hq] at HC
          clear hq HPS HNO
          generalize l.getD k default = x at *
          generalize m.getD k default = y at *
          go_wp2_with fail
          refine (HC.out _ (by repeat (first | (with_reducible exact Below.refl _ _) | (with_reducible refine below_drewN ?_ _) | (with_reducible apply Below.drew) | (refine Below.setCell ?_ (by simp <;> omega) _) | (refine Below.alloc ?_ (by simp <;> omega) _)) : Below wr.heap.size wr _)).mono ?_
          rintro e w1 ⟨rfl, hb1⟩
          have HB1 := Lib.hid ((by repeat (first | (with_reducible exact Below.refl _ _) | (with_reducible refine below_drewN ?_ _) | (with_reducible apply Below.drew) | (refine Below.setCell ?_ (by simp <;> omega) _) | (refine Below.alloc ?_ (by simp <;> omega) _)) : Below wr.heap.size wr _).trans (hb1.mono (by repeat (first | (with_reducible exact Below.refl _ _) | (with_reducible refine below_drewN ?_ _) | (with_reducible apply Below.drew) | (refine Below.setCell ?_ (by simp <;> omega) _) | (refine Below.alloc ?_ (by simp <;> omega) _)) : Below wr.heap.size wr _).size))
          clear hb1
          go_wp2
          go_roundw
          case rel => exact ⟨k + 1, by omega, by go_num, HP2.out, HBW.out.trans (HB1.out.mono HBW.out.size)⟩
          case measure => simp [intOf]; omega
      · obtain rfl : k = l.length := by omega
        have fin := Lib.hid (sameR_yes HL.out HE.out)
        go_wp2
        go_ret
        exact ⟨ret_b fin.out.symm, HBW.out⟩
  · have fin := Lib.hid (sameR_len hlen)
    have e0 : ((l.length : Int) == (m.length : Int)) = false := beq_eq_false_iff_ne.2 (by omega)
    have e00 : ((l.length : Int) != (m.length : Int)) = true := by rw [bne, e0]; rfl
    clear hs hs2 hlen
    go_enter Tryz.func75, Tryz.ntmps75
    go_wp2
    go_ret
    exact ⟨ret_b fin.out.symm, HW0.out⟩

set_option maxHeartbeats 3200000 in
set_option maxRecDepth 100000 in
theorem impl_SameResults {lo hi : Nat} {a0 a1 b0 b1 : Option Addr} {c0_0 c0_1 c1_0 c1_1 : Nat} (x : DMemo) (hox : x.ok) (hx : x.sz ≤ 1048576) (y : DMemo) (hoy : y.ok) (hy : y.sz ≤ 1048576) (w : World) (hhi : hi ≤ w.heap.size) (hs : Sl lo hi w 9 x.fEntries.length (fun k => DEntry.ct (x.fEntries.getD k default)) a0) (_hs1 : Sl lo hi w 2 x.fEvaluated.length (fun k => DInstance.ct (x.fEvaluated.getD k default)) a1) (ht : Sl lo hi w 9 y.fEntries.length (fun k => DEntry.ct (y.fEntries.getD k default)) b0) (_ht1 : Sl lo hi w 2 y.fEvaluated.length (fun k => DInstance.ct (y.fEvaluated.getD k default)) b1) :
    Calls Tryz.prog 45 #[.agg #[.slice a0 x.fEntries.length c0_0, .slice a1 x.fEvaluated.length c0_1], .agg #[.slice b0 y.fEntries.length c1_0, .slice b1 y.fEvaluated.length c1_1]] w fun e w' => e = .returned (.bool (sameR x.fEntries y.fEntries)) ∧ Below w.heap.size w w' := by
  have HB := Lib.hid (((Below.refl w.heap.size w).alloc (Nat.le_refl _) (.cells #[.slice a0 x.fEntries.length c0_0, .slice a1 x.fEvaluated.length c0_1] 47)).alloc (by simp) (.cells #[.slice b0 y.fEntries.length c1_0, .slice b1 y.fEvaluated.length c1_1] 47))
  have HC := Lib.hid (EqualFunc_entries (cap := c0_0) (cap2 := c1_0) x.fEntries y.fEntries hox.1 hoy.1 (Nat.le_trans (Nat.le_add_right _ _) hx) (Nat.le_trans (Nat.le_add_right _ _) hy) _ (Nat.le_trans hhi HB.out.size) (hs.later HB.out hhi) (ht.later HB.out hhi))
  clear hs _hs1 ht _ht1 hx hy hox hoy
  generalize sameR x.fEntries y.fEntries = res at *
  generalize x.fEntries.length = n1 at *
  generalize y.fEntries.length = n2 at *
  generalize x.fEvaluated.length = n3 at *
  generalize y.fEvaluated.length = n4 at *
  go_enter Tryz.func45, Tryz.ntmps45
  go_wp2_with fail
  refine HC.out.mono ?_
  rintro e w1 ⟨rfl, hb1⟩
  have HB1 := Lib.hid (HB.out.trans (hb1.mono HB.out.size))
  clear hb1
  go_wp2
  go_ret
  exact ⟨rfl, HB1.out⟩

set_option maxHeartbeats 3200000 in
set_option maxRecDepth 100000 in
theorem spec_SameResults {lo hi : Nat} {a0 a1 b0 b1 : Option Addr} {c0_0 c0_1 c1_0 c1_1 : Nat} (x : DMemo) (hox : x.ok) (hx : x.sz ≤ 1048576) (y : DMemo) (hoy : y.ok) (hy : y.sz ≤ 1048576) (w : World) (hhi : hi ≤ w.heap.size) (hs : Sl lo hi w 9 x.fEntries.length (fun k => DEntry.ct (x.fEntries.getD k default)) a0) (_hs1 : Sl lo hi w 2 x.fEvaluated.length (fun k => DInstance.ct (x.fEvaluated.getD k default)) a1) (ht : Sl lo hi w 9 y.fEntries.length (fun k => DEntry.ct (y.fEntries.getD k default)) b0) (_ht1 : Sl lo hi w 2 y.fEvaluated.length (fun k => DInstance.ct (y.fEvaluated.getD k default)) b1) :
    Calls Tryz.prog 32 #[.agg #[.slice a0 x.fEntries.length c0_0, .slice a1 x.fEvaluated.length c0_1], .agg #[.slice b0 y.fEntries.length c1_0, .slice b1 y.fEvaluated.length c1_1]] w fun e w' => e = .returned (.bool (sameR x.fEntries y.fEntries)) ∧ Below w.heap.size w w' := by
  have hol := hox.1
  have hom := hoy.1
  have hl : lsz DEntry.sz x.fEntries ≤ 1048576 := Nat.le_trans (Nat.le_add_right _ _) hx
  have hm : lsz DEntry.sz y.fEntries ≤ 1048576 := Nat.le_trans (Nat.le_add_right _ _) hy
  clear _hs1 _ht1 hx hy hox hoy
  have hs2 := ht
  clear ht
  generalize x.fEntries = l at *
  generalize y.fEntries = m at *
  generalize x.fEvaluated.length = n3 at *
  generalize y.fEvaluated.length = n4 at *
  have hn : l.length ≤ 1048576 := by unfold lsz at hl; omega
  have hn2 : m.length ≤ 1048576 := by unfold lsz at hm; omega
  have HW0 := Lib.hid (((Below.refl w.heap.size w).alloc (Nat.le_refl _) (.cells #[.slice a0 l.length c0_0, .slice a1 n3 c0_1] 47)).alloc (by simp) (.cells #[.slice b0 m.length c1_0, .slice b1 n4 c1_1] 47))
  by_cases hlen : l.length = m.length
  · have HS := Lib.hid hs
    have HS2 := Lib.hid hs2
    have HL := Lib.hid hlen
    have HSZ := Lib.hid (fun k (hk : k < l.length) => Nat.le_trans (szle_at (f := DEntry.sz) l k hk) hl)
    have HSZ2 := Lib.hid (fun k (hk : k < m.length) => Nat.le_trans (szle_at (f := DEntry.sz) m k hk) hm)
    have OKX := Lib.hid (fun k (hk : k < l.length) => hol.at hk)
    have OKY := Lib.hid (fun k (hk : k < m.length) => hom.at hk)
    have e0 : ((l.length : Int) == (m.length : Int)) = true := by rw [hlen]; exact beq_self_eq_true _
    have e00 : ((l.length : Int) != (m.length : Int)) = false := by rw [bne, e0]; rfl
    clear hs hs2 hlen hl hm hol hom
    go_enter Tryz.func32, Tryz.ntmps32
    go_wp2
    go_loopw [5] (fun i wr => ∃ k : Nat, k ≤ l.length ∧ i = .int .i64 (k : Int) ∧ (∀ jj, jj < k → eqEnt (l.getD jj default) (m.getD jj default) = true) ∧ Below (w.heap.size + 2) ((w.alloc (.cells #[.slice a0 l.length c0_0, .slice a1 n3 c0_1] 47)).alloc (.cells #[.slice b0 m.length c1_0, .slice b1 n4 c1_1] 47)) wr) (fun i _ => l.length - (intOf i).toNat)
    case atStart => exact ⟨0, Nat.zero_le _, rfl, fun _ h => absurd h (Nat.not_lt_zero _), Below.refl _ _⟩
    case round =>
      obtain ⟨k, hk, rfl, heq, hbl⟩ := hrel
      have HE := Lib.hid heq
      have HBL := Lib.hid hbl
      have HBW := Lib.hid (HW0.out.trans (hbl.mono (by omega)) : Below w.heap.size w wr)
      have p3 : wr.cell? ⟨w.heap.size, 0, none⟩ = some (.slice a0 l.length c0_0) := (hbl.cell (p := ⟨w.heap.size, 0, none⟩) (by show w.heap.size < w.heap.size + 2; omega)).trans (by go_simp)
      have p4 : wr.cell? ⟨w.heap.size + 1, 0, none⟩ = some (.slice b0 m.length c1_0) := (hbl.cell (p := ⟨w.heap.size + 1, 0, none⟩) (by show w.heap.size + 1 < w.heap.size + 2; omega)).trans (by go_simp)
      have hsz2 : w.heap.size + 2 ≤ wr.heap.size := Nat.le_trans (by simp) hbl.size
      have p5 : ∀ o, (wr.alloc o).cell? ⟨w.heap.size + 1, 0, none⟩ = some (.slice b0 m.length c1_0) := fun o => (((Below.refl wr.heap.size wr).alloc (Nat.le_refl _) o).cell (p := ⟨w.heap.size + 1, 0, none⟩) (by show w.heap.size + 1 < wr.heap.size; omega)).trans p4
      clear heq hbl
      by_cases hlt : k < l.length
      · have hltm : k < m.length := by rw [← HL.out]; exact hlt
        obtain ⟨b, off, rfl, _, hb_, hc⟩ := (HS.out.later (HBW.out.mono hhi) (Nat.le_refl _)).at k hlt
        obtain ⟨b2, off2, rfl, _, hb2_, hcq⟩ := (HS2.out.later (HBW.out.mono hhi) (Nat.le_refl _)).at k hltm
        obtain ⟨a6, c6, a7, c7, a8, c8, h0, h1, h2, h3, h4, h5, h6, h7, h8, hs6, hs7, hs8⟩ := DEntry.open hc
        obtain ⟨b6, d6, b7, d7, b8, d8, g0, g1, g2, g3, g4, g5, g6, g7, g8, ht6, ht7, ht8⟩ := DEntry.open hcq
        have bl2 : b2 < wr.heap.size := Nat.lt_of_lt_of_le hb2_ (Nat.le_trans hhi HBW.out.size)
        have bl1 : b < wr.heap.size := Nat.lt_of_lt_of_le hb_ (Nat.le_trans hhi HBW.out.size)
        have f0 : ∀ o, (wr.alloc o).cell? ⟨b2, off2 + k * 9, none⟩ = some (.int .i64 (m.getD k default).fAt.fNode) := fun o => (((Below.refl wr.heap.size wr).alloc (Nat.le_refl _) o).cell (p := ⟨b2, off2 + k * 9, none⟩) bl2).trans g0
        have f1 : ∀ o, (wr.alloc o).cell? ⟨b2, off2 + k * 9 + 1, none⟩ = some (.string (m.getD k default).fAt.fName) := fun o => (((Below.refl wr.heap.size wr).alloc (Nat.le_refl _) o).cell (p := ⟨b2, off2 + k * 9 + 1, none⟩) bl2).trans g1
        have f2 : ∀ o, (wr.alloc o).cell? ⟨b2, off2 + k * 9 + 2, none⟩ = some (.int .i64 (m.getD k default).fValue) := fun o => (((Below.refl wr.heap.size wr).alloc (Nat.le_refl _) o).cell (p := ⟨b2, off2 + k * 9 + 2, none⟩) bl2).trans g2
        have f3 : ∀ o, (wr.alloc o).cell? ⟨b2, off2 + k * 9 + 3, none⟩ = some (.int .i64 (m.getD k default).fOwner) := fun o => (((Below.refl wr.heap.size wr).alloc (Nat.le_refl _) o).cell (p := ⟨b2, off2 + k * 9 + 3, none⟩) bl2).trans g3
        have f4 : ∀ o, (wr.alloc o).cell? ⟨b2, off2 + k * 9 + 4, none⟩ = some (.int .i64 (m.getD k default).fLiteral) := fun o => (((Below.refl wr.heap.size wr).alloc (Nat.le_refl _) o).cell (p := ⟨b2, off2 + k * 9 + 4, none⟩) bl2).trans g4
        have f5 : ∀ o, (wr.alloc o).cell? ⟨b2, off2 + k * 9 + 5, none⟩ = some (.string (m.getD k default).fRule) := fun o => (((Below.refl wr.heap.size wr).alloc (Nat.le_refl _) o).cell (p := ⟨b2, off2 + k * 9 + 5, none⟩) bl2).trans g5
        have f6 : ∀ o, (wr.alloc o).cell? ⟨b2, off2 + k * 9 + 6, none⟩ = some (.slice b6 (m.getD k default).fIds.length d6) := fun o => (((Below.refl wr.heap.size wr).alloc (Nat.le_refl _) o).cell (p := ⟨b2, off2 + k * 9 + 6, none⟩) bl2).trans g6
        have f7 : ∀ o, (wr.alloc o).cell? ⟨b2, off2 + k * 9 + 7, none⟩ = some (.slice b7 (m.getD k default).fShape.length d7) := fun o => (((Below.refl wr.heap.size wr).alloc (Nat.le_refl _) o).cell (p := ⟨b2, off2 + k * 9 + 7, none⟩) bl2).trans g7
        have f8 : ∀ o, (wr.alloc o).cell? ⟨b2, off2 + k * 9 + 8, none⟩ = some (.slice b8 (m.getD k default).fReads.length d8) := fun o => (((Below.refl wr.heap.size wr).alloc (Nat.le_refl _) o).cell (p := ⟨b2, off2 + k * 9 + 8, none⟩) bl2).trans g8
        have HC := Lib.hid (fun (W : World) (hW : Below wr.heap.size wr W) => spec_SameSource (a6x := a6) (a7x := a7) (a8x := a8) (a6y := b6) (a7y := b7) (a8y := b8) (c0_0 := c6) (c0_1 := c7) (c0_2 := c8) (c1_0 := d6) (c1_1 := d7) (c1_2 := d8) (l.getD k default) (OKX.out k hlt) (HSZ.out k hlt) (m.getD k default) (OKY.out k hltm) (HSZ2.out k hltm) W (Nat.le_trans hhi (Nat.le_trans HBW.out.size hW.size)) (hs6.later (hW.mono (Nat.le_trans hhi HBW.out.size)) (Nat.le_refl _)) (hs7.later (hW.mono (Nat.le_trans hhi HBW.out.size)) (Nat.le_refl _)) (hs8.later (hW.mono (Nat.le_trans hhi HBW.out.size)) (Nat.le_refl _)) (ht6.later (hW.mono (Nat.le_trans hhi HBW.out.size)) (Nat.le_refl _)) (ht7.later (hW.mono (Nat.le_trans hhi HBW.out.size)) (Nat.le_refl _)) (ht8.later (hW.mono (Nat.le_trans hhi HBW.out.size)) (Nat.le_refl _)))
        have HR0 := Lib.hid (fun (r : Bool) (hr : r = true ↔ (l.getD k default).fReads = (m.getD k default).fReads) (W : World) (hW : Below wr.heap.size wr W) => spec_l37Readings (cap := c8) (cap2 := d8) (l.getD k default).fReads (m.getD k default).fReads (entry_reads (HSZ.out k hlt)) (entry_reads (HSZ2.out k hltm)) r hr W (hs8.later (hW.mono (Nat.le_trans hhi HBW.out.size)) (Nat.le_refl _)) (ht8.later (hW.mono (Nat.le_trans hhi HBW.out.size)) (Nat.le_refl _)))
        have HPS := Lib.hid (show eqEnt (l.getD k default) (m.getD k default) = true → ∀ jj, jj < k + 1 → eqEnt (l.getD jj default) (m.getD jj default) = true from fun h1 jj hj => by
          rcases Nat.lt_succ_iff_lt_or_eq.1 hj with h | h
          · exact HE.out jj h
          · rw [h]; exact h1)
        have HNO := Lib.hid (fun h => sameR_no (m := m) hlt h)
        clear hc hcq hs6 hs7 hs8 ht6 ht7 ht8
        generalize l.getD k default = x at *
        generalize m.getD k default = y at *
        obtain ⟨r, hr⟩ : ∃ r : Bool, r = true ↔ x.fReads = y.fReads := by classical exact ⟨decide (x.fReads = y.fReads), decide_eq_true_iff⟩
        have HR := Lib.hid (HR0.out r hr)
        clear HR0
        cases hq : sameSrc x y
        · have fin := Lib.hid (HNO.out (eqEnt_no (fun e => by have e9 := e.1; rw [hq] at e9; cases e9)))
          rw [hq] at HC
          clear hq HPS HNO HR hr
          generalize x.fAt.fNode = xv0 at *
          generalize y.fAt.fNode = yv0 at *
          generalize x.fAt.fName = xv1 at *
          generalize y.fAt.fName = yv1 at *
          generalize x.fOwner = xv2 at *
          generalize y.fOwner = yv2 at *
          generalize x.fLiteral = xv3 at *
          generalize y.fLiteral = yv3 at *
          generalize x.fRule = xv4 at *
          generalize y.fRule = yv4 at *
          generalize x.fIds.length = xv5 at *
          generalize y.fIds.length = yv5 at *
          generalize x.fShape.length = xv6 at *
          generalize y.fShape.length = yv6 at *
          generalize x.fReads.length = xv7 at *
          generalize y.fReads.length = yv7 at *
          generalize x.fValue = vv at *
          generalize y.fValue = vv2 at *
          go_wp2_with fail
          refine (HC.out _ (by repeat (first | (with_reducible exact Below.refl _ _) | (with_reducible refine below_drewN ?_ _) | (with_reducible apply Below.drew) | (refine Below.setCell ?_ (by simp <;> omega) _) | (refine Below.alloc ?_ (by simp <;> omega) _)) : Below wr.heap.size wr _)).mono ?_
          rintro e w1 ⟨rfl, hb1⟩
          have HB1 := Lib.hid ((by repeat (first | (with_reducible exact Below.refl _ _) | (with_reducible refine below_drewN ?_ _) | (with_reducible apply Below.drew) | (refine Below.setCell ?_ (by simp <;> omega) _) | (refine Below.alloc ?_ (by simp <;> omega) _)) : Below wr.heap.size wr _).trans (hb1.mono (by repeat (first | (with_reducible exact Below.refl _ _) | (with_reducible refine below_drewN ?_ _) | (with_reducible apply Below.drew) | (refine Below.setCell ?_ (by simp <;> omega) _) | (refine Below.alloc ?_ (by simp <;> omega) _)) : Below wr.heap.size wr _).size))
          clear hb1
          go_wp2
          go_ret
          exact ⟨ret_b fin.out.symm, HBW.out.trans (HB1.out.mono HBW.out.size)⟩
        · rw [hq] at HC
          by_cases hv : x.fValue = y.fValue
          · cases r
            · have fin := Lib.hid (HNO.out (eqEnt_no (fun e => by have := hr.2 e.2.2; cases this)))
              clear hq HPS HNO hr
              rw [hv] at h2 HC
              clear hv
              generalize x.fAt.fNode = xv0 at *
              generalize y.fAt.fNode = yv0 at *
              generalize x.fAt.fName = xv1 at *
              generalize y.fAt.fName = yv1 at *
              generalize x.fOwner = xv2 at *
              generalize y.fOwner = yv2 at *
              generalize x.fLiteral = xv3 at *
              generalize y.fLiteral = yv3 at *
              generalize x.fRule = xv4 at *
              generalize y.fRule = yv4 at *
              generalize x.fIds.length = xv5 at *
              generalize y.fIds.length = yv5 at *
              generalize x.fShape.length = xv6 at *
              generalize y.fShape.length = yv6 at *
              generalize x.fReads.length = xv7 at *
              generalize y.fReads.length = yv7 at *
              generalize y.fValue = vv at *
              go_wp2_with fail
              refine (HC.out _ (by repeat (first | (with_reducible exact Below.refl _ _) | (with_reducible refine below_drewN ?_ _) | (with_reducible apply Below.drew) | (refine Below.setCell ?_ (by simp <;> omega) _) | (refine Below.alloc ?_ (by simp <;> omega) _)) : Below wr.heap.size wr _)).mono ?_
              rintro e w1 ⟨rfl, hb1⟩
              have p2 : w1.cell? ⟨wr.heap.size, 2, none⟩ = some (.int .i64 vv) := (hb1.cell (p := ⟨wr.heap.size, 2, none⟩) (by simp <;> omega)).trans (by go_simp)
              have p8 : w1.cell? ⟨wr.heap.size, 8, none⟩ = some (.slice a8 xv7 c8) := (hb1.cell (p := ⟨wr.heap.size, 8, none⟩) (by simp <;> omega)).trans (by go_simp)
              have q2 : w1.cell? ⟨wr.heap.size + 1, 2, none⟩ = some (.int .i64 vv) := (hb1.cell (p := ⟨wr.heap.size + 1, 2, none⟩) (by simp <;> omega)).trans (by go_simp)
              have q8 : w1.cell? ⟨wr.heap.size + 1, 8, none⟩ = some (.slice b8 yv7 d8) := (hb1.cell (p := ⟨wr.heap.size + 1, 8, none⟩) (by simp <;> omega)).trans (by go_simp)
              have HB1 := Lib.hid ((by repeat (first | (with_reducible exact Below.refl _ _) | (with_reducible refine below_drewN ?_ _) | (with_reducible apply Below.drew) | (refine Below.setCell ?_ (by simp <;> omega) _) | (refine Below.alloc ?_ (by simp <;> omega) _)) : Below wr.heap.size wr _).trans (hb1.mono (by repeat (first | (with_reducible exact Below.refl _ _) | (with_reducible refine below_drewN ?_ _) | (with_reducible apply Below.drew) | (refine Below.setCell ?_ (by simp <;> omega) _) | (refine Below.alloc ?_ (by simp <;> omega) _)) : Below wr.heap.size wr _).size))
              clear hb1
              go_wp2_with fail
              refine (HR.out _ HB1.out).mono ?_
              rintro e w2 ⟨rfl, q, rfl⟩
              go_wp2
              go_ret
              exact ⟨ret_b fin.out.symm, HBW.out.trans ((below_drewN HB1.out _).mono HBW.out.size)⟩
            · have HP2 := Lib.hid (HPS.out (eqEnt_iff.2 ⟨hq, hv, hr.1 rfl⟩))
              clear hq HPS HNO hr
              rw [hv] at h2 HC
              clear hv
              generalize x.fAt.fNode = xv0 at *
              generalize y.fAt.fNode = yv0 at *
              generalize x.fAt.fName = xv1 at *
              generalize y.fAt.fName = yv1 at *
              generalize x.fOwner = xv2 at *
              generalize y.fOwner = yv2 at *
              generalize x.fLiteral = xv3 at *
              generalize y.fLiteral = yv3 at *
              generalize x.fRule = xv4 at *
              generalize y.fRule = yv4 at *
              generalize x.fIds.length = xv5 at *
              generalize y.fIds.length = yv5 at *
              generalize x.fShape.length = xv6 at *
              generalize y.fShape.length = yv6 at *
              generalize x.fReads.length = xv7 at *
              generalize y.fReads.length = yv7 at *
              generalize y.fValue = vv at *
              go_wp2_with fail
              refine (HC.out _ (by repeat (first | (with_reducible exact Below.refl _ _) | (with_reducible refine below_drewN ?_ _) | (with_reducible apply Below.drew) | (refine Below.setCell ?_ (by simp <;> omega) _) | (refine Below.alloc ?_ (by simp <;> omega) _)) : Below wr.heap.size wr _)).mono ?_
              rintro e w1 ⟨rfl, hb1⟩
              have p2 : w1.cell? ⟨wr.heap.size, 2, none⟩ = some (.int .i64 vv) := (hb1.cell (p := ⟨wr.heap.size, 2, none⟩) (by simp <;> omega)).trans (by go_simp)
              have p8 : w1.cell? ⟨wr.heap.size, 8, none⟩ = some (.slice a8 xv7 c8) := (hb1.cell (p := ⟨wr.heap.size, 8, none⟩) (by simp <;> omega)).trans (by go_simp)
              have q2 : w1.cell? ⟨wr.heap.size + 1, 2, none⟩ = some (.int .i64 vv) := (hb1.cell (p := ⟨wr.heap.size + 1, 2, none⟩) (by simp <;> omega)).trans (by go_simp)
              have q8 : w1.cell? ⟨wr.heap.size + 1, 8, none⟩ = some (.slice b8 yv7 d8) := (hb1.cell (p := ⟨wr.heap.size + 1, 8, none⟩) (by simp <;> omega)).trans (by go_simp)
              have HB1 := Lib.hid ((by repeat (first | (with_reducible exact Below.refl _ _) | (with_reducible refine below_drewN ?_ _) | (with_reducible apply Below.drew) | (refine Below.setCell ?_ (by simp <;> omega) _) | (refine Below.alloc ?_ (by simp <;> omega) _)) : Below wr.heap.size wr _).trans (hb1.mono (by repeat (first | (with_reducible exact Below.refl _ _) | (with_reducible refine below_drewN ?_ _) | (with_reducible apply Below.drew) | (refine Below.setCell ?_ (by simp <;> omega) _) | (refine Below.alloc ?_ (by simp <;> omega) _)) : Below wr.heap.size wr _).size))
              clear hb1
              go_wp2_with fail
              refine (HR.out _ HB1.out).mono ?_
              rintro e w2 ⟨rfl, q, rfl⟩
              go_wp2
              go_roundw
              case rel => exact ⟨k + 1, by omega, by go_num, HP2.out, HBL.out.trans ((below_drewN HB1.out _).mono hsz2)⟩
              case measure => simp [intOf]; omega
          · have fin := Lib.hid (HNO.out (eqEnt_no (fun e => hv e.2.1)))
            have e1 : (x.fValue == y.fValue) = false := beq_eq_false_iff_ne.2 hv
            have e2 : (x.fValue != y.fValue) = true := by rw [bne, e1]; rfl
            clear hq HPS HNO hr HR hv
            generalize x.fAt.fNode = xv0 at *
            generalize y.fAt.fNode = yv0 at *
            generalize x.fAt.fName = xv1 at *
            generalize y.fAt.fName = yv1 at *
            generalize x.fOwner = xv2 at *
            generalize y.fOwner = yv2 at *
            generalize x.fLiteral = xv3 at *
            generalize y.fLiteral = yv3 at *
            generalize x.fRule = xv4 at *
            generalize y.fRule = yv4 at *
            generalize x.fIds.length = xv5 at *
            generalize y.fIds.length = yv5 at *
            generalize x.fShape.length = xv6 at *
            generalize y.fShape.length = yv6 at *
            generalize x.fReads.length = xv7 at *
            generalize y.fReads.length = yv7 at *
            generalize x.fValue = vv at *
            generalize y.fValue = vv2 at *
            go_wp2_with fail
            refine (HC.out _ (by repeat (first | (with_reducible exact Below.refl _ _) | (with_reducible refine below_drewN ?_ _) | (with_reducible apply Below.drew) | (refine Below.setCell ?_ (by simp <;> omega) _) | (refine Below.alloc ?_ (by simp <;> omega) _)) : Below wr.heap.size wr _)).mono ?_
            rintro e w1 ⟨rfl, hb1⟩
            have p2 : w1.cell? ⟨wr.heap.size, 2, none⟩ = some (.int .i64 vv) := (hb1.cell (p := ⟨wr.heap.size, 2, none⟩) (by simp <;> omega)).trans (by go_simp)
            have p8 : w1.cell? ⟨wr.heap.size, 8, none⟩ = some (.slice a8 xv7 c8) := (hb1.cell (p := ⟨wr.heap.size, 8, none⟩) (by simp <;> omega)).trans (by go_simp)
            have q2 : w1.cell? ⟨wr.heap.size + 1, 2, none⟩ = some (.int .i64 vv2) := (hb1.cell (p := ⟨wr.heap.size + 1, 2, none⟩) (by simp <;> omega)).trans (by go_simp)
            have q8 : w1.cell? ⟨wr.heap.size + 1, 8, none⟩ = some (.slice b8 yv7 d8) := (hb1.cell (p := ⟨wr.heap.size + 1, 8, none⟩) (by simp <;> omega)).trans (by go_simp)
            have HB1 := Lib.hid ((by repeat (first | (with_reducible exact Below.refl _ _) | (with_reducible refine below_drewN ?_ _) | (with_reducible apply Below.drew) | (refine Below.setCell ?_ (by simp <;> omega) _) | (refine Below.alloc ?_ (by simp <;> omega) _)) : Below wr.heap.size wr _).trans (hb1.mono (by repeat (first | (with_reducible exact Below.refl _ _) | (with_reducible refine below_drewN ?_ _) | (with_reducible apply Below.drew) | (refine Below.setCell ?_ (by simp <;> omega) _) | (refine Below.alloc ?_ (by simp <;> omega) _)) : Below wr.heap.size wr _).size))
            clear hb1
            go_wp2
            go_ret
            exact ⟨ret_b fin.out.symm, HBW.out.trans (HB1.out.mono HBW.out.size)⟩
      · obtain rfl : k = l.length := by omega
        have fin := Lib.hid (sameR_yes HL.out HE.out)
        go_wp2
        go_ret
        exact ⟨ret_b fin.out.symm, HBW.out⟩
  · have fin := Lib.hid (sameR_len hlen)
    have e0 : ((l.length : Int) == (m.length : Int)) = false := beq_eq_false_iff_ne.2 (by omega)
    have e00 : ((l.length : Int) != (m.length : Int)) = true := by rw [bne, e0]; rfl
    clear hs hs2 hlen
    go_enter Tryz.func32, Tryz.ntmps32
    go_wp2
    go_ret
    exact ⟨ret_b fin.out.symm, HW0.out⟩
end Go.Proofs.YtjhgifpnpkcaoaaGreat
