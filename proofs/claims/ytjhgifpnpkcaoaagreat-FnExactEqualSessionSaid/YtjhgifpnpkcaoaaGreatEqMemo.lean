/-
  EqualMemo, in the model and in the program.
-/
import Derived.Test.YtjhgifpnpkcaoaaGreatSameR
namespace Go.Proofs.YtjhgifpnpkcaoaaGreat
open Go.ChangeShapes Go.WideShapes Go.ChangeAt Go.RowKit Go.Deep

/-- Whether two memos agree. -/
noncomputable def eqM (x y : DMemo) : Bool := by classical exact sameR x.fEntries y.fEntries && decide (x.fEvaluated = y.fEvaluated)
theorem eqM_ev {x y : DMemo} (h : ¬ x.fEvaluated = y.fEvaluated) : eqM x y = false := by classical unfold eqM; rw [decide_eq_false h, Bool.and_false]
theorem eqM_yes {x y : DMemo} (h : x.fEvaluated = y.fEvaluated) : eqM x y = sameR x.fEntries y.fEntries := by classical unfold eqM; rw [decide_eq_true h, Bool.and_true]
theorem eqM_no {x y : DMemo} (h : sameR x.fEntries y.fEntries = false) : eqM x y = false := by classical unfold eqM; rw [h, Bool.false_and]
theorem memo_ev {x : DMemo} (h : x.sz ≤ 1048576) : x.fEvaluated.length ≤ 1048576 := by unfold DMemo.sz lsz at h; omega

set_option maxHeartbeats 3200000 in
set_option maxRecDepth 100000 in
theorem Equal_instances {lo hi lo2 hi2 cap cap2 : Nat} {a a2 : Option Addr} (l m : List DInstance) (hn : l.length ≤ 1048576) (_ : m.length ≤ 1048576) (r : Bool) (hr : r = true ↔ l = m) (w : World) (hs : Sl lo hi w 2 l.length (fun k => DInstance.ct (l.getD k default)) a) (hs2 : Sl lo2 hi2 w 2 m.length (fun k => DInstance.ct (m.getD k default)) a2) :
    Calls Tryz.prog 46 #[.slice a l.length cap, .slice a2 m.length cap2] w fun e w' => e = .returned (.bool r) ∧ ∃ q, w' = w.drewN q := by
  have HNO := Lib.hid (show l ≠ m → r = false from fun h => by cases r <;> simp_all)
  have HYES := Lib.hid (show l = m → r = true from hr.2)
  clear hr
  by_cases hl : l.length = m.length
  · have HS := Lib.hid hs
    have HS2 := Lib.hid hs2
    have HL := Lib.hid hl
    have e0 : ((l.length : Int) == (m.length : Int)) = true := by rw [hl]; exact beq_self_eq_true _
    have e00 : ((l.length : Int) != (m.length : Int)) = false := by rw [bne, e0]; rfl
    clear hs hs2 hl
    go_enter Tryz.func46, Tryz.ntmps46
    go_wp2
    go_loopw [13] (fun i wr => ∃ k : Nat, k ≤ l.length ∧ i = .int .i64 (k : Int) ∧ (∀ jj, jj < k → l.getD jj default = m.getD jj default) ∧ ∃ q, wr = w.drewN q) (fun i _ => l.length - (intOf i).toNat)
    case atStart => exact ⟨0, Nat.zero_le _, rfl, fun _ h => absurd h (Nat.not_lt_zero _), 0, rfl⟩
    case round =>
      obtain ⟨k, hk, rfl, heq, q, rfl⟩ := hrel
      have HE := Lib.hid heq
      clear heq
      by_cases hlt : k < l.length
      · obtain ⟨b, off, rfl, _, _, hc⟩ := HS.out.at k hlt
        have hltm : k < m.length := by rw [← HL.out]; exact hlt
        obtain ⟨b2, off2, rfl, _, _, hcq⟩ := HS2.out.at k hltm
        obtain ⟨d0, d1⟩ := DInstance.open hc
        obtain ⟨f0, f1⟩ := DInstance.open hcq
        clear hc hcq
        have HEX := Lib.hid (show l.getD k default = m.getD k default → ∀ jj, jj < k + 1 → l.getD jj default = m.getD jj default from fun h jj hj => by
          by_cases hjk : jj = k
          · subst hjk; exact h
          · exact HE.out jj (by omega))
        have HNE := Lib.hid (show l.getD k default ≠ m.getD k default → r = false from fun h => HNO.out fun e => h (by rw [e]))
        generalize l.getD k default = x at *
        generalize m.getD k default = y at *
        by_cases g0 : x.fNode = y.fNode
        · skip
          by_cases g1 : x.fName = y.fName
          · skip
            have HPS := Lib.hid (HEX.out (DInstance.ext' g0 g1))
            rw [g0] at d0
            rw [g1] at d1
            clear g0 g1
            go_wp2
            go_quiet (fail)
            go_wp2
            go_roundw
            case rel => exact ⟨k + 1, by omega, by go_num, HPS.out, _, rfl⟩
            case measure => simp [intOf]; omega
          · have FIN := Lib.hid (HNE.out (fun e => g1 (by rw [e])))
            rw [g0] at d0
            clear g0
            have e1 : (x.fName.toList == y.fName.toList) = false := ne_str g1
            clear g1
            generalize x.fName = u1 at *
            generalize y.fName = v1 at *
            go_wp2
            go_quiet (fail)
            go_wp2
            go_ret
            exact ⟨ret_b FIN.out.symm, _, World.drewN_drewN _ _ _⟩
        · have FIN := Lib.hid (HNE.out (fun e => g0 (by rw [e])))
          have e1 : (x.fNode == y.fNode) = false := beq_eq_false_iff_ne.2 g0
          clear g0
          generalize x.fNode = u0 at *
          generalize y.fNode = v0 at *
          generalize x.fName = u1 at *
          generalize y.fName = v1 at *
          go_wp2
          go_quiet (fail)
          go_wp2
          go_ret
          exact ⟨ret_b FIN.out.symm, _, World.drewN_drewN _ _ _⟩
      · obtain rfl : k = l.length := by omega
        have FIN := Lib.hid (HYES.out (DInstance.list_ext HL.out HE.out))
        go_wp2
        go_ret
        exact ⟨ret_b FIN.out.symm, _, rfl⟩
  · have FIN := Lib.hid (HNO.out fun e => hl (by rw [e]))
    have e0 : ((l.length : Int) == (m.length : Int)) = false := beq_eq_false_iff_ne.2 (by omega)
    have e00 : ((l.length : Int) != (m.length : Int)) = true := by rw [bne, e0]; rfl
    clear hs hs2 hl
    go_enter Tryz.func46, Tryz.ntmps46
    go_wp2
    go_ret
    exact ⟨ret_b FIN.out.symm, 0, rfl⟩

set_option maxHeartbeats 3200000 in
set_option maxRecDepth 100000 in
theorem impl_EqualMemo {lo hi : Nat} {a0 a1 b0 b1 : Option Addr} {c0_0 c0_1 c1_0 c1_1 : Nat} (x : DMemo) (hox : x.ok) (hx : x.sz ≤ 1048576) (y : DMemo) (hoy : y.ok) (hy : y.sz ≤ 1048576) (w : World) (hhi : hi ≤ w.heap.size) (hs : Sl lo hi w 9 x.fEntries.length (fun k => DEntry.ct (x.fEntries.getD k default)) a0) (hs1 : Sl lo hi w 2 x.fEvaluated.length (fun k => DInstance.ct (x.fEvaluated.getD k default)) a1) (ht : Sl lo hi w 9 y.fEntries.length (fun k => DEntry.ct (y.fEntries.getD k default)) b0) (ht1 : Sl lo hi w 2 y.fEvaluated.length (fun k => DInstance.ct (y.fEvaluated.getD k default)) b1) :
    Calls Tryz.prog 20 #[.agg #[.slice a0 x.fEntries.length c0_0, .slice a1 x.fEvaluated.length c0_1], .agg #[.slice b0 y.fEntries.length c1_0, .slice b1 y.fEvaluated.length c1_1]] w fun e w' => e = .returned (.bool (eqM x y)) ∧ Below w.heap.size w w' := by
  have HB := Lib.hid (((Below.refl w.heap.size w).alloc (Nat.le_refl _) (.cells #[.slice a0 x.fEntries.length c0_0, .slice a1 x.fEvaluated.length c0_1] 47)).alloc (by simp) (.cells #[.slice b0 y.fEntries.length c1_0, .slice b1 y.fEvaluated.length c1_1] 47))
  have HC := Lib.hid (fun (W : World) (hW : Below w.heap.size w W) => impl_SameResults (c0_0 := c0_0) (c0_1 := c0_1) (c1_0 := c1_0) (c1_1 := c1_1) x hox hx y hoy hy W (Nat.le_trans hhi hW.size) (hs.later hW hhi) (hs1.later hW hhi) (ht.later hW hhi) (ht1.later hW hhi))
  have hev := memo_ev hx
  have hev2 := memo_ev hy
  obtain ⟨r, hr⟩ : ∃ r : Bool, r = true ↔ x.fEvaluated = y.fEvaluated := by classical exact ⟨decide (x.fEvaluated = y.fEvaluated), decide_eq_true_iff⟩
  have HR := Lib.hid (fun (W : World) (hW : Below w.heap.size w W) => Equal_instances (cap := c0_1) (cap2 := c1_1) x.fEvaluated y.fEvaluated hev hev2 r hr W (hs1.later hW hhi) (ht1.later hW hhi))
  have HE := Lib.hid (@eqM_ev x y)
  have HY := Lib.hid (@eqM_yes x y)
  have HN := Lib.hid (@eqM_no x y)
  clear hs hs1 ht ht1 hx hy hox hoy hev hev2
  generalize eqM x y = res at *
  cases hq : sameR x.fEntries y.fEntries
  · have fin := Lib.hid (HN.out hq)
    rw [hq] at HC
    clear hq HE HY HN HR hr
    generalize x.fEntries.length = n1 at *
    generalize y.fEntries.length = n2 at *
    generalize x.fEvaluated.length = n3 at *
    generalize y.fEvaluated.length = n4 at *
    go_enter Tryz.func20, Tryz.ntmps20
    go_wp2_with fail
    refine (HC.out _ HB.out).mono ?_
    rintro e w1 ⟨rfl, hb1⟩
    have HB1 := Lib.hid (HB.out.trans (hb1.mono HB.out.size))
    clear hb1
    go_wp2
    go_ret
    exact ⟨ret_b fin.out.symm, HB1.out⟩
  · have fin := Lib.hid (show r = res by
      cases r
      · exact (HE.out (fun e => by have := hr.2 e; cases this)).symm
      · exact ((HY.out (hr.1 rfl)).trans hq).symm)
    rw [hq] at HC
    clear hq HE HY HN hr
    generalize x.fEntries.length = n1 at *
    generalize y.fEntries.length = n2 at *
    generalize x.fEvaluated.length = n3 at *
    generalize y.fEvaluated.length = n4 at *
    go_enter Tryz.func20, Tryz.ntmps20
    go_wp2_with fail
    refine (HC.out _ HB.out).mono ?_
    rintro e w1 ⟨rfl, hb1⟩
    have p1 : w1.cell? ⟨w.heap.size, 1, none⟩ = some (.slice a1 n3 c0_1) := (hb1.cell (p := ⟨w.heap.size, 1, none⟩) (by simp <;> omega)).trans (by go_simp)
    have q1 : w1.cell? ⟨w.heap.size + 1, 1, none⟩ = some (.slice b1 n4 c1_1) := (hb1.cell (p := ⟨w.heap.size + 1, 1, none⟩) (by simp <;> omega)).trans (by go_simp)
    have HB1 := Lib.hid (HB.out.trans (hb1.mono HB.out.size))
    clear hb1
    go_wp2_with fail
    refine (HR.out _ HB1.out).mono ?_
    rintro e w2 ⟨rfl, q, rfl⟩
    go_wp2
    go_ret
    exact ⟨ret_b fin.out, below_drewN HB1.out _⟩

set_option maxHeartbeats 3200000 in
set_option maxRecDepth 100000 in
theorem spec_EqualMemo {lo hi : Nat} {a0 a1 b0 b1 : Option Addr} {c0_0 c0_1 c1_0 c1_1 : Nat} (x : DMemo) (hox : x.ok) (hx : x.sz ≤ 1048576) (y : DMemo) (hoy : y.ok) (hy : y.sz ≤ 1048576) (w : World) (hhi : hi ≤ w.heap.size) (hs : Sl lo hi w 9 x.fEntries.length (fun k => DEntry.ct (x.fEntries.getD k default)) a0) (hs1 : Sl lo hi w 2 x.fEvaluated.length (fun k => DInstance.ct (x.fEvaluated.getD k default)) a1) (ht : Sl lo hi w 9 y.fEntries.length (fun k => DEntry.ct (y.fEntries.getD k default)) b0) (ht1 : Sl lo hi w 2 y.fEvaluated.length (fun k => DInstance.ct (y.fEvaluated.getD k default)) b1) :
    Calls Tryz.prog 14 #[.agg #[.slice a0 x.fEntries.length c0_0, .slice a1 x.fEvaluated.length c0_1], .agg #[.slice b0 y.fEntries.length c1_0, .slice b1 y.fEvaluated.length c1_1]] w fun e w' => e = .returned (.bool (eqM x y)) ∧ Below w.heap.size w w' := by
  have HB := Lib.hid (((Below.refl w.heap.size w).alloc (Nat.le_refl _) (.cells #[.slice a0 x.fEntries.length c0_0, .slice a1 x.fEvaluated.length c0_1] 47)).alloc (by simp) (.cells #[.slice b0 y.fEntries.length c1_0, .slice b1 y.fEvaluated.length c1_1] 47))
  have HC := Lib.hid (fun (W : World) (hW : Below w.heap.size w W) => spec_SameResults (c0_0 := c0_0) (c0_1 := c0_1) (c1_0 := c1_0) (c1_1 := c1_1) x hox hx y hoy hy W (Nat.le_trans hhi hW.size) (hs.later hW hhi) (hs1.later hW hhi) (ht.later hW hhi) (ht1.later hW hhi))
  have hev := memo_ev hx
  have hev2 := memo_ev hy
  have HE := Lib.hid (@eqM_ev x y)
  have HY := Lib.hid (@eqM_yes x y)
  have HS := Lib.hid (hs1.later HB.out hhi)
  have HS2 := Lib.hid (ht1.later HB.out hhi)
  clear hs hs1 ht ht1 hx hy hox hoy
  generalize eqM x y = res at *
  generalize sameR x.fEntries y.fEntries = rs at *
  generalize x.fEntries.length = n1 at *
  generalize y.fEntries.length = n2 at *
  generalize x.fEvaluated = l at *
  generalize y.fEvaluated = m at *
  by_cases hl : l.length = m.length
  · have HL := Lib.hid hl
    have e0 : ((l.length : Int) == (m.length : Int)) = true := by rw [hl]; exact beq_self_eq_true _
    have e00 : ((l.length : Int) != (m.length : Int)) = false := by rw [bne, e0]; rfl
    clear hl
    go_enter Tryz.func14, Tryz.ntmps14
    go_wp2
    go_loopw [5] (fun i wr => ∃ k : Nat, k ≤ l.length ∧ i = .int .i64 (k : Int) ∧ (∀ jj, jj < k → l.getD jj default = m.getD jj default) ∧ ∃ q, wr = ((w.alloc (.cells #[.slice a0 n1 c0_0, .slice a1 l.length c0_1] 47)).alloc (.cells #[.slice b0 n2 c1_0, .slice b1 m.length c1_1] 47)).drewN q) (fun i _ => l.length - (intOf i).toNat)
    case atStart => exact ⟨0, Nat.zero_le _, rfl, fun _ h => absurd h (Nat.not_lt_zero _), 0, rfl⟩
    case round =>
      obtain ⟨k, hk, rfl, heq, q, rfl⟩ := hrel
      have HE1 := Lib.hid heq
      clear heq
      by_cases hlt : k < l.length
      · obtain ⟨b, off, rfl, _, _, hc⟩ := HS.out.at k hlt
        have hltm : k < m.length := by rw [← HL.out]; exact hlt
        obtain ⟨b2, off2, rfl, _, _, hcq⟩ := HS2.out.at k hltm
        obtain ⟨d0, d1⟩ := DInstance.open hc
        obtain ⟨f0, f1⟩ := DInstance.open hcq
        clear hc hcq
        have HEX := Lib.hid (show l.getD k default = m.getD k default → ∀ jj, jj < k + 1 → l.getD jj default = m.getD jj default from fun h jj hj => by
          by_cases hjk : jj = k
          · subst hjk; exact h
          · exact HE1.out jj (by omega))
        have HNE := Lib.hid (show l.getD k default ≠ m.getD k default → res = false from fun h => HE.out fun e => h (by rw [e]))
        generalize l.getD k default = x at *
        generalize m.getD k default = y at *
        by_cases g0 : x.fNode = y.fNode
        · skip
          by_cases g1 : x.fName = y.fName
          · skip
            have HPS := Lib.hid (HEX.out (DInstance.ext' g0 g1))
            rw [g0] at d0
            rw [g1] at d1
            clear g0 g1
            go_wp2
            go_quiet (fail)
            go_wp2
            go_roundw
            case rel => exact ⟨k + 1, by omega, by go_num, HPS.out, _, rfl⟩
            case measure => simp [intOf]; omega
          · have FIN := Lib.hid (HNE.out (fun e => g1 (by rw [e])))
            rw [g0] at d0
            clear g0
            have e1 : (x.fName.toList == y.fName.toList) = false := ne_str g1
            clear g1
            generalize x.fName = u1 at *
            generalize y.fName = v1 at *
            go_wp2
            go_quiet (fail)
            go_wp2
            go_ret
            exact ⟨ret_b FIN.out.symm, below_drewN (below_drewN HB.out _) _⟩
        · have FIN := Lib.hid (HNE.out (fun e => g0 (by rw [e])))
          have e1 : (x.fNode == y.fNode) = false := beq_eq_false_iff_ne.2 g0
          clear g0
          generalize x.fNode = u0 at *
          generalize y.fNode = v0 at *
          generalize x.fName = u1 at *
          generalize y.fName = v1 at *
          go_wp2
          go_quiet (fail)
          go_wp2
          go_ret
          exact ⟨ret_b FIN.out.symm, below_drewN (below_drewN HB.out _) _⟩
      · obtain rfl : k = l.length := by omega
        have FIN := Lib.hid (HY.out (DInstance.list_ext HL.out HE1.out))
        go_wp2_with fail
        refine (HC.out _ (by repeat (first | (with_reducible exact HB.out) | (with_reducible refine below_drewN ?_ _)) : Below w.heap.size w _)).mono ?_
        rintro e w1 ⟨rfl, hb1⟩
        have HB1 := Lib.hid ((below_drewN HB.out _).trans (hb1.mono (below_drewN HB.out _).size))
        clear hb1
        go_wp2
        go_ret
        exact ⟨ret_b FIN.out.symm, HB1.out⟩
  · have FIN := Lib.hid (HE.out fun e => hl (by rw [e]))
    have e0 : ((l.length : Int) == (m.length : Int)) = false := beq_eq_false_iff_ne.2 (by omega)
    have e00 : ((l.length : Int) != (m.length : Int)) = true := by rw [bne, e0]; rfl
    clear hl
    go_enter Tryz.func14, Tryz.ntmps14
    go_wp2
    go_ret
    exact ⟨ret_b FIN.out.symm, HB.out⟩
end Go.Proofs.YtjhgifpnpkcaoaaGreat
