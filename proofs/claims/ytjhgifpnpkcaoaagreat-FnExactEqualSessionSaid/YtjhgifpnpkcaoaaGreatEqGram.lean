/-
  Lists of attributes, symbols and rules compared, in the model and in the program.
-/
import Derived.Test.YtjhgifpnpkcaoaaGreatTGrammar
import Derived.Test.YtjhgifpnpkcaoaaGreatEqRule3
namespace Go.Proofs.YtjhgifpnpkcaoaaGreat
open Go.ChangeShapes Go.WideShapes Go.ChangeAt Go.RowKit Go.Deep

theorem DAttribute.ext' {x y : DAttribute} (h0 : x.fName = y.fName) (h1 : x.fType = y.fType) (h2 : x.fMode = y.fMode) (h3 : x.fCircular = y.fCircular) : x = y := by
  cases x; cases y
  simp only at *
  subst h0 h1 h2 h3
  rfl
theorem DAttribute.list_ext {l m : List DAttribute} (hl : l.length = m.length) (h : ∀ k, k < l.length → l.getD k default = m.getD k default) : l = m := by
  refine List.ext_getElem hl fun k hk hk' => ?_
  have := h k hk
  rw [List.getD_eq_getElem?_getD, List.getElem?_eq_getElem hk, List.getD_eq_getElem?_getD, List.getElem?_eq_getElem hk'] at this
  exact this
noncomputable def eqA (x y : DAttribute) : Bool := by classical exact decide (x = y)
theorem eqA_iff {x y : DAttribute} : eqA x y = true ↔ x = y := by classical unfold eqA; exact decide_eq_true_iff
theorem eqA_no {x y : DAttribute} (h : x ≠ y) : eqA x y = false := by classical unfold eqA; exact decide_eq_false h
theorem allA_iff {l m : List DAttribute} : allEq eqA l m = true ↔ l = m := by
  constructor
  · intro h
    have h2 : l.length = m.length ∧ ∀ k, k < l.length → eqA (l.getD k default) (m.getD k default) = true := by classical unfold allEq at h; exact of_decide_eq_true h
    exact DAttribute.list_ext h2.1 fun k hk => eqA_iff.1 (h2.2 k hk)
  · rintro rfl
    exact allEq_yes rfl fun k hk => eqA_iff.2 rfl
def CondS (x y : DSymbol) : Prop := x.fName = y.fName ∧ allEq eqA x.fAttributes y.fAttributes = true
noncomputable def eqSy (x y : DSymbol) : Bool := by classical exact decide (CondS x y)
theorem eqSy_no {x y : DSymbol} (h : ¬ CondS x y) : eqSy x y = false := by classical unfold eqSy; exact decide_eq_false h
theorem eqSy_last {x y : DSymbol} (h0 : x.fName = y.fName) : eqSy x y = allEq eqA x.fAttributes y.fAttributes := by
  classical
  cases h : allEq eqA x.fAttributes y.fAttributes
  · exact eqSy_no fun e => by have e9 := e.2; rw [h] at e9; cases e9
  · unfold eqSy; exact decide_eq_true ⟨h0, h⟩

set_option maxHeartbeats 3200000 in
set_option maxRecDepth 100000 in
theorem spec_l10Attributes {lo hi lo2 hi2 cap cap2 : Nat} {a a2 : Option Addr} (l m : List DAttribute) (hn : l.length ≤ 1048576) (_ : m.length ≤ 1048576) (r : Bool) (hr : r = true ↔ l = m) (w : World) (hs : Sl lo hi w 4 l.length (fun k => DAttribute.ct (l.getD k default)) a) (hs2 : Sl lo2 hi2 w 4 m.length (fun k => DAttribute.ct (m.getD k default)) a2) :
    Calls Tryz.prog 29 #[.slice a l.length cap, .slice a2 m.length cap2] w fun e w' => e = .returned (.bool r) ∧ ∃ q, w' = w.drewN q := by
  have HNO := Lib.hid (show l ≠ m → r = false from fun h => by cases r <;> simp_all)
  have HYES := Lib.hid (show l = m → r = true from hr.2)
  clear hr
  by_cases hl : l.length = m.length
  · have HS := Lib.hid hs
    have HS2 := Lib.hid hs2
    have HL := Lib.hid hl
    have e0 : ((l.length : Int) == (m.length : Int)) = true := by rw [hl]; exact beq_self_eq_true _
    have e00 : ((l.length : Int) != (m.length : Int)) = false := by rw [bne, e0]; rfl
    clear hs hs2 hl
    go_enter Tryz.func29, Tryz.ntmps29
    go_wp2
    go_loopw [5] (fun i wr => ∃ k : Nat, k ≤ l.length ∧ i = .int .i64 (k : Int) ∧ (∀ jj, jj < k → l.getD jj default = m.getD jj default) ∧ ∃ q, wr = w.drewN q) (fun i _ => l.length - (intOf i).toNat)
    case atStart => exact ⟨0, Nat.zero_le _, rfl, fun _ h => absurd h (Nat.not_lt_zero _), 0, rfl⟩
    case round =>
      obtain ⟨k, hk, rfl, heq, q, rfl⟩ := hrel
      have HE := Lib.hid heq
      clear heq
      by_cases hlt : k < l.length
      · obtain ⟨b, off, rfl, _, _, hc⟩ := HS.out.at k hlt
        have hltm : k < m.length := by rw [← HL.out]; exact hlt
        obtain ⟨b2, off2, rfl, _, _, hcq⟩ := HS2.out.at k hltm
        obtain ⟨d0, d1, d2, d3⟩ := DAttribute.open hc
        obtain ⟨f0, f1, f2, f3⟩ := DAttribute.open hcq
        clear hc hcq
        have HEX := Lib.hid (show l.getD k default = m.getD k default → ∀ jj, jj < k + 1 → l.getD jj default = m.getD jj default from fun h jj hj => by
          by_cases hjk : jj = k
          · subst hjk; exact h
          · exact HE.out jj (by omega))
        have HNE := Lib.hid (show l.getD k default ≠ m.getD k default → r = false from fun h => HNO.out fun e => h (by rw [e]))
        generalize l.getD k default = x at *
        generalize m.getD k default = y at *
        by_cases g0 : x.fName = y.fName
        · skip
          by_cases g1 : x.fType = y.fType
          · skip
            by_cases g2 : x.fMode = y.fMode
            · skip
              by_cases g3 : x.fCircular = y.fCircular
              · skip
                have HPS := Lib.hid (HEX.out (DAttribute.ext' g0 g1 g2 g3))
                rw [g0] at d0
                rw [g1] at d1
                rw [g2] at d2
                rw [g3] at d3
                clear g0 g1 g2 g3
                go_wp2
                go_quiet (fail)
                go_wp2
                go_roundw
                case rel => exact ⟨k + 1, by omega, by go_num, HPS.out, _, rfl⟩
                case measure => simp [intOf]; omega
              · have FIN := Lib.hid (HNE.out (fun e => g3 (by rw [e])))
                rw [g0] at d0
                rw [g1] at d1
                rw [g2] at d2
                clear g0 g1 g2
                have e1 : (x.fCircular == y.fCircular) = false := beq_eq_false_iff_ne.2 g3
                clear g3
                generalize x.fCircular = u3 at *
                generalize y.fCircular = v3 at *
                go_wp2
                go_quiet (fail)
                go_wp2
                go_ret
                exact ⟨ret_b FIN.out.symm, _, World.drewN_drewN _ _ _⟩
            · have FIN := Lib.hid (HNE.out (fun e => g2 (by rw [e])))
              rw [g0] at d0
              rw [g1] at d1
              clear g0 g1
              have e1 : (x.fMode == y.fMode) = false := beq_eq_false_iff_ne.2 g2
              clear g2
              generalize x.fMode = u2 at *
              generalize y.fMode = v2 at *
              generalize x.fCircular = u3 at *
              generalize y.fCircular = v3 at *
              go_wp2
              go_quiet (fail)
              go_wp2
              go_ret
              exact ⟨ret_b FIN.out.symm, _, World.drewN_drewN _ _ _⟩
          · have FIN := Lib.hid (HNE.out (fun e => g1 (by rw [e])))
            rw [g0] at d0
            clear g0
            have e1 : (x.fType == y.fType) = false := beq_eq_false_iff_ne.2 g1
            clear g1
            generalize x.fType = u1 at *
            generalize y.fType = v1 at *
            generalize x.fMode = u2 at *
            generalize y.fMode = v2 at *
            generalize x.fCircular = u3 at *
            generalize y.fCircular = v3 at *
            go_wp2
            go_quiet (fail)
            go_wp2
            go_ret
            exact ⟨ret_b FIN.out.symm, _, World.drewN_drewN _ _ _⟩
        · have FIN := Lib.hid (HNE.out (fun e => g0 (by rw [e])))
          have e1 : (x.fName.toList == y.fName.toList) = false := ne_str g0
          clear g0
          generalize x.fName = u0 at *
          generalize y.fName = v0 at *
          generalize x.fType = u1 at *
          generalize y.fType = v1 at *
          generalize x.fMode = u2 at *
          generalize y.fMode = v2 at *
          generalize x.fCircular = u3 at *
          generalize y.fCircular = v3 at *
          go_wp2
          go_quiet (fail)
          go_wp2
          go_ret
          exact ⟨ret_b FIN.out.symm, _, World.drewN_drewN _ _ _⟩
      · obtain rfl : k = l.length := by omega
        have FIN := Lib.hid (HYES.out (DAttribute.list_ext HL.out HE.out))
        go_wp2
        go_ret
        exact ⟨ret_b FIN.out.symm, _, rfl⟩
  · have FIN := Lib.hid (HNO.out fun e => hl (by rw [e]))
    have e0 : ((l.length : Int) == (m.length : Int)) = false := beq_eq_false_iff_ne.2 (by omega)
    have e00 : ((l.length : Int) != (m.length : Int)) = true := by rw [bne, e0]; rfl
    clear hs hs2 hl
    go_enter Tryz.func29, Tryz.ntmps29
    go_wp2
    go_ret
    exact ⟨ret_b FIN.out.symm, 0, rfl⟩

set_option maxHeartbeats 3200000 in
set_option maxRecDepth 100000 in
theorem impl_equalAttribute (x y : DAttribute) (w : World) :
    Calls Tryz.prog 68 #[.agg #[.string x.fName, .int .i64 x.fType, .int .i64 x.fMode, .bool x.fCircular], .agg #[.string y.fName, .int .i64 y.fType, .int .i64 y.fMode, .bool y.fCircular]] w fun e w' => e = .returned (.bool (eqA x y)) ∧ Below w.heap.size w w' := by
  have HB := Lib.hid (((Below.refl w.heap.size w).alloc (Nat.le_refl _) (.cells #[.string x.fName, .int .i64 x.fType, .int .i64 x.fMode, .bool x.fCircular] 117)).alloc (by simp) (.cells #[.string y.fName, .int .i64 y.fType, .int .i64 y.fMode, .bool y.fCircular] 117))
  have hno := @eqA_no x y
  have hyes := (@eqA_iff x y).2
  have hext := @DAttribute.ext' x y
  generalize eqA x y = res at *
  have HNO := Lib.hid (fun (h : ¬ (x.fName = y.fName ∧ x.fType = y.fType ∧ x.fMode = y.fMode ∧ x.fCircular = y.fCircular)) => hno (fun e => h (by rw [e]; exact ⟨rfl, rfl, rfl, rfl⟩)))
  have HYES := Lib.hid (fun (h : x.fName = y.fName ∧ x.fType = y.fType ∧ x.fMode = y.fMode ∧ x.fCircular = y.fCircular) => hyes (hext h.1 h.2.1 h.2.2.1 h.2.2.2))
  clear hno hyes hext
  generalize x.fName = p1 at *
  generalize y.fName = q1 at *
  generalize x.fType = p2 at *
  generalize y.fType = q2 at *
  generalize x.fMode = p3 at *
  generalize y.fMode = q3 at *
  generalize x.fCircular = p4 at *
  generalize y.fCircular = q4 at *
  by_cases h1 : p1 = q1
  rotate_left
  · have fin := Lib.hid (HNO.out (fun e => h1 e.1))
    have e1 : (p1.toList == q1.toList) = false := ne_str h1
    clear h1 HNO HYES
    go_enter Tryz.func68, Tryz.ntmps68
    go_wp2
    go_ret
    exact ⟨ret_b fin.out.symm, HB.out⟩
  subst h1
  by_cases h2 : p2 = q2
  rotate_left
  · have fin := Lib.hid (HNO.out (fun e => h2 e.2.1))
    have e1 : (p2 == q2) = false := beq_eq_false_iff_ne.2 h2
    clear h2 HNO HYES
    go_enter Tryz.func68, Tryz.ntmps68
    go_wp2
    go_ret
    exact ⟨ret_b fin.out.symm, HB.out⟩
  subst h2
  by_cases h3 : p3 = q3
  rotate_left
  · have fin := Lib.hid (HNO.out (fun e => h3 e.2.2.1))
    have e1 : (p3 == q3) = false := beq_eq_false_iff_ne.2 h3
    clear h3 HNO HYES
    go_enter Tryz.func68, Tryz.ntmps68
    go_wp2
    go_ret
    exact ⟨ret_b fin.out.symm, HB.out⟩
  subst h3
  by_cases h4 : p4 = q4
  rotate_left
  · have fin := Lib.hid (HNO.out (fun e => h4 e.2.2.2))
    have e1 : (p4 == q4) = false := beq_eq_false_iff_ne.2 h4
    clear h4 HNO HYES
    go_enter Tryz.func68, Tryz.ntmps68
    go_wp2
    go_ret
    exact ⟨ret_b fin.out.symm, HB.out⟩
  subst h4
  have fin := Lib.hid (HYES.out ⟨rfl, rfl, rfl, rfl⟩)
  have e1 : (p4 == p4) = true := beq_self_eq_true _
  clear HNO HYES
  go_enter Tryz.func68, Tryz.ntmps68
  go_wp2
  go_ret
  exact ⟨ret_b fin.out.symm, HB.out⟩

set_option maxHeartbeats 3200000 in
set_option maxRecDepth 100000 in
theorem EqualFunc_attributes {lo hi cap cap2 : Nat} {a a2 : Option Addr} (l m : List DAttribute) (hol : okL DAttribute.ok l) (hom : okL DAttribute.ok m) (hl : lsz DAttribute.sz l ≤ 1048576) (hm : lsz DAttribute.sz m ≤ 1048576) (w : World) (hhi : hi ≤ w.heap.size) (hs : Sl lo hi w 4 l.length (fun k => DAttribute.ct (l.getD k default)) a) (hs2 : Sl lo hi w 4 m.length (fun k => DAttribute.ct (m.getD k default)) a2) :
    Calls Tryz.prog 67 #[.slice a l.length cap, .slice a2 m.length cap2, .func (.func 68) #[] #[]] w fun e w' => e = .returned (.bool (allEq eqA l m)) ∧ Below w.heap.size w w' := by
  have hn : l.length ≤ 1048576 := by unfold lsz at hl; omega
  have hn2 : m.length ≤ 1048576 := by unfold lsz at hm; omega
  have HW0 := Lib.hid (Below.refl w.heap.size w)
  by_cases hlen : l.length = m.length
  · have HS := Lib.hid hs
    have HS2 := Lib.hid hs2
    have HL := Lib.hid hlen
    have HSZ := Lib.hid (fun k (hk : k < l.length) => Nat.le_trans (szle_at (f := DAttribute.sz) l k hk) hl)
    have HSZ2 := Lib.hid (fun k (hk : k < m.length) => Nat.le_trans (szle_at (f := DAttribute.sz) m k hk) hm)
    have OKX := Lib.hid (fun k (hk : k < l.length) => hol.at hk)
    have OKY := Lib.hid (fun k (hk : k < m.length) => hom.at hk)
    have e0 : ((l.length : Int) == (m.length : Int)) = true := by rw [hlen]; exact beq_self_eq_true _
    have e00 : ((l.length : Int) != (m.length : Int)) = false := by rw [bne, e0]; rfl
    clear hs hs2 hlen hl hm hol hom
    go_enter Tryz.func67, Tryz.ntmps67
    go_wp2
    go_loopw [17] (fun i wr => ∃ k : Nat, k ≤ l.length ∧ i = .int .i64 (k : Int) ∧ (∀ jj, jj < k → eqA (l.getD jj default) (m.getD jj default) = true) ∧ Below w.heap.size w wr) (fun i _ => l.length - (intOf i).toNat)
    case atStart => exact ⟨0, Nat.zero_le _, rfl, fun _ h => absurd h (Nat.not_lt_zero _), Below.refl _ _⟩
    case round =>
      obtain ⟨k, hk, rfl, heq, hbl⟩ := hrel
      have HE := Lib.hid heq
      have HBW := Lib.hid hbl
      clear heq hbl
      by_cases hlt : k < l.length
      · have hltm : k < m.length := by rw [← HL.out]; exact hlt
        obtain ⟨b, off, rfl, _, hb_, hc⟩ := (HS.out.later (HBW.out.mono hhi) (Nat.le_refl _)).at k hlt
        obtain ⟨b2, off2, rfl, _, hb2_, hcq⟩ := (HS2.out.later (HBW.out.mono hhi) (Nat.le_refl _)).at k hltm
        obtain ⟨h0, h1, h2, h3⟩ := DAttribute.open hc
        obtain ⟨g0, g1, g2, g3⟩ := DAttribute.open hcq
        have bl2 : b2 < wr.heap.size := Nat.lt_of_lt_of_le hb2_ (Nat.le_trans hhi HBW.out.size)
        have hr1 : wr.rangeAt b (off + k * 4) [.string (l.getD k default).fName, .int .i64 (l.getD k default).fType, .int .i64 (l.getD k default).fMode, .bool (l.getD k default).fCircular] := (rangeAt_cons h0 (rangeAt_cons h1 (rangeAt_cons h2 (rangeAt_cons h3 rangeAt_nil))))
        have hr2 : wr.rangeAt b2 (off2 + k * 4) [.string (m.getD k default).fName, .int .i64 (m.getD k default).fType, .int .i64 (m.getD k default).fMode, .bool (m.getD k default).fCircular] := (rangeAt_cons g0 (rangeAt_cons g1 (rangeAt_cons g2 (rangeAt_cons g3 rangeAt_nil))))
        have HC := Lib.hid (fun (W : World) (hW : Below wr.heap.size wr W) => impl_equalAttribute (l.getD k default) (m.getD k default) W)
        clear hc hcq  h0 g0 h1 g1 h2 g2 h3 g3
        have HPS := Lib.hid (show eqA (l.getD k default) (m.getD k default) = true → ∀ jj, jj < k + 1 → eqA (l.getD jj default) (m.getD jj default) = true from fun h1 jj hj => by
          rcases Nat.lt_succ_iff_lt_or_eq.1 hj with h | h
          · exact HE.out jj h
          · rw [h]; exact h1)
        have HNO := Lib.hid (fun h => allEq_no (f := eqA) (m := m) hlt h)
        have HSX : Hid ((Tryz.prog.info? 117).map (·.size) = some ([.string (l.getD k default).fName, .int .i64 (l.getD k default).fType, .int .i64 (l.getD k default).fMode, .bool (l.getD k default).fCircular] : List Value).length) := Lib.hid (by kernel_rfl)
        have HSY : Hid ((Tryz.prog.info? 117).map (·.size) = some ([.string (m.getD k default).fName, .int .i64 (m.getD k default).fType, .int .i64 (m.getD k default).fMode, .bool (m.getD k default).fCircular] : List Value).length) := Lib.hid (by kernel_rfl)
        have HOX : Hid (([.string (l.getD k default).fName, .int .i64 (l.getD k default).fType, .int .i64 (l.getD k default).fMode, .bool (l.getD k default).fCircular] : List Value).toArray.all (·.oneCell') = true) := Lib.hid (by simp [Value.oneCell'])
        have HOY : Hid (([.string (m.getD k default).fName, .int .i64 (m.getD k default).fType, .int .i64 (m.getD k default).fMode, .bool (m.getD k default).fCircular] : List Value).toArray.all (·.oneCell') = true) := Lib.hid (by simp [Value.oneCell'])
        have HZX : Hid (([.string (l.getD k default).fName, .int .i64 (l.getD k default).fType, .int .i64 (l.getD k default).fMode, .bool (l.getD k default).fCircular] : List Value).length = 4) := Lib.hid rfl
        have HZY : Hid (([.string (m.getD k default).fName, .int .i64 (m.getD k default).fType, .int .i64 (m.getD k default).fMode, .bool (m.getD k default).fCircular] : List Value).length = 4) := Lib.hid rfl
        generalize ([.string (l.getD k default).fName, .int .i64 (l.getD k default).fType, .int .i64 (l.getD k default).fMode, .bool (l.getD k default).fCircular] : List Value) = X at *
        generalize ([.string (m.getD k default).fName, .int .i64 (m.getD k default).fType, .int .i64 (m.getD k default).fMode, .bool (m.getD k default).fCircular] : List Value) = Y at *
        generalize eqA (l.getD k default) (m.getD k default) = qq at *
        have hr2' : ∀ o, (wr.alloc o).rangeAt b2 (off2 + k * 4) Y := fun o j v hv => (((Below.refl wr.heap.size wr).alloc (Nat.le_refl _) o).cell (p := ⟨b2, off2 + k * 4 + j, none⟩) bl2).trans (hr2 j v hv)
        clear hr2
        have HBC := Lib.hid (((Below.refl wr.heap.size wr).alloc (Nat.le_refl _) (.cells X.toArray 117)).alloc (by simp) (.cells Y.toArray 117))
        have hg1 : ((wr.alloc (.cells X.toArray 117)).alloc (.cells Y.toArray 117)).heap[wr.heap.size]? = some (.cells X.toArray 117) := blk_alloc (by simp) (heap_alloc_last _ _)
        have hg2 : ((wr.alloc (.cells X.toArray 117)).alloc (.cells Y.toArray 117)).heap[wr.heap.size + 1]? = some (.cells Y.toArray 117) := blk_new (by simp)
        have HG1 := Lib.hid hg1
        have HG2 := Lib.hid hg2
        clear hg1 hg2
        go_wp2_with (first
          | (refine wpList_load_mid rfl 117 (.tmp 20) rfl b (off + k * 4) rfl X _ hr1 Tryz.underlying117 rfl HSX.out ?_)
          | (refine wpList_store_rowTo rfl 117 (.tmp 8) (.tmp 21) rfl rfl wr.heap.size X.toArray rfl rfl 117 _ (heap_alloc_last wr _) HSX.out HZX.out.symm HOX.out ?_; rw [World.setRow_alloc_new])
          | (refine wpList_load_mid rfl 117 (.tmp 24) rfl b2 (off2 + k * 4) rfl Y _ (hr2' _) Tryz.underlying117 rfl HSY.out ?_)
          | (refine wpList_store_rowTo rfl 117 (.tmp 9) (.tmp 25) rfl rfl (wr.heap.size + 1) Y.toArray rfl rfl 117 _ (blk_new (by simp)) HSY.out HZY.out.symm HOY.out ?_; rw [setRow_new (by simp)])
          | (refine wpList_load_row rfl 117 (.tmp 8) rfl wr.heap.size rfl 117 X.toArray _ _ HG1.out Tryz.underlying117 rfl HSX.out ?_)
          | (refine wpList_load_row rfl 117 (.tmp 9) rfl (wr.heap.size + 1) rfl 117 Y.toArray _ _ HG2.out Tryz.underlying117 rfl HSY.out ?_))
        refine (HC.out _ HBC.out).mono ?_
        rintro e w1 ⟨rfl, hb1⟩
        have HB1 := Lib.hid (HBC.out.trans (hb1.mono HBC.out.size))
        clear hb1 HC
        cases qq
        · have fin := Lib.hid (HNO.out rfl)
          clear HPS HNO
          go_wp2
          go_ret
          exact ⟨ret_b fin.out.symm, HBW.out.trans (HB1.out.mono HBW.out.size)⟩
        · have HP2 := Lib.hid (HPS.out rfl)
          clear HPS HNO
          go_wp2
          go_roundw
          case rel => exact ⟨k + 1, by omega, by go_num, HP2.out, HBW.out.trans (HB1.out.mono HBW.out.size)⟩
          case measure => simp [intOf]; omega
      · obtain rfl : k = l.length := by omega
        have fin := Lib.hid (allEq_yes HL.out HE.out)
        go_wp2
        go_ret
        exact ⟨ret_b fin.out.symm, HBW.out⟩
  · have fin := Lib.hid (allEq_len (f := eqA) hlen)
    have e0 : ((l.length : Int) == (m.length : Int)) = false := beq_eq_false_iff_ne.2 (by omega)
    have e00 : ((l.length : Int) != (m.length : Int)) = true := by rw [bne, e0]; rfl
    clear hs hs2 hlen
    go_enter Tryz.func67, Tryz.ntmps67
    go_wp2
    go_ret
    exact ⟨ret_b fin.out.symm, HW0.out⟩

set_option maxHeartbeats 3200000 in
set_option maxRecDepth 100000 in
theorem impl_equalSymbol {lo hi : Nat} {a1 b1 : Option Addr} {c1 d1 : Nat} (x y : DSymbol) (hox : x.ok) (hoy : y.ok) (hx : x.sz ≤ 1048576) (hy : y.sz ≤ 1048576) (w : World) (hhi : hi ≤ w.heap.size) (hs : Sl lo hi w 4 x.fAttributes.length (fun k => DAttribute.ct (x.fAttributes.getD k default)) a1) (ht : Sl lo hi w 4 y.fAttributes.length (fun k => DAttribute.ct (y.fAttributes.getD k default)) b1) :
    Calls Tryz.prog 39 #[.agg #[.string x.fName, .slice a1 x.fAttributes.length c1], .agg #[.string y.fName, .slice b1 y.fAttributes.length d1]] w fun e w' => e = .returned (.bool (eqSy x y)) ∧ Below w.heap.size w w' := by
  have HB := Lib.hid (((Below.refl w.heap.size w).alloc (Nat.le_refl _) (.cells #[.string x.fName, .slice a1 x.fAttributes.length c1] 68)).alloc (by simp) (.cells #[.string y.fName, .slice b1 y.fAttributes.length d1] 68))
  have zx : lsz DAttribute.sz x.fAttributes ≤ 1048576 := by unfold DSymbol.sz at hx; omega
  have zy : lsz DAttribute.sz y.fAttributes ≤ 1048576 := by unfold DSymbol.sz at hy; omega
  have HC := Lib.hid (fun (W : World) (hW : Below w.heap.size w W) => EqualFunc_attributes (cap := c1) (cap2 := d1) x.fAttributes y.fAttributes hox.2 hoy.2 zx zy W (Nat.le_trans hhi hW.size) (hs.later hW hhi) (ht.later hW hhi))
  have hno := @eqSy_no x y
  have hlast := @eqSy_last x y
  unfold CondS at hno
  clear hs ht hx hy hox hoy zx zy
  generalize eqSy x y = res at *
  generalize allEq eqA x.fAttributes y.fAttributes = rr at *
  generalize x.fName = p1 at *
  generalize y.fName = p2 at *
  generalize x.fAttributes.length = n1 at *
  generalize y.fAttributes.length = n2 at *
  by_cases h0 : p1 = p2
  · subst h0
    have fin := Lib.hid (hlast rfl)
    clear hno hlast
    go_enter Tryz.func39, Tryz.ntmps39
    go_wp2_with fail
    refine (HC.out _ HB.out).mono ?_
    rintro e w1 ⟨rfl, hb1⟩
    have HB1 := Lib.hid (HB.out.trans (hb1.mono HB.out.size))
    clear hb1
    go_wp2
    go_ret
    exact ⟨ret_b fin.out.symm, HB1.out⟩
  · have fin := Lib.hid (hno (fun e => h0 e.1))
    have e1 : (p1.toList == p2.toList) = false := ne_str h0
    clear h0 hno hlast HC
    go_enter Tryz.func39, Tryz.ntmps39
    go_wp2
    go_ret
    exact ⟨ret_b fin.out.symm, HB.out⟩

set_option maxHeartbeats 3200000 in
set_option maxRecDepth 100000 in
theorem EqualFunc_symbols {lo hi cap cap2 : Nat} {a a2 : Option Addr} (l m : List DSymbol) (hol : okL DSymbol.ok l) (hom : okL DSymbol.ok m) (hl : lsz DSymbol.sz l ≤ 1048576) (hm : lsz DSymbol.sz m ≤ 1048576) (w : World) (hhi : hi ≤ w.heap.size) (hs : Sl lo hi w 2 l.length (fun k => DSymbol.ct (l.getD k default)) a) (hs2 : Sl lo hi w 2 m.length (fun k => DSymbol.ct (m.getD k default)) a2) :
    Calls Tryz.prog 38 #[.slice a l.length cap, .slice a2 m.length cap2, .func (.func 39) #[] #[]] w fun e w' => e = .returned (.bool (allEq eqSy l m)) ∧ Below w.heap.size w w' := by
  have hn : l.length ≤ 1048576 := by unfold lsz at hl; omega
  have hn2 : m.length ≤ 1048576 := by unfold lsz at hm; omega
  have HW0 := Lib.hid (Below.refl w.heap.size w)
  by_cases hlen : l.length = m.length
  · have HS := Lib.hid hs
    have HS2 := Lib.hid hs2
    have HL := Lib.hid hlen
    have HSZ := Lib.hid (fun k (hk : k < l.length) => Nat.le_trans (szle_at (f := DSymbol.sz) l k hk) hl)
    have HSZ2 := Lib.hid (fun k (hk : k < m.length) => Nat.le_trans (szle_at (f := DSymbol.sz) m k hk) hm)
    have OKX := Lib.hid (fun k (hk : k < l.length) => hol.at hk)
    have OKY := Lib.hid (fun k (hk : k < m.length) => hom.at hk)
    have e0 : ((l.length : Int) == (m.length : Int)) = true := by rw [hlen]; exact beq_self_eq_true _
    have e00 : ((l.length : Int) != (m.length : Int)) = false := by rw [bne, e0]; rfl
    clear hs hs2 hlen hl hm hol hom
    go_enter Tryz.func38, Tryz.ntmps38
    go_wp2
    go_loopw [17] (fun i wr => ∃ k : Nat, k ≤ l.length ∧ i = .int .i64 (k : Int) ∧ (∀ jj, jj < k → eqSy (l.getD jj default) (m.getD jj default) = true) ∧ Below w.heap.size w wr) (fun i _ => l.length - (intOf i).toNat)
    case atStart => exact ⟨0, Nat.zero_le _, rfl, fun _ h => absurd h (Nat.not_lt_zero _), Below.refl _ _⟩
    case round =>
      obtain ⟨k, hk, rfl, heq, hbl⟩ := hrel
      have HE := Lib.hid heq
      have HBW := Lib.hid hbl
      clear heq hbl
      by_cases hlt : k < l.length
      · have hltm : k < m.length := by rw [← HL.out]; exact hlt
        obtain ⟨b, off, rfl, _, hb_, hc⟩ := (HS.out.later (HBW.out.mono hhi) (Nat.le_refl _)).at k hlt
        obtain ⟨b2, off2, rfl, _, hb2_, hcq⟩ := (HS2.out.later (HBW.out.mono hhi) (Nat.le_refl _)).at k hltm
        obtain ⟨ax, cx, h0, h1, hs1⟩ := DSymbol.open hc
        obtain ⟨ay, cy, g0, g1, ht1⟩ := DSymbol.open hcq
        have bl2 : b2 < wr.heap.size := Nat.lt_of_lt_of_le hb2_ (Nat.le_trans hhi HBW.out.size)
        have hr1 : wr.rangeAt b (off + k * 2) [.string (l.getD k default).fName, .slice ax (l.getD k default).fAttributes.length cx] := (rangeAt_cons h0 (rangeAt_cons h1 rangeAt_nil))
        have hr2 : wr.rangeAt b2 (off2 + k * 2) [.string (m.getD k default).fName, .slice ay (m.getD k default).fAttributes.length cy] := (rangeAt_cons g0 (rangeAt_cons g1 rangeAt_nil))
        have HC := Lib.hid (fun (W : World) (hW : Below wr.heap.size wr W) => impl_equalSymbol (c1 := cx) (d1 := cy) (l.getD k default) (m.getD k default) (OKX.out k hlt) (OKY.out k hltm) (HSZ.out k hlt) (HSZ2.out k hltm) W (Nat.le_trans hhi (Nat.le_trans HBW.out.size hW.size)) (hs1.later (hW.mono (Nat.le_trans hhi HBW.out.size)) (Nat.le_refl _)) (ht1.later (hW.mono (Nat.le_trans hhi HBW.out.size)) (Nat.le_refl _)))
        clear hc hcq hs1 ht1 h0 g0 h1 g1
        have HPS := Lib.hid (show eqSy (l.getD k default) (m.getD k default) = true → ∀ jj, jj < k + 1 → eqSy (l.getD jj default) (m.getD jj default) = true from fun h1 jj hj => by
          rcases Nat.lt_succ_iff_lt_or_eq.1 hj with h | h
          · exact HE.out jj h
          · rw [h]; exact h1)
        have HNO := Lib.hid (fun h => allEq_no (f := eqSy) (m := m) hlt h)
        have HSX : Hid ((Tryz.prog.info? 68).map (·.size) = some ([.string (l.getD k default).fName, .slice ax (l.getD k default).fAttributes.length cx] : List Value).length) := Lib.hid (by kernel_rfl)
        have HSY : Hid ((Tryz.prog.info? 68).map (·.size) = some ([.string (m.getD k default).fName, .slice ay (m.getD k default).fAttributes.length cy] : List Value).length) := Lib.hid (by kernel_rfl)
        have HOX : Hid (([.string (l.getD k default).fName, .slice ax (l.getD k default).fAttributes.length cx] : List Value).toArray.all (·.oneCell') = true) := Lib.hid (by simp [Value.oneCell'])
        have HOY : Hid (([.string (m.getD k default).fName, .slice ay (m.getD k default).fAttributes.length cy] : List Value).toArray.all (·.oneCell') = true) := Lib.hid (by simp [Value.oneCell'])
        have HZX : Hid (([.string (l.getD k default).fName, .slice ax (l.getD k default).fAttributes.length cx] : List Value).length = 2) := Lib.hid rfl
        have HZY : Hid (([.string (m.getD k default).fName, .slice ay (m.getD k default).fAttributes.length cy] : List Value).length = 2) := Lib.hid rfl
        generalize ([.string (l.getD k default).fName, .slice ax (l.getD k default).fAttributes.length cx] : List Value) = X at *
        generalize ([.string (m.getD k default).fName, .slice ay (m.getD k default).fAttributes.length cy] : List Value) = Y at *
        generalize eqSy (l.getD k default) (m.getD k default) = qq at *
        have hr2' : ∀ o, (wr.alloc o).rangeAt b2 (off2 + k * 2) Y := fun o j v hv => (((Below.refl wr.heap.size wr).alloc (Nat.le_refl _) o).cell (p := ⟨b2, off2 + k * 2 + j, none⟩) bl2).trans (hr2 j v hv)
        clear hr2
        have HBC := Lib.hid (((Below.refl wr.heap.size wr).alloc (Nat.le_refl _) (.cells X.toArray 68)).alloc (by simp) (.cells Y.toArray 68))
        have hg1 : ((wr.alloc (.cells X.toArray 68)).alloc (.cells Y.toArray 68)).heap[wr.heap.size]? = some (.cells X.toArray 68) := blk_alloc (by simp) (heap_alloc_last _ _)
        have hg2 : ((wr.alloc (.cells X.toArray 68)).alloc (.cells Y.toArray 68)).heap[wr.heap.size + 1]? = some (.cells Y.toArray 68) := blk_new (by simp)
        have HG1 := Lib.hid hg1
        have HG2 := Lib.hid hg2
        clear hg1 hg2
        go_wp2_with (first
          | (refine wpList_load_mid rfl 68 (.tmp 20) rfl b (off + k * 2) rfl X _ hr1 Tryz.underlying68 rfl HSX.out ?_)
          | (refine wpList_store_rowTo rfl 68 (.tmp 8) (.tmp 21) rfl rfl wr.heap.size X.toArray rfl rfl 68 _ (heap_alloc_last wr _) HSX.out HZX.out.symm HOX.out ?_; rw [World.setRow_alloc_new])
          | (refine wpList_load_mid rfl 68 (.tmp 24) rfl b2 (off2 + k * 2) rfl Y _ (hr2' _) Tryz.underlying68 rfl HSY.out ?_)
          | (refine wpList_store_rowTo rfl 68 (.tmp 9) (.tmp 25) rfl rfl (wr.heap.size + 1) Y.toArray rfl rfl 68 _ (blk_new (by simp)) HSY.out HZY.out.symm HOY.out ?_; rw [setRow_new (by simp)])
          | (refine wpList_load_row rfl 68 (.tmp 8) rfl wr.heap.size rfl 68 X.toArray _ _ HG1.out Tryz.underlying68 rfl HSX.out ?_)
          | (refine wpList_load_row rfl 68 (.tmp 9) rfl (wr.heap.size + 1) rfl 68 Y.toArray _ _ HG2.out Tryz.underlying68 rfl HSY.out ?_))
        refine (HC.out _ HBC.out).mono ?_
        rintro e w1 ⟨rfl, hb1⟩
        have HB1 := Lib.hid (HBC.out.trans (hb1.mono HBC.out.size))
        clear hb1 HC
        cases qq
        · have fin := Lib.hid (HNO.out rfl)
          clear HPS HNO
          go_wp2
          go_ret
          exact ⟨ret_b fin.out.symm, HBW.out.trans (HB1.out.mono HBW.out.size)⟩
        · have HP2 := Lib.hid (HPS.out rfl)
          clear HPS HNO
          go_wp2
          go_roundw
          case rel => exact ⟨k + 1, by omega, by go_num, HP2.out, HBW.out.trans (HB1.out.mono HBW.out.size)⟩
          case measure => simp [intOf]; omega
      · obtain rfl : k = l.length := by omega
        have fin := Lib.hid (allEq_yes HL.out HE.out)
        go_wp2
        go_ret
        exact ⟨ret_b fin.out.symm, HBW.out⟩
  · have fin := Lib.hid (allEq_len (f := eqSy) hlen)
    have e0 : ((l.length : Int) == (m.length : Int)) = false := beq_eq_false_iff_ne.2 (by omega)
    have e00 : ((l.length : Int) != (m.length : Int)) = true := by rw [bne, e0]; rfl
    clear hs hs2 hlen
    go_enter Tryz.func38, Tryz.ntmps38
    go_wp2
    go_ret
    exact ⟨ret_b fin.out.symm, HW0.out⟩

theorem DRule.openS {lo hi b o : Nat} {w : World} {x : DRule} (h : ∀ j, j < 6 → ∃ u, w.cell? ⟨b, o + j, none⟩ = some u ∧ Soft lo hi w (x.ct j) u) :
    ∃ a2 c2, ∃ a4 c4, ∃ a5 c5, w.cell? ⟨b, o, none⟩ = some (.string x.fName) ∧ w.cell? ⟨b, o + 1, none⟩ = some (.string x.fLeft) ∧ w.cell? ⟨b, o + 2, none⟩ = some (.slice a2 x.fRight.length c2) ∧ w.cell? ⟨b, o + 3, none⟩ = some (.bool x.fLiteral) ∧ w.cell? ⟨b, o + 4, none⟩ = some (.slice a4 x.fEquations.length c4) ∧ w.cell? ⟨b, o + 5, none⟩ = some (.slice a5 x.fContributions.length c5) ∧ Sf lo hi w 1 x.fRight.length (fun k => ictS (x.fRight.getD k default)) a2 ∧ Sf lo hi w 9 x.fEquations.length (fun k => DEquation.ct (x.fEquations.getD k default)) a4 ∧ Sf lo hi w 16 x.fContributions.length (fun k => DContribution.ct (x.fContributions.getD k default)) a5 := by
  obtain ⟨u0, hc0, hl0⟩ := h 0 (by decide)
  obtain rfl := soft_lit hl0
  obtain ⟨u1, hc1, hl1⟩ := h 1 (by decide)
  obtain rfl := soft_lit hl1
  obtain ⟨u2, hc2, hl2⟩ := h 2 (by decide)
  obtain ⟨a2, c2, rfl, hs2⟩ := soft_sl hl2
  obtain ⟨u3, hc3, hl3⟩ := h 3 (by decide)
  obtain rfl := soft_lit hl3
  obtain ⟨u4, hc4, hl4⟩ := h 4 (by decide)
  obtain ⟨a4, c4, rfl, hs4⟩ := soft_sl hl4
  obtain ⟨u5, hc5, hl5⟩ := h 5 (by decide)
  obtain ⟨a5, c5, rfl, hs5⟩ := soft_sl hl5
  exact ⟨a2, c2, a4, c4, a5, c5, hc0, hc1, hc2, hc3, hc4, hc5, hs2, hs4, hs5⟩

set_option maxHeartbeats 3200000 in
set_option maxRecDepth 100000 in
theorem EqualFunc_rules {lo hi cap cap2 : Nat} {a a2 : Option Addr} (l m : List DRule) (hol : okL DRule.ok l) (hom : okL DRule.ok m) (hl : lsz DRule.sz l ≤ 1048576) (hm : lsz DRule.sz m ≤ 1048576) (w : World) (hhi : hi ≤ w.heap.size) (hs : Sf lo hi w 6 l.length (fun k => DRule.ct (l.getD k default)) a) (hs2 : Sf lo hi w 6 m.length (fun k => DRule.ct (m.getD k default)) a2) :
    Calls Tryz.prog 40 #[.slice a l.length cap, .slice a2 m.length cap2, .func (.func 41) #[] #[]] w fun e w' => e = .returned (.bool (allEq eqR l m)) ∧ Below w.heap.size w w' := by
  have hn : l.length ≤ 1048576 := by unfold lsz at hl; omega
  have hn2 : m.length ≤ 1048576 := by unfold lsz at hm; omega
  have HW0 := Lib.hid (Below.refl w.heap.size w)
  by_cases hlen : l.length = m.length
  · have HS := Lib.hid hs
    have HS2 := Lib.hid hs2
    have HL := Lib.hid hlen
    have HSZ := Lib.hid (fun k (hk : k < l.length) => Nat.le_trans (szle_at (f := DRule.sz) l k hk) hl)
    have HSZ2 := Lib.hid (fun k (hk : k < m.length) => Nat.le_trans (szle_at (f := DRule.sz) m k hk) hm)
    have OKX := Lib.hid (fun k (hk : k < l.length) => hol.at hk)
    have OKY := Lib.hid (fun k (hk : k < m.length) => hom.at hk)
    have e0 : ((l.length : Int) == (m.length : Int)) = true := by rw [hlen]; exact beq_self_eq_true _
    have e00 : ((l.length : Int) != (m.length : Int)) = false := by rw [bne, e0]; rfl
    clear hs hs2 hlen hl hm hol hom
    go_enter Tryz.func40, Tryz.ntmps40
    go_wp2
    go_loopw [17] (fun i wr => ∃ k : Nat, k ≤ l.length ∧ i = .int .i64 (k : Int) ∧ (∀ jj, jj < k → eqR (l.getD jj default) (m.getD jj default) = true) ∧ Below w.heap.size w wr) (fun i _ => l.length - (intOf i).toNat)
    case atStart => exact ⟨0, Nat.zero_le _, rfl, fun _ h => absurd h (Nat.not_lt_zero _), Below.refl _ _⟩
    case round =>
      obtain ⟨k, hk, rfl, heq, hbl⟩ := hrel
      have HE := Lib.hid heq
      have HBW := Lib.hid hbl
      clear heq hbl
      by_cases hlt : k < l.length
      · have hltm : k < m.length := by rw [← HL.out]; exact hlt
        obtain ⟨b, off, rfl, _, hb_, _, hc⟩ := (HS.out.later (HBW.out.mono hhi) (Nat.le_refl _)).at k hlt
        obtain ⟨b2, off2, rfl, _, hb2_, _, hcq⟩ := (HS2.out.later (HBW.out.mono hhi) (Nat.le_refl _)).at k hltm
        obtain ⟨ax2, cx2, ax4, cx4, ax5, cx5, h0, h1, h2, h3, h4, h5, hs2_, hs4, hs5⟩ := DRule.openS hc
        obtain ⟨ay2, cy2, ay4, cy4, ay5, cy5, g0, g1, g2, g3, g4, g5, ht2, ht4, ht5⟩ := DRule.openS hcq
        have bl2 : b2 < wr.heap.size := Nat.lt_of_lt_of_le hb2_ (Nat.le_trans hhi HBW.out.size)
        have hr1 : wr.rangeAt b (off + k * 6) [.string (l.getD k default).fName, .string (l.getD k default).fLeft, .slice ax2 (l.getD k default).fRight.length cx2, .bool (l.getD k default).fLiteral, .slice ax4 (l.getD k default).fEquations.length cx4, .slice ax5 (l.getD k default).fContributions.length cx5] := (rangeAt_cons h0 (rangeAt_cons h1 (rangeAt_cons h2 (rangeAt_cons h3 (rangeAt_cons h4 (rangeAt_cons h5 rangeAt_nil))))))
        have hr2 : wr.rangeAt b2 (off2 + k * 6) [.string (m.getD k default).fName, .string (m.getD k default).fLeft, .slice ay2 (m.getD k default).fRight.length cy2, .bool (m.getD k default).fLiteral, .slice ay4 (m.getD k default).fEquations.length cy4, .slice ay5 (m.getD k default).fContributions.length cy5] := (rangeAt_cons g0 (rangeAt_cons g1 (rangeAt_cons g2 (rangeAt_cons g3 (rangeAt_cons g4 (rangeAt_cons g5 rangeAt_nil))))))
        have HC := Lib.hid (fun (W : World) (hW : Below wr.heap.size wr W) => impl_EqualRule (c0_0 := cx2) (c0_1 := cx4) (c0_2 := cx5) (c1_0 := cy2) (c1_1 := cy4) (c1_2 := cy5) (l.getD k default) (OKX.out k hlt) (HSZ.out k hlt) (m.getD k default) (OKY.out k hltm) (HSZ2.out k hltm) W (Nat.le_trans hhi (Nat.le_trans HBW.out.size hW.size)) (hs2_.later (hW.mono (Nat.le_trans hhi HBW.out.size)) (Nat.le_refl _)) (hs4.later (hW.mono (Nat.le_trans hhi HBW.out.size)) (Nat.le_refl _)) (hs5.later (hW.mono (Nat.le_trans hhi HBW.out.size)) (Nat.le_refl _)) (ht2.later (hW.mono (Nat.le_trans hhi HBW.out.size)) (Nat.le_refl _)) (ht4.later (hW.mono (Nat.le_trans hhi HBW.out.size)) (Nat.le_refl _)) (ht5.later (hW.mono (Nat.le_trans hhi HBW.out.size)) (Nat.le_refl _)))
        clear hc hcq hs2_ hs4 hs5 ht2 ht4 ht5 h0 g0 h1 g1 h2 g2 h3 g3 h4 g4 h5 g5
        have HPS := Lib.hid (show eqR (l.getD k default) (m.getD k default) = true → ∀ jj, jj < k + 1 → eqR (l.getD jj default) (m.getD jj default) = true from fun h1 jj hj => by
          rcases Nat.lt_succ_iff_lt_or_eq.1 hj with h | h
          · exact HE.out jj h
          · rw [h]; exact h1)
        have HNO := Lib.hid (fun h => allEq_no (f := eqR) (m := m) hlt h)
        have HSX : Hid ((Tryz.prog.info? 75).map (·.size) = some ([.string (l.getD k default).fName, .string (l.getD k default).fLeft, .slice ax2 (l.getD k default).fRight.length cx2, .bool (l.getD k default).fLiteral, .slice ax4 (l.getD k default).fEquations.length cx4, .slice ax5 (l.getD k default).fContributions.length cx5] : List Value).length) := Lib.hid (by kernel_rfl)
        have HSY : Hid ((Tryz.prog.info? 75).map (·.size) = some ([.string (m.getD k default).fName, .string (m.getD k default).fLeft, .slice ay2 (m.getD k default).fRight.length cy2, .bool (m.getD k default).fLiteral, .slice ay4 (m.getD k default).fEquations.length cy4, .slice ay5 (m.getD k default).fContributions.length cy5] : List Value).length) := Lib.hid (by kernel_rfl)
        have HOX : Hid (([.string (l.getD k default).fName, .string (l.getD k default).fLeft, .slice ax2 (l.getD k default).fRight.length cx2, .bool (l.getD k default).fLiteral, .slice ax4 (l.getD k default).fEquations.length cx4, .slice ax5 (l.getD k default).fContributions.length cx5] : List Value).toArray.all (·.oneCell') = true) := Lib.hid (by simp [Value.oneCell'])
        have HOY : Hid (([.string (m.getD k default).fName, .string (m.getD k default).fLeft, .slice ay2 (m.getD k default).fRight.length cy2, .bool (m.getD k default).fLiteral, .slice ay4 (m.getD k default).fEquations.length cy4, .slice ay5 (m.getD k default).fContributions.length cy5] : List Value).toArray.all (·.oneCell') = true) := Lib.hid (by simp [Value.oneCell'])
        have HZX : Hid (([.string (l.getD k default).fName, .string (l.getD k default).fLeft, .slice ax2 (l.getD k default).fRight.length cx2, .bool (l.getD k default).fLiteral, .slice ax4 (l.getD k default).fEquations.length cx4, .slice ax5 (l.getD k default).fContributions.length cx5] : List Value).length = 6) := Lib.hid rfl
        have HZY : Hid (([.string (m.getD k default).fName, .string (m.getD k default).fLeft, .slice ay2 (m.getD k default).fRight.length cy2, .bool (m.getD k default).fLiteral, .slice ay4 (m.getD k default).fEquations.length cy4, .slice ay5 (m.getD k default).fContributions.length cy5] : List Value).length = 6) := Lib.hid rfl
        generalize ([.string (l.getD k default).fName, .string (l.getD k default).fLeft, .slice ax2 (l.getD k default).fRight.length cx2, .bool (l.getD k default).fLiteral, .slice ax4 (l.getD k default).fEquations.length cx4, .slice ax5 (l.getD k default).fContributions.length cx5] : List Value) = X at *
        generalize ([.string (m.getD k default).fName, .string (m.getD k default).fLeft, .slice ay2 (m.getD k default).fRight.length cy2, .bool (m.getD k default).fLiteral, .slice ay4 (m.getD k default).fEquations.length cy4, .slice ay5 (m.getD k default).fContributions.length cy5] : List Value) = Y at *
        generalize eqR (l.getD k default) (m.getD k default) = qq at *
        have hr2' : ∀ o, (wr.alloc o).rangeAt b2 (off2 + k * 6) Y := fun o j v hv => (((Below.refl wr.heap.size wr).alloc (Nat.le_refl _) o).cell (p := ⟨b2, off2 + k * 6 + j, none⟩) bl2).trans (hr2 j v hv)
        clear hr2
        have HBC := Lib.hid (((Below.refl wr.heap.size wr).alloc (Nat.le_refl _) (.cells X.toArray 75)).alloc (by simp) (.cells Y.toArray 75))
        have hg1 : ((wr.alloc (.cells X.toArray 75)).alloc (.cells Y.toArray 75)).heap[wr.heap.size]? = some (.cells X.toArray 75) := blk_alloc (by simp) (heap_alloc_last _ _)
        have hg2 : ((wr.alloc (.cells X.toArray 75)).alloc (.cells Y.toArray 75)).heap[wr.heap.size + 1]? = some (.cells Y.toArray 75) := blk_new (by simp)
        have HG1 := Lib.hid hg1
        have HG2 := Lib.hid hg2
        clear hg1 hg2
        go_wp2_with (first
          | (refine wpList_load_mid rfl 75 (.tmp 20) rfl b (off + k * 6) rfl X _ hr1 Tryz.underlying75 rfl HSX.out ?_)
          | (refine wpList_store_rowTo rfl 75 (.tmp 8) (.tmp 21) rfl rfl wr.heap.size X.toArray rfl rfl 75 _ (heap_alloc_last wr _) HSX.out HZX.out.symm HOX.out ?_; rw [World.setRow_alloc_new])
          | (refine wpList_load_mid rfl 75 (.tmp 24) rfl b2 (off2 + k * 6) rfl Y _ (hr2' _) Tryz.underlying75 rfl HSY.out ?_)
          | (refine wpList_store_rowTo rfl 75 (.tmp 9) (.tmp 25) rfl rfl (wr.heap.size + 1) Y.toArray rfl rfl 75 _ (blk_new (by simp)) HSY.out HZY.out.symm HOY.out ?_; rw [setRow_new (by simp)])
          | (refine wpList_load_row rfl 75 (.tmp 8) rfl wr.heap.size rfl 75 X.toArray _ _ HG1.out Tryz.underlying75 rfl HSX.out ?_)
          | (refine wpList_load_row rfl 75 (.tmp 9) rfl (wr.heap.size + 1) rfl 75 Y.toArray _ _ HG2.out Tryz.underlying75 rfl HSY.out ?_))
        refine (HC.out _ HBC.out).mono ?_
        rintro e w1 ⟨rfl, hb1⟩
        have HB1 := Lib.hid (HBC.out.trans (hb1.mono HBC.out.size))
        clear hb1 HC
        cases qq
        · have fin := Lib.hid (HNO.out rfl)
          clear HPS HNO
          go_wp2
          go_ret
          exact ⟨ret_b fin.out.symm, HBW.out.trans (HB1.out.mono HBW.out.size)⟩
        · have HP2 := Lib.hid (HPS.out rfl)
          clear HPS HNO
          go_wp2
          go_roundw
          case rel => exact ⟨k + 1, by omega, by go_num, HP2.out, HBW.out.trans (HB1.out.mono HBW.out.size)⟩
          case measure => simp [intOf]; omega
      · obtain rfl : k = l.length := by omega
        have fin := Lib.hid (allEq_yes HL.out HE.out)
        go_wp2
        go_ret
        exact ⟨ret_b fin.out.symm, HBW.out⟩
  · have fin := Lib.hid (allEq_len (f := eqR) hlen)
    have e0 : ((l.length : Int) == (m.length : Int)) = false := beq_eq_false_iff_ne.2 (by omega)
    have e00 : ((l.length : Int) != (m.length : Int)) = true := by rw [bne, e0]; rfl
    clear hs hs2 hlen
    go_enter Tryz.func40, Tryz.ntmps40
    go_wp2
    go_ret
    exact ⟨ret_b fin.out.symm, HW0.out⟩
end Go.Proofs.YtjhgifpnpkcaoaaGreat
