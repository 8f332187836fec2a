/-
  UsesAny and IsMonotone of the model.
-/
import Derived.Test.YtamilmhnkiepmaaUses
import Derived.Test.YtamilmhnkiepmaaECount
namespace Go.Proofs.Ytamilmhnkiepmaa
open Go.ChangeShapes Go.WideShapes Go.ChangeAt Go.RowKit Go.Deep

theorem any_noneU {α : Type} [Inhabited α] {p : α → Bool} {l : List α} (h : noneBelow p l l.length) : l.any p = false := by
  rw [List.any_eq_false]
  intro a ha
  obtain ⟨k, hk, rfl⟩ := List.getElem_of_mem ha
  have := h k hk
  rw [List.getD_eq_getElem?_getD, List.getElem?_eq_getElem hk] at this
  simpa using this
theorem any_atU {α : Type} [Inhabited α] {p : α → Bool} {l : List α} {k : Nat} (hk : k < l.length) (h : p (l.getD k default) = true) : l.any p = true := by
  rw [List.getD_eq_getElem?_getD, List.getElem?_eq_getElem hk] at h
  exact List.any_eq_true.2 ⟨l[k], List.getElem_mem _, h⟩

/-- The contract of UsesAny of the model at x. -/
def SpecUses (l : List DOccurrence) (x : DExpr) : Prop := ∀ ⦃lo hi c6 c0 : Nat⦄ ⦃a6 a0 : Option Addr⦄ (_hsz : x.sz ≤ 1048576) (w : World) (_hhi : hi ≤ w.heap.size) (_hs6 : Sl lo hi w 7 x.fArgs.length (ctE x.fArgs) a6) (_hs : Sl lo hi w 2 l.length (fun k => DOccurrence.ct (l.getD k default)) a0),
  Calls Try.prog 8 #[.agg #[.int .i64 x.fKind, .int .i64 x.fN, .int .i64 x.fPos, .int .i64 x.fType, .string x.fSymbol, .string x.fName, .slice a6 x.fArgs.length c6], .slice a0 l.length c0] w fun e w' => e = .returned (.bool (usesX l x)) ∧ Below w.heap.size w w'

set_option maxHeartbeats 3200000 in
set_option maxRecDepth 100000 in
theorem specUses_step (l : List DOccurrence) (hl : lsz DOccurrence.sz l ≤ 1048576) (x : DExpr) (ih : ∀ a ∈ x.fArgs, SpecUses l a) : SpecUses l x := by
  intro lo hi c6 c0 a6 a0 hsz w hhi hs6 hs
  have hn : x.fArgs.length ≤ 1048576 := by have h := hsz; rw [DExpr.sz_eq] at h; unfold lsz at h; omega
  have HZ := Lib.hid hsz
  have IH := Lib.hid ih
  have HS := Lib.hid hs6
  have HSL := Lib.hid (fun (W : World) (hW : Below w.heap.size w W) => hs.later hW hhi)
  have HW0 := Lib.hid ((Below.refl w.heap.size w).alloc (Nat.le_refl _) (.cells #[.int .i64 x.fKind, .int .i64 x.fN, .int .i64 x.fPos, .int .i64 x.fType, .string x.fSymbol, .string x.fName, .slice a6 x.fArgs.length c6] 31))
  have HHI := Lib.hid hhi
  clear hsz ih hs6 hs
  by_cases h3 : x.fKind = 3
  · have HH := Lib.hid (spec_l11HasAt (c0_0 := c0) l hl ⟨x.fPos, x.fName⟩ (w.alloc (.cells #[.int .i64 x.fKind, .int .i64 x.fN, .int .i64 x.fPos, .int .i64 x.fType, .string x.fSymbol, .string x.fName, .slice a6 x.fArgs.length c6] 31)) (Nat.le_trans hhi HW0.out.size) (HSL.out _ HW0.out))
    cases hv : hasAt l ⟨x.fPos, x.fName⟩
    · rw [hv] at HH
      have HNA := Lib.hid (show (decide (x.fKind = 3) && hasAt l ⟨x.fPos, x.fName⟩) = false by rw [hv, Bool.and_false])
      clear hv
      rw [h3] at HH HW0 ⊢
      clear h3
      go_enter Try.func8, Try.ntmps8
      go_wp2_with fail
      refine HH.out.mono ?_
      rintro e wb ⟨rfl, hb1⟩
      have HWB := Lib.hid (HW0.out.trans (hb1.mono HW0.out.size))
      have HWS := Lib.hid (show w.heap.size + 1 ≤ wb.heap.size from Nat.le_trans (by simp) hb1.size)
      have HP6 := Lib.hid ((hb1.cell (p := ⟨w.heap.size, 6, none⟩) (by show w.heap.size < _; simp)).trans (show _ = some (.slice a6 x.fArgs.length c6) by go_simp))
      clear hb1 HH
      go_wp2
      go_loopw [5] (fun i wr => ∃ k : Nat, k ≤ x.fArgs.length ∧ i = .int .i64 (k : Int) ∧ noneBelow (usesX l) x.fArgs k ∧ Below (w.heap.size + 1) wb wr) (fun i _ => x.fArgs.length - (intOf i).toNat)
      case atStart => exact ⟨0, Nat.zero_le _, rfl, noneBelow_zero _ _, Below.refl _ _⟩
      case round =>
        obtain ⟨k, hk, rfl, hno, hbl⟩ := hrel
        have HB := Lib.hid hbl
        have p6 : wr.cell? ⟨w.heap.size, 6, none⟩ = some (.slice a6 x.fArgs.length c6) := (hbl.cell (p := ⟨w.heap.size, 6, none⟩) (Nat.lt_succ_self _)).trans HP6.out
        have hbw : Below w.heap.size w wr := HWB.out.trans (hbl.mono (Nat.le_succ _))
        have HBW := Lib.hid hbw
        have hsz1 : w.heap.size + 1 ≤ wr.heap.size := Nat.le_trans HWS.out hbl.size
        clear hbl
        by_cases hlt : k < x.fArgs.length
        · obtain ⟨rb, ro, rfl, _, hrb, hc⟩ := (HS.out.later (hbw.mono hhi) (Nat.le_refl _)).at k hlt
          rw [ctE_at hlt] at hc
          obtain ⟨a9, c9, hc0, hc1, hc2, hc3, hc4, hc5, hc6, hs9⟩ := DExpr.open hc
          have hszk := szle_at (f := DExpr.sz) x.fArgs k hlt
          have hszx := HZ.out
          rw [DExpr.sz_eq] at hszx
          have IK := Lib.hid (IH.out _ (getD_mem hlt))
          have HC := Lib.hid (IK.out (c6 := c9) (c0 := c0) (by omega) wr (Nat.le_trans hhi hbw.size) hs9 (HSL.out _ hbw))
          have HNO := Lib.hid hno
          clear hs9 hszk hszx hno hbw hc
          cases hr : usesX l (x.fArgs.getD k default)
          · have HPS := Lib.hid (noneBelow_succ HNO.out hr)
            rw [hr] at HC
            clear hr
            generalize x.fArgs.getD k default = y at *
            go_wp2_with fail
            refine HC.out.mono ?_
            rintro e w1 ⟨rfl, hb1⟩
            have HB1 := Lib.hid (HB.out.trans (hb1.mono hsz1))
            clear hb1
            go_wp2
            go_roundw
            case rel => exact ⟨k + 1, by omega, by go_num, HPS.out, HB1.out⟩
            case measure => simp [intOf]; omega
          · have FIN := Lib.hid (show usesX l x = true by rw [usesX_eq, any_atU hlt hr, Bool.or_true])
            rw [hr] at HC
            clear hr
            generalize x.fArgs.getD k default = y at *
            go_wp2_with fail
            refine HC.out.mono ?_
            rintro e w1 ⟨rfl, hb1⟩
            have HB1 := Lib.hid (HBW.out.trans (hb1.mono HBW.out.size))
            clear hb1
            go_wp2
            go_ret
            exact ⟨ret_b FIN.out.symm, HB1.out⟩
        · obtain rfl : k = x.fArgs.length := by omega
          clear hbw
          have FIN := Lib.hid (show usesX l x = false by rw [usesX_eq, any_noneU hno, Bool.or_false]; exact HNA.out)
          clear hno
          go_wp2
          go_ret
          exact ⟨ret_b FIN.out.symm, HBW.out⟩
    · rw [hv] at HH
      have FIN := Lib.hid (show usesX l x = true by rw [usesX_eq, hv, decide_eq_true h3]; rfl)
      clear hv
      rw [h3] at HH HW0 ⊢
      clear h3
      go_enter Try.func8, Try.ntmps8
      go_wp2_with fail
      refine HH.out.mono ?_
      rintro e w1 ⟨rfl, hb1⟩
      have HB1 := Lib.hid (HW0.out.trans (hb1.mono HW0.out.size))
      clear hb1
      go_wp2
      go_ret
      exact ⟨ret_b FIN.out.symm, HB1.out⟩
  · have q3 : (x.fKind == 3) = false := beq_eq_false_iff_ne.2 h3
    have HNA := Lib.hid (show (decide (x.fKind = 3) && hasAt l ⟨x.fPos, x.fName⟩) = false by rw [decide_eq_false h3, Bool.false_and])
    clear h3
    have HWB := HW0
    have HWS := Lib.hid (show w.heap.size + 1 ≤ (w.alloc (.cells #[.int .i64 x.fKind, .int .i64 x.fN, .int .i64 x.fPos, .int .i64 x.fType, .string x.fSymbol, .string x.fName, .slice a6 x.fArgs.length c6] 31)).heap.size by simp)
    have HP6 := Lib.hid (show (w.alloc (.cells #[.int .i64 x.fKind, .int .i64 x.fN, .int .i64 x.fPos, .int .i64 x.fType, .string x.fSymbol, .string x.fName, .slice a6 x.fArgs.length c6] 31)).cell? ⟨w.heap.size, 6, none⟩ = some (.slice a6 x.fArgs.length c6) by go_simp)
    go_enter Try.func8, Try.ntmps8
    go_wp2
    go_loopw [5] (fun i wr => ∃ k : Nat, k ≤ x.fArgs.length ∧ i = .int .i64 (k : Int) ∧ noneBelow (usesX l) x.fArgs k ∧ Below (w.heap.size + 1) (w.alloc (.cells #[.int .i64 x.fKind, .int .i64 x.fN, .int .i64 x.fPos, .int .i64 x.fType, .string x.fSymbol, .string x.fName, .slice a6 x.fArgs.length c6] 31)) wr) (fun i _ => x.fArgs.length - (intOf i).toNat)
    case atStart => exact ⟨0, Nat.zero_le _, rfl, noneBelow_zero _ _, Below.refl _ _⟩
    case round =>
      obtain ⟨k, hk, rfl, hno, hbl⟩ := hrel
      have HB := Lib.hid hbl
      have p6 : wr.cell? ⟨w.heap.size, 6, none⟩ = some (.slice a6 x.fArgs.length c6) := (hbl.cell (p := ⟨w.heap.size, 6, none⟩) (Nat.lt_succ_self _)).trans HP6.out
      have hbw : Below w.heap.size w wr := HWB.out.trans (hbl.mono (Nat.le_succ _))
      have HBW := Lib.hid hbw
      have hsz1 : w.heap.size + 1 ≤ wr.heap.size := Nat.le_trans HWS.out hbl.size
      clear hbl
      by_cases hlt : k < x.fArgs.length
      · obtain ⟨rb, ro, rfl, _, hrb, hc⟩ := (HS.out.later (hbw.mono hhi) (Nat.le_refl _)).at k hlt
        rw [ctE_at hlt] at hc
        obtain ⟨a9, c9, hc0, hc1, hc2, hc3, hc4, hc5, hc6, hs9⟩ := DExpr.open hc
        have hszk := szle_at (f := DExpr.sz) x.fArgs k hlt
        have hszx := HZ.out
        rw [DExpr.sz_eq] at hszx
        have IK := Lib.hid (IH.out _ (getD_mem hlt))
        have HC := Lib.hid (IK.out (c6 := c9) (c0 := c0) (by omega) wr (Nat.le_trans hhi hbw.size) hs9 (HSL.out _ hbw))
        have HNO := Lib.hid hno
        clear hs9 hszk hszx hno hbw hc
        cases hr : usesX l (x.fArgs.getD k default)
        · have HPS := Lib.hid (noneBelow_succ HNO.out hr)
          rw [hr] at HC
          clear hr
          generalize x.fArgs.getD k default = y at *
          go_wp2_with fail
          refine HC.out.mono ?_
          rintro e w1 ⟨rfl, hb1⟩
          have HB1 := Lib.hid (HB.out.trans (hb1.mono hsz1))
          clear hb1
          go_wp2
          go_roundw
          case rel => exact ⟨k + 1, by omega, by go_num, HPS.out, HB1.out⟩
          case measure => simp [intOf]; omega
        · have FIN := Lib.hid (show usesX l x = true by rw [usesX_eq, any_atU hlt hr, Bool.or_true])
          rw [hr] at HC
          clear hr
          generalize x.fArgs.getD k default = y at *
          go_wp2_with fail
          refine HC.out.mono ?_
          rintro e w1 ⟨rfl, hb1⟩
          have HB1 := Lib.hid (HBW.out.trans (hb1.mono HBW.out.size))
          clear hb1
          go_wp2
          go_ret
          exact ⟨ret_b FIN.out.symm, HB1.out⟩
      · obtain rfl : k = x.fArgs.length := by omega
        clear hbw
        have FIN := Lib.hid (show usesX l x = false by rw [usesX_eq, any_noneU hno, Bool.or_false]; exact HNA.out)
        clear hno
        go_wp2
        go_ret
        exact ⟨ret_b FIN.out.symm, HBW.out⟩

theorem spec_UsesAny0 (l : List DOccurrence) (hl : lsz DOccurrence.sz l ≤ 1048576) (x : DExpr) : SpecUses l x := DExpr.ind (P := SpecUses l) (specUses_step l hl) x
theorem spec_UsesAny {lo hi c0_0 c1_0 : Nat} {a6 a0 : Option Addr} (x : DExpr) (_ : x.ok) (hsz : x.sz ≤ 1048576) (l : List DOccurrence) (_ : okL DOccurrence.ok l) (hl : lsz DOccurrence.sz l ≤ 1048576) (w : World) (hhi : hi ≤ w.heap.size) (hs6 : Sl lo hi w 7 x.fArgs.length (ctE x.fArgs) a6) (hs : Sl lo hi w 2 l.length (fun k => DOccurrence.ct (l.getD k default)) a0) :
    Calls Try.prog 8 #[.agg #[.int .i64 x.fKind, .int .i64 x.fN, .int .i64 x.fPos, .int .i64 x.fType, .string x.fSymbol, .string x.fName, .slice a6 x.fArgs.length c0_0], .slice a0 l.length c1_0] w fun e w' => e = .returned (.bool (usesX l x)) ∧ Below w.heap.size w w' := spec_UsesAny0 l hl x hsz w hhi hs6 hs
end Go.Proofs.Ytamilmhnkiepmaa
