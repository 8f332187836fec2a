/-
  IsValidRule of the model: the positions of an expression.
-/
import Derived.Test.YteeehpldkhceoaaGreatValRule
import Derived.Test.YteeehpldkhceoaaGreatPile
namespace Go.Proofs.YteeehpldkhceoaaGreat
open Go.ChangeShapes Go.WideShapes Go.ChangeAt Go.RowKit Go.Deep

theorem any_noneV {α : Type} [Inhabited α] {p : α → Bool} {l : List α} (h : noneBelow p l l.length) : l.any p = false := by
  rw [List.any_eq_false]
  intro a ha
  obtain ⟨k, hk, rfl⟩ := List.getElem_of_mem ha
  have := h k hk
  rw [List.getD_eq_getElem?_getD, List.getElem?_eq_getElem hk] at this
  simpa using this
theorem any_atV {α : Type} [Inhabited α] {p : α → Bool} {l : List α} {k : Nat} (hk : k < l.length) (h : p (l.getD k default) = true) : l.any p = true := by
  rw [List.getD_eq_getElem?_getD, List.getElem?_eq_getElem hk] at h
  exact List.any_eq_true.2 ⟨l[k], List.getElem_mem _, h⟩
theorem all_noneV {α : Type} [Inhabited α] {p : α → Bool} {l : List α} (h : noneBelow (fun x => !p x) l l.length) : l.all p = true := by
  rw [← all_anyV, any_noneV h]; rfl
theorem all_atV {α : Type} [Inhabited α] {p : α → Bool} {l : List α} {k : Nat} (hk : k < l.length) (h : p (l.getD k default) = false) : l.all p = false := by
  rw [← all_anyV, any_atV (p := fun x => !p x) hk (by show (!p _) = true; rw [h]; rfl)]; rfl

def SpecWithin (n : Nat) (x : DExpr) : Prop := ∀ ⦃lo hi c6 : Nat⦄ ⦃a6 : Option Addr⦄ (_hsz : x.sz ≤ 1048576) (w : World) (_hhi : hi ≤ w.heap.size) (_hs6 : Sl lo hi w 7 x.fArgs.length (ctE x.fArgs) a6),
  Calls Tryz.prog 34 #[.agg #[.int .i64 x.fKind, .int .i64 x.fN, .int .i64 x.fPos, .int .i64 x.fType, .string x.fSymbol, .string x.fName, .slice a6 x.fArgs.length c6], .int .i64 (n : Int)] w fun e w' => e = .returned (.bool (!posX n x)) ∧ Below w.heap.size w w'

set_option maxHeartbeats 3200000 in
set_option maxRecDepth 100000 in
theorem specWithin_step (n : Nat) (x : DExpr) (ih : ∀ a ∈ x.fArgs, SpecWithin n a) : SpecWithin n x := by
  intro lo hi c6 a6 hsz w hhi hs6
  have hn : x.fArgs.length ≤ 1048576 := by have h := hsz; rw [DExpr.sz_eq] at h; unfold lsz at h; omega
  have HZ := Lib.hid hsz
  have IH := Lib.hid ih
  have HS := Lib.hid hs6
  have HW0 := Lib.hid ((Below.refl w.heap.size w).alloc (Nat.le_refl _) (.cells #[.int .i64 x.fKind, .int .i64 x.fN, .int .i64 x.fPos, .int .i64 x.fType, .string x.fSymbol, .string x.fName, .slice a6 x.fArgs.length c6] 44))
  clear hsz ih hs6
  go_enter Tryz.func34, Tryz.ntmps34
  go_wp2
  go_loopw [5] (fun i wr => ∃ k : Nat, k ≤ x.fArgs.length ∧ i = .int .i64 (k : Int) ∧ noneBelow (posX n) x.fArgs k ∧ Below (w.heap.size + 1) (w.alloc (.cells #[.int .i64 x.fKind, .int .i64 x.fN, .int .i64 x.fPos, .int .i64 x.fType, .string x.fSymbol, .string x.fName, .slice a6 x.fArgs.length c6] 44)) wr) (fun i _ => x.fArgs.length - (intOf i).toNat)
  case atStart => exact ⟨0, Nat.zero_le _, rfl, noneBelow_zero _ _, Below.refl _ _⟩
  case round =>
    obtain ⟨k, hk, rfl, hno, hbl⟩ := hrel
    have HB := Lib.hid hbl
    have p6 : wr.cell? ⟨w.heap.size, 6, none⟩ = some (.slice a6 x.fArgs.length c6) := (hbl.cell (p := ⟨w.heap.size, 6, none⟩) (Nat.lt_succ_self _)).trans (by go_simp)
    have p2 : wr.cell? ⟨w.heap.size, 2, none⟩ = some (.int .i64 x.fPos) := (hbl.cell (p := ⟨w.heap.size, 2, none⟩) (Nat.lt_succ_self _)).trans (by go_simp)
    have hbw : Below w.heap.size w wr := HW0.out.trans (hbl.mono (Nat.le_succ _))
    have HBW := Lib.hid hbw
    have hsz1 : w.heap.size + 1 ≤ wr.heap.size := Nat.le_trans (by simp) hbl.size
    clear hbl
    by_cases hlt : k < x.fArgs.length
    · obtain ⟨rb, ro, rfl, _, hrb, hc⟩ := (HS.out.later (hbw.mono hhi) (Nat.le_refl _)).at k hlt
      rw [ctE_at hlt] at hc
      obtain ⟨a9, c9, hc0, hc1, hc2, hc3, hc4, hc5, hc6, hs9⟩ := DExpr.open hc
      have hszk := szle_at (f := DExpr.sz) x.fArgs k hlt
      have hszx := HZ.out
      rw [DExpr.sz_eq] at hszx
      have IK := Lib.hid (IH.out _ (getD_mem hlt))
      have HC := Lib.hid (IK.out (c6 := c9) (by omega) wr (Nat.le_trans hhi hbw.size) hs9)
      have HNO := Lib.hid hno
      clear hs9 hszk hszx hno hbw hc p2
      cases hr : posX n (x.fArgs.getD k default)
      · have HPS := Lib.hid (noneBelow_succ HNO.out hr)
        rw [hr] at HC
        clear hr
        generalize x.fArgs.getD k default = y at *
        go_wp2_with fail
        refine HC.out.mono ?_
        rintro e w1 ⟨rfl, hb1⟩
        have HB1 := Lib.hid (HB.out.trans (hb1.mono hsz1))
        clear hb1
        go_wp2
        go_roundw
        case rel => exact ⟨k + 1, by omega, by go_num, HPS.out, HB1.out⟩
        case measure => simp [intOf]; omega
      · have FIN := Lib.hid (show (!posX n x) = false by rw [posX_eq, any_atV hlt hr, Bool.or_true]; rfl)
        rw [hr] at HC
        clear hr
        generalize x.fArgs.getD k default = y at *
        go_wp2_with fail
        refine HC.out.mono ?_
        rintro e w1 ⟨rfl, hb1⟩
        have HB1 := Lib.hid (HBW.out.trans (hb1.mono HBW.out.size))
        clear hb1
        go_wp2
        go_ret
        exact ⟨ret_b FIN.out.symm, HB1.out⟩
    · obtain rfl : k = x.fArgs.length := by omega
      clear hbw
      have FIN := Lib.hid (show decide (x.fPos ≤ (n : Int)) = !posX n x by rw [posX_eq, any_noneV hno, Bool.or_false, ← decide_not]; exact decide_eq_decide.2 (by omega))
      clear hno
      go_wp2
      go_ret
      exact ⟨ret_b FIN.out, HBW.out⟩
theorem spec_l9Within (n : Nat) (x : DExpr) : SpecWithin n x := DExpr.ind (P := SpecWithin n) (specWithin_step n) x

set_option maxHeartbeats 3200000 in
set_option maxRecDepth 100000 in
theorem spec_l9Expr {lo hi c6 : Nat} {a6 : Option Addr} (n : Nat) (x : DExpr) (hok : x.ok) (hsz : x.sz ≤ 1048576) (w : World) (hhi : hi ≤ w.heap.size) (hs6 : Sl lo hi w 7 x.fArgs.length (ctE x.fArgs) a6) :
    Calls Tryz.prog 14 #[.agg #[.int .i64 x.fKind, .int .i64 x.fN, .int .i64 x.fPos, .int .i64 x.fType, .string x.fSymbol, .string x.fName, .slice a6 x.fArgs.length c6], .int .i64 (n : Int)] w fun e w' => e = .returned (.bool (exprIn n x)) ∧ Below w.heap.size w w' := by
  have B0 := Lib.hid ((Below.refl w.heap.size w).alloc (Nat.le_refl _) (.cells #[.int .i64 x.fKind, .int .i64 x.fN, .int .i64 x.fPos, .int .i64 x.fType, .string x.fSymbol, .string x.fName, .slice a6 x.fArgs.length c6] 44))
  have S0 := Lib.hid (show (w.alloc (.cells #[.int .i64 x.fKind, .int .i64 x.fN, .int .i64 x.fPos, .int .i64 x.fType, .string x.fSymbol, .string x.fName, .slice a6 x.fArgs.length c6] 44)).heap.size = w.heap.size + 1 by simp)
  have X0 := Lib.hid (show (w.alloc (.cells #[.int .i64 x.fKind, .int .i64 x.fN, .int .i64 x.fPos, .int .i64 x.fType, .string x.fSymbol, .string x.fName, .slice a6 x.fArgs.length c6] 44)).heap[w.heap.size]? = some (.cells #[.int .i64 x.fKind, .int .i64 x.fN, .int .i64 x.fPos, .int .i64 x.fType, .string x.fSymbol, .string x.fName, .slice a6 x.fArgs.length c6] 44) from blk_new rfl)
  have HV := Lib.hid (spec_IsValidExpr (c0_0 := c6) x hok hsz (w.alloc (.cells #[.int .i64 x.fKind, .int .i64 x.fN, .int .i64 x.fPos, .int .i64 x.fType, .string x.fSymbol, .string x.fName, .slice a6 x.fArgs.length c6] 44)) (Nat.le_trans hhi B0.out.size) (hs6.later B0.out hhi))
  have HP := Lib.hid (fun (W : World) (hW : Below w.heap.size w W) => spec_l9Within n x (c6 := c6) hsz W (Nat.le_trans hhi hW.size) (hs6.later hW hhi))
  unfold exprIn
  clear hs6 hok hsz
  generalize posX n x = v1 at *
  generalize validX x = v0 at *
  go_enter Tryz.func14, Tryz.ntmps14
  go_wp2_with fail
  refine HV.out.mono ?_
  rintro e w1 ⟨rfl, hb1⟩
  have B1 := Lib.hid (B0.out.trans (hb1.mono B0.out.size))
  have X1 := Lib.hid ((hb1.block w.heap.size (by rw [S0.out]; omega)).trans X0.out)
  clear hb1
  have y0 := pblk_cell (j := 0) (v := .int .i64 x.fKind) X1.out rfl
  have y1 := pblk_cell (j := 1) (v := .int .i64 x.fN) X1.out rfl
  have y2 := pblk_cell (j := 2) (v := .int .i64 x.fPos) X1.out rfl
  have y3 := pblk_cell (j := 3) (v := .int .i64 x.fType) X1.out rfl
  have y4 := pblk_cell (j := 4) (v := .string x.fSymbol) X1.out rfl
  have y5 := pblk_cell (j := 5) (v := .string x.fName) X1.out rfl
  have y6 := pblk_cell (j := 6) (v := .slice a6 x.fArgs.length c6) X1.out rfl
  cases v0
  · go_wp2
    go_ret
    exact ⟨rfl, B1.out⟩
  · go_wp2_with fail
    refine (HP.out w1 B1.out).mono ?_
    rintro e w2 ⟨rfl, hb2⟩
    have B2 := Lib.hid (B1.out.trans (hb2.mono B1.out.size))
    clear hb2
    go_wp2
    go_ret
    exact ⟨rfl, B2.out⟩
end Go.Proofs.YteeehpldkhceoaaGreat
