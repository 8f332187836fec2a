/-
  The local relation of a rule: what LocalRelation computes.
  LocalRelation of the model.
  LocalRelation of the program.
-/
import Derived.Test.YtnmepemmpeboeaaGreatZFindEqn
import Derived.Test.YtnmepemmpeboeaaGreatZAttrUses
import Derived.Test.YtnmepemmpeboeaaGreatZz16
import Derived.Test.YtnmepemmpeboeaaGreatZEmptyRel
import Derived.Test.YtnmepemmpeboeaaGreatZz15
import Derived.Test.YtnmepemmpeboeaaGreatZFreeK
namespace Go.Proofs.YtnmepemmpeboeaaGreat
open Go.ChangeShapes Go.WideShapes Go.ChangeAt Go.RowKit Go.Deep

/-- The pairs of what an equation's expression uses, with the occurrence k. -/
def addUses (lst : List DOccurrence) (k : Int) (r : DRelation) (us : List DOccurrence) : DRelation := us.foldl (fun r u => addPair r (indexOccurrence lst u) k) r
theorem addUses_step {lst : List DOccurrence} {k : Int} {r : DRelation} {us : List DOccurrence} {j : Nat} (hj : j < us.length) : addUses lst k r (us.take (j + 1)) = addPair (addUses lst k r (us.take j)) (indexOccurrence lst (us.getD j default)) k := by
  rw [take_snoc hj]; unfold addUses; rw [List.foldl_append]; rfl
theorem addPair_N (r : DRelation) (i k : Int) : (addPair r i k).fN = r.fN := by unfold addPair; split <;> rfl
theorem addUses_N (lst : List DOccurrence) (k : Int) : ∀ (us : List DOccurrence) (r : DRelation), (addUses lst k r us).fN = r.fN
  | [], _ => rfl
  | _ :: us, _ => (addUses_N lst k us _).trans (addPair_N _ _ _)
theorem addUses_len (lst : List DOccurrence) (k : Int) : ∀ (us : List DOccurrence) (r : DRelation), (addUses lst k r us).fRows.length = r.fRows.length
  | [], _ => rfl
  | _ :: us, _ => (addUses_len lst k us _).trans (addPair_len _ _ _)
/-- The relation behind the first k occurrences. -/
def locK (es : List DEquation) (lst : List DOccurrence) : Nat → DRelation
  | 0 => emptyRel lst.length
  | k + 1 => addUses lst k (locK es lst k) (attrUses (eqnE es (lst.getD k default)))
theorem locK_N (es : List DEquation) (lst : List DOccurrence) : ∀ k, (locK es lst k).fN = (emptyRel lst.length).fN
  | 0 => rfl
  | k + 1 => (addUses_N _ _ _ _).trans (locK_N es lst k)
theorem locK_len (es : List DEquation) (lst : List DOccurrence) : ∀ k, (locK es lst k).fRows.length ≤ 16
  | 0 => emptyRel_len _
  | k + 1 => Nat.le_trans (Nat.le_of_eq (addUses_len _ _ _ _)) (locK_len es lst k)
theorem addPair_zero {r : DRelation} (h : r.fN ≤ 0) (i k : Int) : addPair r i k = r := addPair_no2 (inR_no (by omega))
theorem addUses_zero (lst : List DOccurrence) (k : Int) : ∀ (us : List DOccurrence) {r : DRelation}, r.fN ≤ 0 → addUses lst k r us = r
  | [], _, _ => rfl
  | _ :: us, r, h => by
    show addUses lst k (addPair r _ k) us = r
    rw [addPair_zero h]
    exact addUses_zero lst k us h
theorem locK_zero {es : List DEquation} {lst : List DOccurrence} (h : (emptyRel lst.length).fN ≤ 0) : ∀ k, locK es lst k = emptyRel lst.length
  | 0 => rfl
  | k + 1 => by
    show addUses lst k (locK es lst k) _ = _
    rw [locK_zero h k]
    exact addUses_zero _ _ _ h
theorem locK_stop {es : List DEquation} {lst : List DOccurrence} {k : Nat} (h : (locK es lst k).fN ≤ 0) : locK es lst k = locK es lst lst.length := by
  rw [locK_N] at h
  rw [locK_zero h, locK_zero h]
theorem locK_great {es : List DEquation} {lst : List DOccurrence} (h : 16 < lst.length) : locK es lst lst.length = ⟨0, []⟩ := by
  have e : emptyRel lst.length = ⟨0, []⟩ := emptyRel_no (by omega)
  rw [locK_zero (by rw [e]; exact Int.le_refl _), e]
/-- The local relation of a rule. -/
def locRel (g : DGrammar) (x : DRule) : DRelation := locK x.fEquations (occsOf g x) (occsOf g x).length
theorem locRel_len (g : DGrammar) (x : DRule) : (locRel g x).fRows.length ≤ 16 := locK_len _ _ _
theorem locRel_sz (g : DGrammar) (x : DRule) : (locRel g x).sz ≤ 1048576 := by have := locRel_len g x; unfold DRelation.sz; rw [lsz_zero]; omega
end Go.Proofs.YtnmepemmpeboeaaGreat
namespace Go.Proofs.YtnmepemmpeboeaaGreat
open Go.ChangeShapes Go.WideShapes Go.ChangeAt Go.RowKit Go.Deep

set_option maxHeartbeats 25600000 in
set_option maxRecDepth 100000 in
theorem spec_LocalRelation {lo hi : Nat} {a0 a1 b2 b4 b5 : Option Addr} {c0_0 c0_1 c1_0 c1_1 c1_2 : Nat} (g : DGrammar) (okg : g.ok) (hszg : g.sz ≤ 1048576) (x : DRule) (okx : x.ok) (hszx : x.sz ≤ 1048576) (w : World) (hhi : hi ≤ w.heap.size) (hs0 : Sl lo hi w 2 g.fSymbols.length (fun k => DSymbol.ct (g.fSymbols.getD k default)) a0) (hs1 : Sl lo hi w 6 g.fRules.length (fun k => DRule.ct (g.fRules.getD k default)) a1) (hs2 : Sl lo hi w 1 x.fRight.length (fun k => ictS (x.fRight.getD k default)) b2) (hs4 : Sl lo hi w 9 x.fEquations.length (fun k => DEquation.ct (x.fEquations.getD k default)) b4) (hs5 : Sl lo hi w 16 x.fContributions.length (fun k => DContribution.ct (x.fContributions.getD k default)) b5) :
    Calls Tryz.prog 6 #[.agg #[.slice a0 g.fSymbols.length c0_0, .slice a1 g.fRules.length c0_1], .agg #[.string x.fName, .string x.fLeft, .slice b2 x.fRight.length c1_0, .bool x.fLiteral, .slice b4 x.fEquations.length c1_1, .slice b5 x.fContributions.length c1_2]] w (RelOut (locRel g x) w) := by
  have HB1 := Lib.hid ((((Below.refl w.heap.size w).alloc (Nat.le_refl _) (.cells #[.slice a0 g.fSymbols.length c0_0, .slice a1 g.fRules.length c0_1] 40)).alloc (by simp) (.cells #[.string x.fName, .string x.fLeft, .slice b2 x.fRight.length c1_0, .bool x.fLiteral, .slice b4 x.fEquations.length c1_1, .slice b5 x.fContributions.length c1_2] 45)).alloc (by simp <;> omega) (.cells #[.int .i64 0, .slice none 0 0] 35))
  have HS0 := Lib.hid (fun (W : World) (hW : Below w.heap.size w W) => hs0.later hW hhi)
  have HS1 := Lib.hid (fun (W : World) (hW : Below w.heap.size w W) => hs1.later hW hhi)
  have HS2 := Lib.hid (fun (W : World) (hW : Below w.heap.size w W) => hs2.later hW hhi)
  have HS4 := Lib.hid (fun (W : World) (hW : Below w.heap.size w W) => hs4.later hW hhi)
  have HS5 := Lib.hid (fun (W : World) (hW : Below w.heap.size w W) => hs5.later hW hhi)
  have HHI := Lib.hid hhi
  have HSX := Lib.hid hszx
  have OKX := Lib.hid okx
  have HLST := Lib.hid (occsOf_len hszg hszx)
  have HZE := Lib.hid (fun (oc : DOccurrence) => eqn_sz (l := x.fEquations) (by unfold DRule.sz at hszx; omega) oc)
  have HRES := Lib.hid (show locRel g x = locK x.fEquations (occsOf g x) (occsOf g x).length from rfl)
  have HOC := Lib.hid (spec_OccurrencesOf (c0_0 := c0_0) (c0_1 := c0_1) (c1_0 := c1_0) (c1_1 := c1_1) (c1_2 := c1_2) g okg hszg x okx hszx (((w.alloc (.cells #[.slice a0 g.fSymbols.length c0_0, .slice a1 g.fRules.length c0_1] 40)).alloc (.cells #[.string x.fName, .string x.fLeft, .slice b2 x.fRight.length c1_0, .bool x.fLiteral, .slice b4 x.fEquations.length c1_1, .slice b5 x.fContributions.length c1_2] 45)).alloc (.cells #[.int .i64 0, .slice none 0 0] 35)) (Nat.le_trans hhi HB1.out.size) (HS0.out _ HB1.out) (HS1.out _ HB1.out) (HS2.out _ HB1.out) (HS4.out _ HB1.out) (HS5.out _ HB1.out))
  clear hs0 hs1 hs2 hs4 hs5 hhi okg hszg okx hszx
  have HCR := Lib.hid (show (((w.alloc (.cells #[.slice a0 g.fSymbols.length c0_0, .slice a1 g.fRules.length c0_1] 40)).alloc (.cells #[.string x.fName, .string x.fLeft, .slice b2 x.fRight.length c1_0, .bool x.fLiteral, .slice b4 x.fEquations.length c1_1, .slice b5 x.fContributions.length c1_2] 45)).alloc (.cells #[.int .i64 0, .slice none 0 0] 35)).heap[w.heap.size + 1]? = some (.cells #[.string x.fName, .string x.fLeft, .slice b2 x.fRight.length c1_0, .bool x.fLiteral, .slice b4 x.fEquations.length c1_1, .slice b5 x.fContributions.length c1_2] 45) from blk_alloc (by simp) (blk_new (by simp)))
  have HCZ := Lib.hid (show (((w.alloc (.cells #[.slice a0 g.fSymbols.length c0_0, .slice a1 g.fRules.length c0_1] 40)).alloc (.cells #[.string x.fName, .string x.fLeft, .slice b2 x.fRight.length c1_0, .bool x.fLiteral, .slice b4 x.fEquations.length c1_1, .slice b5 x.fContributions.length c1_2] 45)).alloc (.cells #[.int .i64 0, .slice none 0 0] 35)).heap[w.heap.size + 2]? = some (.cells #[.int .i64 0, .slice none 0 0] 35) from blk_new (by simp))
  have HZ1 := Lib.hid (show (((w.alloc (.cells #[.slice a0 g.fSymbols.length c0_0, .slice a1 g.fRules.length c0_1] 40)).alloc (.cells #[.string x.fName, .string x.fLeft, .slice b2 x.fRight.length c1_0, .bool x.fLiteral, .slice b4 x.fEquations.length c1_1, .slice b5 x.fContributions.length c1_2] 45)).alloc (.cells #[.int .i64 0, .slice none 0 0] 35)).heap.size = w.heap.size + 3 by simp)
  go_enter Tryz.func6, Tryz.ntmps6
  go_wp2_with fail
  refine HOC.out.mono ?_
  rintro e wl0 ⟨al, cl, rfl, hol, hbl0⟩
  have hszl : w.heap.size + 3 ≤ wl0.heap.size := by have := hbl0.size; rw [HZ1.out] at this; exact this
  have HSL := Lib.hid (show Sl (w.heap.size + 3) wl0.heap.size wl0 2 (occsOf g x).length (fun k => DOccurrence.ct ((occsOf g x).getD k default)) al from Sl.of (hol.lies fun y hy => ⟨by have h := hy.1; rw [HZ1.out] at h; exact h, hy.2⟩))
  have HBL := Lib.hid (HB1.out.trans (hbl0.mono HB1.out.size))
  have HCR1 := Lib.hid ((hbl0.block (w.heap.size + 1) (by rw [HZ1.out]; omega)).trans HCR.out)
  have HCZ1 := Lib.hid ((hbl0.block (w.heap.size + 2) (by rw [HZ1.out]; omega)).trans HCZ.out)
  clear HOC hol hbl0 HCR HCZ HB1 HZ1
  generalize occsOf g x = lst at *
  have hlstn := HLST.out
  go_wp2_with fail
  refine (spec_EmptyRelation (lst.length : Int) ⟨by omega, by omega⟩ wl0).mono ?_
  rintro e w2 ⟨ae, ce, rfl, hoe, hbe⟩
  have HCR2 := Lib.hid ((hbe.block (w.heap.size + 1) (by omega)).trans HCR1.out)
  have HCZ2 := Lib.hid ((hbe.block (w.heap.size + 2) (by omega)).trans HCZ1.out)
  have hsz2 : wl0.heap.size ≤ w2.heap.size := hbe.size
  have HBL2 := Lib.hid (HBL.out.trans (hbe.mono HBL.out.size))
  have HSL2 := Lib.hid (HSL.out.later hbe (Nat.le_refl _))
  have HOE := Lib.hid hoe
  have HK0 := Lib.hid (show emptyRel (lst.length : Int) = locK x.fEquations lst 0 from rfl)
  have HKS := Lib.hid (fun k => show locK x.fEquations lst (k + 1) = addUses lst (k : Int) (locK x.fEquations lst k) (attrUses (eqnE x.fEquations (lst.getD k default))) from rfl)
  have HKL := Lib.hid (fun k => locK_len x.fEquations lst k)
  have HKP := Lib.hid (fun k (h : (locK x.fEquations lst k).fN ≤ 0) => locK_stop h)
  have HKN := Lib.hid (fun k => locK_N x.fEquations lst k)
  rw [HK0.out] at HOE ⊢
  clear HK0 hbe hoe HBL HCR1 HCZ1 HSL
  have HWL := Lib.hid (show (w2.alloc (.cells #[.int .i64 (locK x.fEquations lst 0).fN, .slice ae (locK x.fEquations lst 0).fRows.length ce] 35)).heap[w2.heap.size]? = some (.cells #[.int .i64 (locK x.fEquations lst 0).fN, .slice ae (locK x.fEquations lst 0).fRows.length ce] 35) from blk_new rfl)
  have HB3 := Lib.hid (show Below w2.heap.size w2 (w2.alloc (.cells #[.int .i64 (locK x.fEquations lst 0).fN, .slice ae (locK x.fEquations lst 0).fRows.length ce] 35)) from (Below.refl _ _).alloc (Nat.le_refl _) _)
  have HZ3 := Lib.hid (show (w2.alloc (.cells #[.int .i64 (locK x.fEquations lst 0).fN, .slice ae (locK x.fEquations lst 0).fRows.length ce] 35)).heap.size = w2.heap.size + 1 by simp)
  have HOE3 := Lib.hid (HOE.out.kept (Kept.of_below_all HB3.out))
  have HCR3 := Lib.hid ((HB3.out.block (w.heap.size + 1) (by omega)).trans HCR2.out)
  have HCZ3 := Lib.hid ((HB3.out.block (w.heap.size + 2) (by omega)).trans HCZ2.out)
  have HBL3 := Lib.hid (HBL2.out.trans (HB3.out.mono HBL2.out.size))
  have HSL3 := Lib.hid (HSL2.out.later HB3.out (by omega))
  clear HOE HCR2 HCZ2 HBL2 HSL2 HB3
  go_wp2
  obtain ⟨bo, hbo⟩ : ∃ b : Nat, b = w2.heap.size := ⟨_, rfl⟩
  have HBO := Lib.hid hbo
  have hbo1 : wl0.heap.size ≤ bo := by omega
  rw [← hbo] at HWL HOE3 HZ3 ⊢
  clear hbo
  generalize w2.alloc (.cells #[.int .i64 (locK x.fEquations lst 0).fN, .slice ae (locK x.fEquations lst 0).fRows.length ce] 35) = wl at *
  have hblt : bo < wl.heap.size := by rw [HZ3.out]; omega
  go_loopw [7] (fun i wr => ∃ (k : Nat) (a9 : Option Addr) (c9 lo9 hi9 : Nat), k ≤ lst.length ∧ i = .int .i64 (k : Int) ∧ wr.heap[bo]? = some (.cells #[.int .i64 (locK x.fEquations lst k).fN, .slice a9 (locK x.fEquations lst k).fRows.length c9] 35) ∧ Own wr (fun y => lo9 ≤ y ∧ y < hi9) (.sl 1 (locK x.fEquations lst k).fRows.length (fun kk => ictI ((locK x.fEquations lst k).fRows.getD kk default))) (.slice a9 (locK x.fEquations lst k).fRows.length c9) ∧ w.heap.size + 3 ≤ lo9 ∧ (hi9 ≤ bo ∨ bo < lo9) ∧ hi9 ≤ wr.heap.size ∧ WritesF (fun y => y = bo) wl wr) (fun i _ => lst.length - (intOf i).toNat)
  case atStart => exact ⟨0, ae, ce, wl0.heap.size, bo, Nat.zero_le _, rfl, HWL.out, HOE3.out, hszl, .inl (Nat.le_refl _), Nat.le_of_lt hblt, WritesF.refl _ _⟩
  case round =>
    obtain ⟨k, a9, c9, lo9, hi9, hk, rfl, hbx, hown, hlo9, hap9, hhi9, hwf⟩ := hrel
    obtain ⟨wq, rfl⟩ : ∃ wq : World, wq = wr := ⟨_, rfl⟩
    have HBX := Lib.hid hbx
    have HO := Lib.hid hown
    have HW := Lib.hid hwf
    have hszq : wl.heap.size ≤ wq.heap.size := hwf.size
    have HBQ := Lib.hid (show Below w.heap.size w wq from HBL3.out.trans (hwf.below (fun y hy => by have e : y = bo := hy; omega) HBL3.out.size))
    have HSQ := Lib.hid (HSL3.out.frame (fun b o h1 h2 => World.cell?_of_block (a := ⟨b, o, none⟩) (hwf.block b (by omega) (fun e => by have e : b = bo := e; omega))))
    have HCRQ := Lib.hid ((hwf.block (w.heap.size + 1) (by omega) (fun e => by have e : w.heap.size + 1 = bo := e; omega)).trans HCR3.out)
    have HCZQ := Lib.hid ((hwf.block (w.heap.size + 2) (by omega) (fun e => by have e : w.heap.size + 2 = bo := e; omega)).trans HCZ3.out)
    have hx0 := pblk_cell (j := 0) (v := .int .i64 (locK x.fEquations lst k).fN) hbx rfl
    have hx1 := pblk_cell (j := 1) (v := .slice a9 (locK x.fEquations lst k).fRows.length c9) hbx rfl
    have hbq : bo < wq.heap.size := by omega
    have hk1 : w.heap.size + 1 < wq.heap.size := by omega
    have hjn : -9223372036854775808 ≤ (k : Int) ∧ (k : Int) ≤ 9223372036854775807 := by omega
    have r0 : wq.cell? ⟨w.heap.size + 1, 0, none⟩ = some (.string x.fName) := pblk_cell (j := 0) (v := .string x.fName) HCRQ.out rfl
    have r1 : wq.cell? ⟨w.heap.size + 1, 1, none⟩ = some (.string x.fLeft) := pblk_cell (j := 1) (v := .string x.fLeft) HCRQ.out rfl
    have r2 : wq.cell? ⟨w.heap.size + 1, 2, none⟩ = some (.slice b2 x.fRight.length c1_0) := pblk_cell (j := 2) (v := .slice b2 x.fRight.length c1_0) HCRQ.out rfl
    have r3 : wq.cell? ⟨w.heap.size + 1, 3, none⟩ = some (.bool x.fLiteral) := pblk_cell (j := 3) (v := .bool x.fLiteral) HCRQ.out rfl
    have r4 : wq.cell? ⟨w.heap.size + 1, 4, none⟩ = some (.slice b4 x.fEquations.length c1_1) := pblk_cell (j := 4) (v := .slice b4 x.fEquations.length c1_1) HCRQ.out rfl
    have r5 : wq.cell? ⟨w.heap.size + 1, 5, none⟩ = some (.slice b5 x.fContributions.length c1_2) := pblk_cell (j := 5) (v := .slice b5 x.fContributions.length c1_2) HCRQ.out rfl
    clear hown hwf hbx
    have HKLk := Lib.hid (HKL.out k)
    have HKPk := Lib.hid (HKP.out k)
    have HKSk := Lib.hid (HKS.out k)
    by_cases hlt : k < lst.length
    · by_cases hN : 0 < (locK x.fEquations lst k).fN
      · have hn16 : lst.length ≤ 16 := by
          rcases Nat.lt_or_ge 16 lst.length with h | h
          · have e := HKN.out k
            rw [emptyRel_no (by omega)] at e
            have e2 : (locK x.fEquations lst k).fN = 0 := e
            omega
          · exact h
        obtain ⟨b, off, rfl, hblo, hbhi, hc⟩ := HSQ.out.at k hlt
        obtain ⟨q0, q1⟩ := DOccurrence.open hc
        have hbw : b < wq.heap.size := by omega
        have htI : (0 : Int) ≤ (k : Int) ∧ (k : Int) < (lst.length : Int) := by omega
        have HKS1 := HKSk.out
        have HZY := Lib.hid (HZE.out (lst.getD k default))
        have HNO := Lib.hid (fun (h : eqnB x.fEquations (lst.getD k default) = false) => (show attrUses (eqnE x.fEquations (lst.getD k default)) = [] by
          unfold eqnB at h
          unfold eqnE
          rw [if_neg (by simpa using h)]
          rfl))
        clear hc
        have HNp := Lib.hid hN
        generalize lst.getD k default = oc at *
        have HKS2 := Lib.hid HKS1
        clear HKS1 HKS HKSk
        generalize locK x.fEquations lst k = rk at *
        go_wp2_with fail
        refine wp_region_free [([], none), ([], none), ([], none), ([1, 2], none), ([3], none), ([0, 4], none), ([5], none), ([6], none), ([6], none), ([], none), ([9, 7], some 9), ([8], none)] [0, 1, 2, 3, 4, 5, 6, 7, 8, 10, 11] (fun jq9 V L H wx => match jq9 with | 0 => V 0 = .agg #[.string x.fName, .string x.fLeft, .slice b2 x.fRight.length c1_0, .bool x.fLiteral, .slice b4 x.fEquations.length c1_1, .slice b5 x.fContributions.length c1_2] | 1 => V 1 = .slice (some ⟨b, off, none⟩) lst.length cl | 2 => V 2 = .int .i64 (k : Int) | 3 => V 3 = .pointer (some ⟨b, off + k * 2, none⟩) | 4 => V 4 = .agg #[.int .i64 oc.fPos, .string oc.fName] | 5 => ∃ ay cy, V 5 = .tuple #[.agg #[.int .i64 (eqnE x.fEquations oc).fKind, .int .i64 (eqnE x.fEquations oc).fN, .int .i64 (eqnE x.fEquations oc).fPos, .int .i64 (eqnE x.fEquations oc).fType, .string (eqnE x.fEquations oc).fSymbol, .string (eqnE x.fEquations oc).fName, .slice ay (eqnE x.fEquations oc).fArgs.length cy], .bool (eqnB x.fEquations oc)] ∧ Own wx (fun y => L ≤ y ∧ y < H) (.sl 7 (eqnE x.fEquations oc).fArgs.length (ctE (eqnE x.fEquations oc).fArgs)) (.slice ay (eqnE x.fEquations oc).fArgs.length cy) | 6 => V 6 = V 5 ∧ ∃ ay_6 cy_6, V 6 = .tuple #[.agg #[.int .i64 (eqnE x.fEquations oc).fKind, .int .i64 (eqnE x.fEquations oc).fN, .int .i64 (eqnE x.fEquations oc).fPos, .int .i64 (eqnE x.fEquations oc).fType, .string (eqnE x.fEquations oc).fSymbol, .string (eqnE x.fEquations oc).fName, .slice ay_6 (eqnE x.fEquations oc).fArgs.length cy_6], .bool (eqnB x.fEquations oc)] | 7 => (∀ x0 x1, V 6 = .tuple #[x0, x1] → V 7 = x0) ∧ ∃ ay_7 cy_7, V 7 = .agg #[.int .i64 (eqnE x.fEquations oc).fKind, .int .i64 (eqnE x.fEquations oc).fN, .int .i64 (eqnE x.fEquations oc).fPos, .int .i64 (eqnE x.fEquations oc).fType, .string (eqnE x.fEquations oc).fSymbol, .string (eqnE x.fEquations oc).fName, .slice ay_7 (eqnE x.fEquations oc).fArgs.length cy_7] | 8 => (∀ x0 x1, V 6 = .tuple #[x0, x1] → V 8 = x1) | 9 => V 9 = .pointer (some ⟨L, 0, none⟩) ∧ L < H ∧ wx.cell? ⟨L, 0, none⟩ = some (.int .i64 0) ∧ wx.frozen? ⟨L, 0, none⟩ = false ∧ wx.cell? ⟨L, 1, none⟩ = some (.int .i64 0) ∧ wx.frozen? ⟨L, 1, none⟩ = false ∧ wx.cell? ⟨L, 2, none⟩ = some (.int .i64 0) ∧ wx.frozen? ⟨L, 2, none⟩ = false ∧ wx.cell? ⟨L, 3, none⟩ = some (.int .i64 0) ∧ wx.frozen? ⟨L, 3, none⟩ = false ∧ wx.cell? ⟨L, 4, none⟩ = some (.string ⟨#[]⟩) ∧ wx.frozen? ⟨L, 4, none⟩ = false ∧ wx.cell? ⟨L, 5, none⟩ = some (.string ⟨#[]⟩) ∧ wx.frozen? ⟨L, 5, none⟩ = false ∧ wx.cell? ⟨L, 6, none⟩ = some (.slice none 0 0) ∧ wx.frozen? ⟨L, 6, none⟩ = false | 10 => ∀ x0 x1 x2 x3 x4 x5 x6, V 7 = .agg #[x0, x1, x2, x3, x4, x5, x6] → L < H ∧ wx.cell? ⟨L, 0, none⟩ = some x0 ∧ wx.frozen? ⟨L, 0, none⟩ = false ∧ wx.cell? ⟨L, 1, none⟩ = some x1 ∧ wx.frozen? ⟨L, 1, none⟩ = false ∧ wx.cell? ⟨L, 2, none⟩ = some x2 ∧ wx.frozen? ⟨L, 2, none⟩ = false ∧ wx.cell? ⟨L, 3, none⟩ = some x3 ∧ wx.frozen? ⟨L, 3, none⟩ = false ∧ wx.cell? ⟨L, 4, none⟩ = some x4 ∧ wx.frozen? ⟨L, 4, none⟩ = false ∧ wx.cell? ⟨L, 5, none⟩ = some x5 ∧ wx.frozen? ⟨L, 5, none⟩ = false ∧ wx.cell? ⟨L, 6, none⟩ = some x6 ∧ wx.frozen? ⟨L, 6, none⟩ = false | 11 => V 11 = V 8 | _ => True) (by kernel_rfl) (by kernel_rfl) ?loc ?lasts ?walk
        case loc =>
          intro k V V' L H wx h0 h1 hG
          match k with
          | 0 =>
            try dsimp only at hG ⊢
            rw [← h0]
            exact hG
          | 1 =>
            try dsimp only at hG ⊢
            rw [← h0]
            exact hG
          | 2 =>
            try dsimp only at hG ⊢
            rw [← h0]
            exact hG
          | 3 =>
            try dsimp only at hG ⊢
            rw [← h0]
            exact hG
          | 4 =>
            try dsimp only at hG ⊢
            rw [← h0]
            exact hG
          | 5 =>
            try dsimp only at hG ⊢
            rw [← h0]
            exact hG
          | 6 =>
            have e5 := h1 5 (by decide)
            try dsimp only at hG ⊢
            rw [← h0, ← e5]
            exact hG
          | 7 =>
            have e6 := h1 6 (by decide)
            try dsimp only at hG ⊢
            rw [← h0, ← e6]
            exact hG
          | 8 =>
            have e6 := h1 6 (by decide)
            try dsimp only at hG ⊢
            rw [← h0, ← e6]
            exact hG
          | 9 =>
            try dsimp only at hG ⊢
            rw [← h0]
            exact hG
          | 10 =>
            have e7 := h1 7 (by decide)
            try dsimp only at hG ⊢
            rw [← e7]
            exact hG
          | 11 =>
            have e8 := h1 8 (by decide)
            try dsimp only at hG ⊢
            rw [← h0, ← e8]
            exact hG
          | n + 12 => trivial
        case lasts =>
          intro i hi V L H wx wy hB hH hk
          match i, hi with
          | 0, _ => exact fun h => h
          | 1, _ => exact fun h => h
          | 2, _ => exact fun h => h
          | 3, _ => exact fun h => h
          | 4, _ => exact fun h => h
          | 5, _ => exact fun ⟨ay, cy, hv, ho0⟩ => ⟨ay, cy, hv, ho0.kept (hk.sub fun x hx => .inr hx)⟩
          | 6, _ => exact fun h => h
          | 7, _ => exact fun h => h
          | 8, _ => exact fun h => h
          | 9, _ => exact fun ⟨hv, hl, hc0, hf0, hc1, hf1, hc2, hf2, hc3, hf3, hc4, hf4, hc5, hf5, hc6, hf6⟩ => ⟨hv, hl, (hk.cell (p := ⟨L, 0, none⟩) (.inr ⟨Nat.le_refl _, hl⟩) (Nat.lt_of_lt_of_le hl hH)).trans hc0, (hk.frozen (p := ⟨L, 0, none⟩) (.inr ⟨Nat.le_refl _, hl⟩) (Nat.lt_of_lt_of_le hl hH)).trans hf0, (hk.cell (p := ⟨L, 1, none⟩) (.inr ⟨Nat.le_refl _, hl⟩) (Nat.lt_of_lt_of_le hl hH)).trans hc1, (hk.frozen (p := ⟨L, 1, none⟩) (.inr ⟨Nat.le_refl _, hl⟩) (Nat.lt_of_lt_of_le hl hH)).trans hf1, (hk.cell (p := ⟨L, 2, none⟩) (.inr ⟨Nat.le_refl _, hl⟩) (Nat.lt_of_lt_of_le hl hH)).trans hc2, (hk.frozen (p := ⟨L, 2, none⟩) (.inr ⟨Nat.le_refl _, hl⟩) (Nat.lt_of_lt_of_le hl hH)).trans hf2, (hk.cell (p := ⟨L, 3, none⟩) (.inr ⟨Nat.le_refl _, hl⟩) (Nat.lt_of_lt_of_le hl hH)).trans hc3, (hk.frozen (p := ⟨L, 3, none⟩) (.inr ⟨Nat.le_refl _, hl⟩) (Nat.lt_of_lt_of_le hl hH)).trans hf3, (hk.cell (p := ⟨L, 4, none⟩) (.inr ⟨Nat.le_refl _, hl⟩) (Nat.lt_of_lt_of_le hl hH)).trans hc4, (hk.frozen (p := ⟨L, 4, none⟩) (.inr ⟨Nat.le_refl _, hl⟩) (Nat.lt_of_lt_of_le hl hH)).trans hf4, (hk.cell (p := ⟨L, 5, none⟩) (.inr ⟨Nat.le_refl _, hl⟩) (Nat.lt_of_lt_of_le hl hH)).trans hc5, (hk.frozen (p := ⟨L, 5, none⟩) (.inr ⟨Nat.le_refl _, hl⟩) (Nat.lt_of_lt_of_le hl hH)).trans hf5, (hk.cell (p := ⟨L, 6, none⟩) (.inr ⟨Nat.le_refl _, hl⟩) (Nat.lt_of_lt_of_le hl hH)).trans hc6, (hk.frozen (p := ⟨L, 6, none⟩) (.inr ⟨Nat.le_refl _, hl⟩) (Nat.lt_of_lt_of_le hl hH)).trans hf6⟩
          | 10, _ =>
            intro h x0 x1 x2 x3 x4 x5 x6 hv
            obtain ⟨hl, hc0, hf0, hc1, hf1, hc2, hf2, hc3, hf3, hc4, hf4, hc5, hf5, hc6, hf6⟩ := h x0 x1 x2 x3 x4 x5 x6 hv
            exact ⟨hl, (hk.cell (p := ⟨L, 0, none⟩) (.inr ⟨Nat.le_refl _, hl⟩) (Nat.lt_of_lt_of_le hl hH)).trans hc0, (hk.frozen (p := ⟨L, 0, none⟩) (.inr ⟨Nat.le_refl _, hl⟩) (Nat.lt_of_lt_of_le hl hH)).trans hf0, (hk.cell (p := ⟨L, 1, none⟩) (.inr ⟨Nat.le_refl _, hl⟩) (Nat.lt_of_lt_of_le hl hH)).trans hc1, (hk.frozen (p := ⟨L, 1, none⟩) (.inr ⟨Nat.le_refl _, hl⟩) (Nat.lt_of_lt_of_le hl hH)).trans hf1, (hk.cell (p := ⟨L, 2, none⟩) (.inr ⟨Nat.le_refl _, hl⟩) (Nat.lt_of_lt_of_le hl hH)).trans hc2, (hk.frozen (p := ⟨L, 2, none⟩) (.inr ⟨Nat.le_refl _, hl⟩) (Nat.lt_of_lt_of_le hl hH)).trans hf2, (hk.cell (p := ⟨L, 3, none⟩) (.inr ⟨Nat.le_refl _, hl⟩) (Nat.lt_of_lt_of_le hl hH)).trans hc3, (hk.frozen (p := ⟨L, 3, none⟩) (.inr ⟨Nat.le_refl _, hl⟩) (Nat.lt_of_lt_of_le hl hH)).trans hf3, (hk.cell (p := ⟨L, 4, none⟩) (.inr ⟨Nat.le_refl _, hl⟩) (Nat.lt_of_lt_of_le hl hH)).trans hc4, (hk.frozen (p := ⟨L, 4, none⟩) (.inr ⟨Nat.le_refl _, hl⟩) (Nat.lt_of_lt_of_le hl hH)).trans hf4, (hk.cell (p := ⟨L, 5, none⟩) (.inr ⟨Nat.le_refl _, hl⟩) (Nat.lt_of_lt_of_le hl hH)).trans hc5, (hk.frozen (p := ⟨L, 5, none⟩) (.inr ⟨Nat.le_refl _, hl⟩) (Nat.lt_of_lt_of_le hl hH)).trans hf5, (hk.cell (p := ⟨L, 6, none⟩) (.inr ⟨Nat.le_refl _, hl⟩) (Nat.lt_of_lt_of_le hl hH)).trans hc6, (hk.frozen (p := ⟨L, 6, none⟩) (.inr ⟨Nat.le_refl _, hl⟩) (Nat.lt_of_lt_of_le hl hH)).trans hf6⟩
          | 11, _ => exact fun h => h
          | n + 12, hn => exact absurd hn (by simp)
        case walk =>
          simp (maxSteps := 4000000) only [free, Nat.reduceAdd, Act.put, List.setIfInBounds_toArray, List.set_cons_succ, List.set_cons_zero]
          refine ⟨?_, ?_, ?_, ?_, ?_, ?_, ?_, ?_, ?_, ?_, ?_, ?_, ?_⟩
          · intro V L H w1 hb1 hd
            clear hd
            have r0 : w1.cell? ⟨w.heap.size + 1, 0, none⟩ = some (.string x.fName) := (hb1.cell (p := ⟨w.heap.size + 1, 0, none⟩) (show w.heap.size + 1 < wq.heap.size by omega)).trans r0
            have r1 : w1.cell? ⟨w.heap.size + 1, 1, none⟩ = some (.string x.fLeft) := (hb1.cell (p := ⟨w.heap.size + 1, 1, none⟩) (show w.heap.size + 1 < wq.heap.size by omega)).trans r1
            have r2 : w1.cell? ⟨w.heap.size + 1, 2, none⟩ = some (.slice b2 x.fRight.length c1_0) := (hb1.cell (p := ⟨w.heap.size + 1, 2, none⟩) (show w.heap.size + 1 < wq.heap.size by omega)).trans r2
            have r3 : w1.cell? ⟨w.heap.size + 1, 3, none⟩ = some (.bool x.fLiteral) := (hb1.cell (p := ⟨w.heap.size + 1, 3, none⟩) (show w.heap.size + 1 < wq.heap.size by omega)).trans r3
            have r4 : w1.cell? ⟨w.heap.size + 1, 4, none⟩ = some (.slice b4 x.fEquations.length c1_1) := (hb1.cell (p := ⟨w.heap.size + 1, 4, none⟩) (show w.heap.size + 1 < wq.heap.size by omega)).trans r4
            have r5 : w1.cell? ⟨w.heap.size + 1, 5, none⟩ = some (.slice b5 x.fContributions.length c1_2) := (hb1.cell (p := ⟨w.heap.size + 1, 5, none⟩) (show w.heap.size + 1 < wq.heap.size by omega)).trans r5
            go_wp2_with fail
            exact freePost _ rfl ⟨Below.refl _ _, upd_self⟩
          · intro V L H w1 hb1 hd
            clear hd
            go_wp2_with fail
            exact freePost _ rfl ⟨Below.refl _ _, upd_self⟩
          · intro V L H w1 hb1 hd
            clear hd
            go_wp2_with fail
            exact freePost _ rfl ⟨Below.refl _ _, upd_self⟩
          · intro V L H w1 hb1 hd
            obtain ⟨⟨hL1, hM1, hH1, hv1⟩, ⟨hL2, hM2, hH2, hv2⟩, -⟩ := hd
            rw [hv1, hv2]
            have HV1 := Lib.hid hv1
            have HV2 := Lib.hid hv2
            clear hv1 hv2
            go_wp2_with fail
            exact freePost _ rfl ⟨Below.refl _ _, upd_self⟩
          · intro V L H w1 hb1 hd
            obtain ⟨⟨hL3, hM3, hH3, hv3⟩, -⟩ := hd
            rw [hv3]
            have HV3 := Lib.hid hv3
            clear hv3
            have q0 : w1.cell? ⟨b, off + k * 2, none⟩ = some (.int .i64 oc.fPos) := (hb1.cell (p := ⟨b, off + k * 2, none⟩) hbw).trans q0
            have q1 : w1.cell? ⟨b, off + k * 2 + 1, none⟩ = some (.string oc.fName) := (hb1.cell (p := ⟨b, off + k * 2 + 1, none⟩) hbw).trans q1
            go_wp2_with fail
            exact freePost _ rfl ⟨Below.refl _ _, upd_self⟩
          · intro V L H w1 hb1 hd
            obtain ⟨⟨hL0, hM0, hH0, hv0⟩, ⟨hL4, hM4, hH4, hv4⟩, -⟩ := hd
            rw [hv0, hv4]
            have HV0 := Lib.hid hv0
            have HV4 := Lib.hid hv4
            clear hv0 hv4
            go_wp2_with fail
            refine (spec_FindEquationO (b2 := b2) (b5 := b5) (c1_0 := c1_0) (c1_1 := c1_1) (c1_2 := c1_2) x HSX.out oc _ (Nat.le_trans HHI.out (Nat.le_trans HBQ.out.size hb1.size)) (HS4.out _ (HBQ.out.trans (hb1.mono HBQ.out.size)))).mono ?_
            rintro e w2 ⟨⟨ay, cy, rfl, ho⟩, hb2⟩
            go_wp2_with fail
            exact freePost _ rfl ⟨hb2, Exists.intro ay (Exists.intro cy (And.intro (upd_self) (ho)))⟩
          · intro V L H w1 hb1 hd
            obtain ⟨⟨hL5, hM5, hH5, ay, cy, hv5, ho5_0⟩, -⟩ := hd
            rw [hv5]
            have HV5 := Lib.hid hv5
            clear hv5
            go_wp2_with fail
            exact freePost _ rfl ⟨Below.refl _ _, And.intro (upd_self.trans (HV5.out.symm.trans (upd_ne (by decide)).symm)) ⟨_, _, upd_self⟩⟩
          · intro V L H w1 hb1 hd
            obtain ⟨⟨hL6, hM6, hH6, hv6, ay_6, cy_6, hz6⟩, -⟩ := hd
            clear hv6
            rw [hz6]
            have HV6 := Lib.hid hz6
            clear hz6
            go_wp2_with fail
            exact freePost _ rfl ⟨Below.refl _ _, And.intro (fun x0 x1 h => by cases (HV6.out.symm.trans ((upd_ne (by decide)).symm.trans h)); exact upd_self) ⟨_, _, upd_self⟩⟩
          · intro V L H w1 hb1 hd
            obtain ⟨⟨hL6, hM6, hH6, hv6, ay_6, cy_6, hz6⟩, -⟩ := hd
            clear hv6
            rw [hz6]
            have HV6 := Lib.hid hz6
            clear hz6
            go_wp2_with fail
            exact freePost _ rfl ⟨Below.refl _ _, fun x0 x1 h => by cases (HV6.out.symm.trans ((upd_ne (by decide)).symm.trans h)); exact upd_self⟩
          · intro V L H w1 hb1 hd
            clear hd
            go_wp2_with fail
            refine freePost _ rfl ⟨Below.alloc (Below.refl _ _) (Nat.le_refl _) _, upd_self, ?_, ?_, ?_, ?_, ?_, ?_, ?_, ?_, ?_, ?_, ?_, ?_, ?_, ?_, ?_⟩
            · simp
            all_goals go_simp
          · intro V L H w1 hb1 hd
            obtain ⟨⟨hL9, hM9, hH9, hv9, hlt9, hc9_0, hf9_0, hc9_1, hf9_1, hc9_2, hf9_2, hc9_3, hf9_3, hc9_4, hf9_4, hc9_5, hf9_5, hc9_6, hf9_6⟩, ⟨hL7, hM7, hH7, hv7, ay_7, cy_7, hz7⟩, -⟩ := hd
            clear hv7
            rw [hv9, hz7]
            have HV9 := Lib.hid hv9
            have HV7 := Lib.hid hz7
            clear hv9 hz7
            go_wp2_with fail
            refine freePost undef rfl ⟨(Touches.put (L := L 9) (H := H 9) (Touches.put (L := L 9) (H := H 9) (Touches.put (L := L 9) (H := H 9) (Touches.put (L := L 9) (H := H 9) (Touches.put (L := L 9) (H := H 9) (Touches.put (L := L 9) (H := H 9) (Touches.put (L := L 9) (H := H 9) Touches.refl (p := ⟨L 9, 0, none⟩) ⟨Nat.le_refl _, hlt9⟩ _) (p := ⟨L 9, 1, none⟩) ⟨Nat.le_refl _, hlt9⟩ _) (p := ⟨L 9, 2, none⟩) ⟨Nat.le_refl _, hlt9⟩ _) (p := ⟨L 9, 3, none⟩) ⟨Nat.le_refl _, hlt9⟩ _) (p := ⟨L 9, 4, none⟩) ⟨Nat.le_refl _, hlt9⟩ _) (p := ⟨L 9, 5, none⟩) ⟨Nat.le_refl _, hlt9⟩ _) (p := ⟨L 9, 6, none⟩) ⟨Nat.le_refl _, hlt9⟩ _), fun x0 x1 x2 x3 x4 x5 x6 h => ?_⟩
            cases (HV7.out.symm.trans ((upd_ne (by decide)).symm.trans h))
            refine ⟨hlt9, ?_, ?_, ?_, ?_, ?_, ?_, ?_, ?_, ?_, ?_, ?_, ?_, ?_, ?_⟩
            all_goals go_simp
          · intro V L H w1 hb1 hd
            obtain ⟨⟨hL8, hM8, hH8, hv8⟩, -⟩ := hd
            clear hv8
            go_wp2_with fail
            exact freePost _ rfl ⟨Below.refl _ _, upd_self.trans (upd_ne (by decide)).symm⟩
          · intro V L H w1 hb1 hd hap hdead
            obtain ⟨⟨hL0, hM0, hH0, hv0⟩, ⟨hL1, hM1, hH1, hv1⟩, ⟨hL2, hM2, hH2, hv2⟩, ⟨hL3, hM3, hH3, hv3⟩, ⟨hL4, hM4, hH4, hv4⟩, ⟨hL5, hM5, hH5, ay, cy, hv5, ho5_0⟩, ⟨hL6, hM6, hH6, hv6, ay_6, cy_6, hz6⟩, ⟨hL7, hM7, hH7, hv7, ay_7, cy_7, hz7⟩, ⟨hL8, hM8, hH8, hv8⟩, ⟨hL10, hM10, hH10, hst10_⟩, ⟨hL11, hM11, hH11, hv11⟩, -⟩ := hd
            have hv6' := hv6.trans hv5
            have hv7' := hv7 _ _ hv6'
            have hv8' := hv8 _ _ hv6'
            have hv11' := hv11.trans hv8'
            obtain ⟨vlt, vc0, vf0, vc1, vf1, vc2, vf2, vc3, vf3, vc4, vf4, vc5, vf5, vc6, vf6⟩ := hst10_ _ _ _ _ _ _ _ hv7'
            obtain ⟨hLe, hHe, wo, hva, -⟩ := hdead 10 9 (by decide) rfl
            rw [← hLe] at hva
            rw [hv0, hv1, hv2, hv3, hv4, hv5, hv6', hv7', hv8', hva, hv11']
            clear hv0 hv1 hv2 hv3 hv4 hv5 hv6' hv7' hv8' hva hv11' hv6 hv7 hv8 hv11
            clear hLe hHe
            have HSY := Lib.hid (show Sl wq.heap.size w1.heap.size w1 7 (eqnE x.fEquations oc).fArgs.length (ctE (eqnE x.fEquations oc).fArgs) ay from Sl.of (ho5_0.lies fun y hy => ⟨Nat.le_trans hL5 hy.1, Nat.lt_of_lt_of_le hy.2 hH5⟩))
            have hbs : L 10 < w1.heap.size := Nat.lt_of_lt_of_le vlt (show H 10 ≤ w1.heap.size from by assumption)
            clear hap hdead ho5_0 q0 q1 hx0 hx1 r0 r1 r2 r3 r4 r5 vf0 vf1 vf2 vf3 vf4 vf5 vf6
            generalize L 10 = be at *
            have HB1 := Lib.hid hb1
            clear hb1
            have hsz1 : wq.heap.size ≤ w1.heap.size := HB1.out.size
            have HBX1 := Lib.hid ((HB1.out.block bo hbq).trans HBX.out)
            have HO1 := Lib.hid (HO.out.kept (Kept.of_below HB1.out (fun y hy => by have := hy.2; omega)))
            have HW1 := Lib.hid (HW.out.later HB1.out)
            have HBW1 := Lib.hid (HBQ.out.trans (HB1.out.mono HBQ.out.size))
            have HSL1 := Lib.hid (HSQ.out.later HB1.out (by omega))
            generalize hyy : (eqnE x.fEquations oc) = y at *
            clear hyy
            cases hok : (eqnB x.fEquations oc)
            · have HE := HKS2.out
              rw [HNO.out hok] at HE
              have HE2 := Lib.hid (show locK x.fEquations lst (k + 1) = rk from HE)
              go_wp2
              go_roundw
              case rel => exact ⟨k + 1, a9, c9, lo9, hi9, by omega, by go_num, by rw [HE2.out]; exact HBX1.out, by rw [HE2.out]; exact HO1.out, hlo9, hap9, by omega, HW1.out⟩
              case measure => simp [intOf]; omega
            · skip
              go_wp2_with fail
              refine (spec_AttrUsesL (c0_0 := cy) y HZY.out w1 (Nat.le_refl _) HSY.out).mono ?_
              rintro e w6 ⟨au, cu, rfl, hou, hb6⟩
              have hsz6 : w1.heap.size ≤ w6.heap.size := hb6.size
              have HSU := Lib.hid (show Sl w1.heap.size w6.heap.size w6 2 (attrUses y).length (fun k => DOccurrence.ct ((attrUses y).getD k default)) au from Sl.of (hou.lies fun y hy => hy))
              have HBX6 := Lib.hid ((hb6.block bo (by omega)).trans HBX1.out)
              have HO6 := Lib.hid (HO1.out.kept (Kept.of_below hb6 (fun y hy => by have := hy.2; omega)))
              have HW6 := Lib.hid (HW1.out.later hb6)
              have HSL6 := Lib.hid (HSL1.out.later hb6 (by omega))
              have HLU := Lib.hid (attrUses_len HZY.out)
              clear hou hb6 HBX1 HO1 HW1 HSL1
              generalize attrUses y = us at *
              have hlu := HLU.out
              have HUL := Lib.hid (fun j => Nat.le_trans (Nat.le_of_eq (addUses_len lst (k : Int) (us.take j) rk)) HKLk.out)
              have HUS := Lib.hid (fun j (hj : j < us.length) => addUses_step (lst := lst) (k := (k : Int)) (r := rk) hj)
              go_wp2
              go_loopw [11] (fun i wr => ∃ (j : Nat) (a9 : Option Addr) (c9 lo9 hi9 : Nat), j ≤ us.length ∧ i = .int .i64 (j : Int) ∧ wr.heap[bo]? = some (.cells #[.int .i64 (addUses lst (k : Int) rk (us.take j)).fN, .slice a9 (addUses lst (k : Int) rk (us.take j)).fRows.length c9] 35) ∧ Own wr (fun y => lo9 ≤ y ∧ y < hi9) (.sl 1 (addUses lst (k : Int) rk (us.take j)).fRows.length (fun kk => ictI ((addUses lst (k : Int) rk (us.take j)).fRows.getD kk default))) (.slice a9 (addUses lst (k : Int) rk (us.take j)).fRows.length c9) ∧ w.heap.size + 3 ≤ lo9 ∧ (hi9 ≤ bo ∨ bo < lo9) ∧ hi9 ≤ wr.heap.size ∧ WritesF (fun y => y = bo) w6 wr) (fun i _ => us.length - (intOf i).toNat)
              case atStart => exact ⟨0, a9, c9, lo9, hi9, Nat.zero_le _, rfl, HBX6.out, HO6.out, hlo9, hap9, by omega, WritesF.refl _ _⟩
              case round =>
                obtain ⟨j, a8, c8, lo8, hi8, hj, rfl, hbx8, ho8, hlo8, hap8, hhi8, hwf8⟩ := hrel
                have HBX8 := Lib.hid hbx8
                have HO8 := Lib.hid ho8
                have HW8 := Lib.hid hwf8
                have hszr : w6.heap.size ≤ wr.heap.size := hwf8.size
                have hbr : bo < wr.heap.size := by omega
                have hkn : -9223372036854775808 ≤ (j : Int) ∧ (j : Int) ≤ 9223372036854775807 := by omega
                clear hbx8 ho8 hwf8
                by_cases hlt2 : j < us.length
                · obtain ⟨ub, uoff, rfl, hulo, huhi, huc⟩ := (HSU.out.frame (w' := wr) (fun b o h1 h2 => World.cell?_of_block (a := ⟨b, o, none⟩) (HW8.out.block b (by omega) (fun e => by have e : b = bo := e; omega)))).at j hlt2
                  obtain ⟨u0, u1⟩ := DOccurrence.open huc
                  have hubw : ub < wr.heap.size := by omega
                  have htJ : (0 : Int) ≤ (j : Int) ∧ (j : Int) < (us.length : Int) := by omega
                  have HUSj := Lib.hid (HUS.out j hlt2)
                  have HULj := Lib.hid (HUL.out j)
                  have HSLR := Lib.hid (HSL6.out.frame (w' := wr) (fun b o h1 h2 => World.cell?_of_block (a := ⟨b, o, none⟩) (HW8.out.block b (by omega) (fun e => by have e : b = bo := e; omega))))
                  have HLL := Lib.hid (show lst.length ≤ 1048576 from by omega)
                  clear huc
                  generalize us.getD j default = u at *
                  generalize addUses lst (k : Int) rk (us.take j) = rj at *
                  have HXJ := Lib.hid (show rj.sz ≤ 1048576 by have := HULj.out; unfold DRelation.sz; rw [lsz_zero]; omega)
                  have HU := Lib.hid (show ∃ z : Int, z = indexOccurrence lst u from ⟨_, rfl⟩)
                  go_wp2_with fail
                  have HLTB := Lib.hid (show bo < wr.heap.size from by omega)
                  refine wp_region_freeK [([], .none, []), ([], .none, []), ([], .none, []), ([], .none, []), ([2, 3], .none, []), ([4], .none, []), ([1, 5], .none, []), ([], .none, []), ([0, 6, 7], .none, []), ([8], .old, [])] [0, 1, 2, 3, 4, 5, 6, 7, 8, 9] [9] (fun _ => False) (fun _ => True) (fun jq9 => match jq9 with | 9 => bo | _ => 0) (fun jq9 V L H wx => match jq9 with | 0 => V 0 = .agg #[.int .i64 rj.fN, .slice a8 rj.fRows.length c8] | 1 => V 1 = .slice (some ⟨b, off, none⟩) lst.length cl | 2 => V 2 = .slice (some ⟨ub, uoff, none⟩) us.length cu | 3 => V 3 = .int .i64 (j : Int) | 4 => V 4 = .pointer (some ⟨ub, uoff + j * 2, none⟩) | 5 => V 5 = .agg #[.int .i64 u.fPos, .string u.fName] | 6 => V 6 = .int .i64 (indexOccurrence lst u) | 7 => V 7 = .int .i64 (k : Int) | 8 => ∃ a7 c7, V 8 = .agg #[.int .i64 (addPair rj (indexOccurrence lst u) (k : Int)).fN, .slice a7 (addPair rj (indexOccurrence lst u) (k : Int)).fRows.length c7] ∧ Own wx (fun y => L ≤ y ∧ y < H) (.sl 1 (addPair rj (indexOccurrence lst u) (k : Int)).fRows.length (fun kk => ictI ((addPair rj (indexOccurrence lst u) (k : Int)).fRows.getD kk default))) (.slice a7 (addPair rj (indexOccurrence lst u) (k : Int)).fRows.length c7) | 9 => ∀ x0 x1, V 8 = .agg #[x0, x1] → wx.heap[bo]? = some (.cells #[x0, x1] 35) | _ => True) (by kernel_rfl) (by kernel_rfl) ?obs (fun _ h => h.elim) trivial (fun _ _ _ _ _ => trivial) ?loc ?lasts ?walk
                  case obs =>
                    exact (And.intro (And.intro HLTB.out (fun h => h)) (And.intro (trivial) (trivial)))
                  case loc =>
                    intro k V V' L H wx h0 h1 hG
                    match k with
                    | 0 =>
                      try dsimp only at hG ⊢
                      rw [← h0]
                      exact hG
                    | 1 =>
                      try dsimp only at hG ⊢
                      rw [← h0]
                      exact hG
                    | 2 =>
                      try dsimp only at hG ⊢
                      rw [← h0]
                      exact hG
                    | 3 =>
                      try dsimp only at hG ⊢
                      rw [← h0]
                      exact hG
                    | 4 =>
                      try dsimp only at hG ⊢
                      rw [← h0]
                      exact hG
                    | 5 =>
                      try dsimp only at hG ⊢
                      rw [← h0]
                      exact hG
                    | 6 =>
                      try dsimp only at hG ⊢
                      rw [← h0]
                      exact hG
                    | 7 =>
                      try dsimp only at hG ⊢
                      rw [← h0]
                      exact hG
                    | 8 =>
                      try dsimp only at hG ⊢
                      rw [← h0]
                      exact hG
                    | 9 =>
                      have e8 := h1 8 (by decide)
                      try dsimp only at hG ⊢
                      rw [← e8]
                      exact hG
                    | n + 10 => trivial
                  case lasts =>
                    intro i hi V L H wx wy hB hH hk
                    match i, hi with
                    | 0, _ => exact fun h => h
                    | 1, _ => exact fun h => h
                    | 2, _ => exact fun h => h
                    | 3, _ => exact fun h => h
                    | 4, _ => exact fun h => h
                    | 5, _ => exact fun h => h
                    | 6, _ => exact fun h => h
                    | 7, _ => exact fun h => h
                    | 8, _ => exact fun ⟨a7, c7, hv, ho0⟩ => ⟨a7, c7, hv, ho0.kept (hk.sub fun x hx => .inr (.inl hx))⟩
                    | 9, _ => exact fun h x0 x1 hv => (hk.2 (bo) (.inr (.inr ⟨rfl, rfl⟩)) (Nat.lt_of_lt_of_le HLTB.out hB)).trans (h x0 x1 hv)
                    | n + 10, hn => exact absurd hn (by simp)
                  case walk =>
                    simp (maxSteps := 4000000) only [freeK, Nat.reduceAdd, Act.put, List.setIfInBounds_toArray, List.set_cons_succ, List.set_cons_zero]
                    refine ⟨?_, ?_, ?_, ?_, ?_, ?_, ?_, ?_, ?_, ?_, ?_⟩
                    · intro V L H wx hw hk hj hd
                      clear hd
                      have x0 : wx.cell? ⟨bo, 0, none⟩ = some (.int .i64 rj.fN) := (hk.cell (p := ⟨bo, 0, none⟩) ⟨HLTB.out, fun h => h, trivial⟩ HLTB.out).trans (pblk_cell HBX8.out rfl)
                      have x1 : wx.cell? ⟨bo, 1, none⟩ = some (.slice a8 rj.fRows.length c8) := (hk.cell (p := ⟨bo, 1, none⟩) ⟨HLTB.out, fun h => h, trivial⟩ HLTB.out).trans (pblk_cell HBX8.out rfl)
                      go_wp2_with fail
                      exact freePost _ rfl ⟨⟨WritesF.refl _ _, hj⟩, upd_self⟩
                    · intro V L H wx hw hk hj hd
                      clear hd
                      go_wp2_with fail
                      exact freePost _ rfl ⟨⟨WritesF.refl _ _, hj⟩, upd_self⟩
                    · intro V L H wx hw hk hj hd
                      clear hd
                      go_wp2_with fail
                      exact freePost _ rfl ⟨⟨WritesF.refl _ _, hj⟩, upd_self⟩
                    · intro V L H wx hw hk hj hd
                      clear hd
                      go_wp2_with fail
                      exact freePost _ rfl ⟨⟨WritesF.refl _ _, hj⟩, upd_self⟩
                    · intro V L H wx hw hk hj hd
                      obtain ⟨⟨hL2, hM2, hH2, hv2⟩, ⟨hL3, hM3, hH3, hv3⟩, -⟩ := hd
                      rw [hv2, hv3]
                      have HV2 := Lib.hid hv2
                      have HV3 := Lib.hid hv3
                      clear hv2 hv3
                      go_wp2_with fail
                      exact freePost _ rfl ⟨⟨WritesF.refl _ _, hj⟩, upd_self⟩
                    · intro V L H wx hw hk hj hd
                      obtain ⟨⟨hL4, hM4, hH4, hv4⟩, -⟩ := hd
                      rw [hv4]
                      have HV4 := Lib.hid hv4
                      clear hv4
                      have u0 : wx.cell? ⟨ub, uoff + j * 2, none⟩ = some (.int .i64 u.fPos) := (hk.cell (p := ⟨ub, uoff + j * 2, none⟩) ⟨hubw, fun h => h, trivial⟩ hubw).trans u0
                      have u1 : wx.cell? ⟨ub, uoff + j * 2 + 1, none⟩ = some (.string u.fName) := (hk.cell (p := ⟨ub, uoff + j * 2 + 1, none⟩) ⟨hubw, fun h => h, trivial⟩ hubw).trans u1
                      go_wp2_with fail
                      exact freePost _ rfl ⟨⟨WritesF.refl _ _, hj⟩, upd_self⟩
                    · intro V L H wx hw hk hj hd
                      obtain ⟨⟨hL1, hM1, hH1, hv1⟩, ⟨hL5, hM5, hH5, hv5⟩, -⟩ := hd
                      rw [hv1, hv5]
                      have HV1 := Lib.hid hv1
                      have HV5 := Lib.hid hv5
                      clear hv1 hv5
                      have HLX := Lib.hid (sl_kept' HSLR.out hk (fun b h1 h2 => ⟨by omega, fun h => h, trivial⟩) (by omega))
                      go_wp2_with fail
                      refine (spec_OccurrenceIndex (c0_0 := cl) lst HLL.out u wx (Nat.le_trans (by omega) hk.1) HLX.out).mono ?_
                      rintro e w2 ⟨rfl, hb2⟩
                      go_wp2_with fail
                      exact freePost _ rfl ⟨⟨(WritesF.refl _ _).later hb2, trivial⟩, upd_self⟩
                    · intro V L H wx hw hk hj hd
                      clear hd
                      go_wp2_with fail
                      exact freePost _ rfl ⟨⟨WritesF.refl _ _, hj⟩, upd_self⟩
                    · intro V L H wx hw hk hj hd
                      obtain ⟨⟨hL0, hM0, hH0, hv0⟩, ⟨hL6, hM6, hH6, hv6⟩, ⟨hL7, hM7, hH7, hv7⟩, -⟩ := hd
                      rw [hv0, hv6, hv7]
                      have HV0 := Lib.hid hv0
                      have HV6 := Lib.hid hv6
                      have HV7 := Lib.hid hv7
                      clear hv0 hv6 hv7
                      have HRX := Lib.hid (show Sl lo8 hi8 wx 1 rj.fRows.length (rowsI rj.fRows) a8 from sl_kept' (Sl.of (HO8.out.lies (fun y hy => hy))) hk (fun b h1 h2 => ⟨by omega, fun h => h, trivial⟩) (by omega))
                      go_wp2_with fail
                      refine (spec_AddPair (c0_0 := c8) rj HXJ.out (indexOccurrence lst u) (k : Int) wx (Nat.le_trans (by omega) hk.1) HRX.out).mono ?_
                      rintro e w2 ⟨a7, c7, rfl, ho7, hb2⟩
                      go_wp2_with fail
                      exact freePost _ rfl ⟨⟨(WritesF.refl _ _).later hb2, trivial⟩, Exists.intro a7 (Exists.intro c7 (And.intro (upd_self) (ho7)))⟩
                    · intro V L H wx hw hk hj hd
                      obtain ⟨⟨hL8, hM8, hH8, a7, c7, hv8, ho8_0⟩, -⟩ := hd
                      rw [hv8]
                      have HV8 := Lib.hid hv8
                      clear hv8
                      have hblk : wx.heap[bo]? = some (.cells #[.int .i64 rj.fN, .slice a8 rj.fRows.length c8] 35) := (hk.2 bo ⟨HLTB.out, fun h => h, trivial⟩ HLTB.out).trans HBX8.out
                      have hc_0 := pblk_cell (j := 0) (v := .int .i64 rj.fN) hblk rfl
                      have hf_0 := pblk_frozen (j := 0) hblk
                      have hc_1 := pblk_cell (j := 1) (v := .slice a8 rj.fRows.length c8) hblk rfl
                      have hf_1 := pblk_frozen (j := 1) hblk
                      have HBLK := Lib.hid hblk
                      clear hblk
                      go_wp2_with fail
                      refine freePost undef rfl ⟨(Touches.put (L := bo) (H := bo + 1) (Touches.put (L := bo) (H := bo + 1) Touches.refl (p := ⟨bo, 0, none⟩) ⟨Nat.le_refl _, (Nat.lt_succ_self _)⟩ _) (p := ⟨bo, 1, none⟩) ⟨Nat.le_refl _, (Nat.lt_succ_self _)⟩ _), fun x0 x1 h => ?_⟩
                      cases (HV8.out.symm.trans ((upd_ne (by decide)).symm.trans h))
                      exact (pblk_put (pblk_put HBLK.out rfl) rfl)
                    · intro V L H wx hw hj hd hap hdead
                      obtain ⟨⟨hL0, hM0, hH0, hv0⟩, ⟨hL1, hM1, hH1, hv1⟩, ⟨hL2, hM2, hH2, hv2⟩, ⟨hL3, hM3, hH3, hv3⟩, ⟨hL4, hM4, hH4, hv4⟩, ⟨hL5, hM5, hH5, hv5⟩, ⟨hL6, hM6, hH6, hv6⟩, ⟨hL7, hM7, hH7, hv7⟩, ⟨hL8, hM8, hH8, a7, c7, hv8, ho8_0⟩, ⟨hL9, hM9, hH9, hst9_⟩, -⟩ := hd
                      have pb9 := hst9_ _ _ hv8
                      rw [hv0, hv1, hv2, hv3, hv4, hv5, hv6, hv7, hv8]
                      clear hv0 hv1 hv2 hv3 hv4 hv5 hv6 hv7 hv8
                      have HBW9 := Lib.hid (show WritesF (fun y => y = bo) wr wx from hw.sub (fun y hy => hy.elim (fun h => h.elim) (fun h => by
                        by_cases e : y = bo
                        · exact e
                        · exact absurd (show y ≠ bo ∧ True from ⟨e, trivial⟩) h)))
                      have HP9 := Lib.hid pb9
                      have HO9 := Lib.hid ho8_0
                      have hl9 : wr.heap.size ≤ L 8 := by assumption
                      have hh9 : H 8 ≤ wx.heap.size := by assumption
                      clear hap hdead pb9 ho8_0
                      generalize L 8 = l9 at *
                      generalize H 8 = h9 at *
                      rw [← HUSj.out] at HP9 HO9
                      go_wp2
                      go_roundw
                      case rel => exact ⟨j + 1, _, _, l9, h9, by omega, by go_num, HP9.out, HO9.out, by omega, .inr (by omega), hh9, HW8.out.trans HBW9.out⟩
                      case measure => simp [intOf]; omega
                · obtain rfl : j = us.length := by omega
                  rw [List.take_length, ← HKS2.out] at HBX8 HO8
                  have HWF := Lib.hid (HW6.out.trans HW8.out)
                  go_wp2
                  go_roundw
                  case rel => exact ⟨k + 1, a8, c8, lo8, hi8, by omega, by go_num, HBX8.out, HO8.out, hlo8, hap8, hhi8, HWF.out⟩
                  case measure => simp [intOf]; omega
      · have HE9 := Lib.hid (HKPk.out (by omega))
        have hN2 : ¬ 0 < (locK x.fEquations lst k).fN := hN
        have HFIN := Lib.hid (show locK x.fEquations lst k = locRel g x from HE9.out.trans HRES.out.symm)
        generalize locK x.fEquations lst k = rk at *
        have HZW := Lib.hid HCZQ.out
        have hz2 : w.heap.size + 2 < wq.heap.size := by omega
        clear HRES HKSk HKPk HKS HKP HKN HKL r0 r1 r2 r3 r4 r5
        go_wp2_with (refine wpList_store_rowTo rfl 35 (.tmp 4) (.tmp 57) rfl rfl (w.heap.size + 2) _ rfl rfl 35 _ HZW.out (by kernel_rfl) rfl (by simp [Value.oneCell']) ?_)
        refine bodyPost_ret (v := .agg #[.int .i64 rk.fN, .slice a9 rk.fRows.length c9]) (results_cell_row Tryz.results6 _ _ (w.heap.size + 2) 35 #[.int .i64 rk.fN, .slice a9 rk.fRows.length c9] (0, 0) _ rfl (setRow_heap _ _ _ _ _ _ HZW.out) Tryz.underlying35 rfl rfl) rfl ?_
        rw [← HFIN.out]
        have hkf : Kept (fun z => z ≠ w.heap.size + 2) wq (wq.setRow (w.heap.size + 2) #[.int .i64 rk.fN, .slice a9 rk.fRows.length c9]) := kept_setRow Kept.refl (fun h => h rfl)
        exact ⟨a9, c9, rfl, (HO.out.kept (hkf.sub fun z hz => by have := hz.1; omega)).sub fun z hz => ⟨by have := hz.1; omega, Nat.lt_of_lt_of_le (Nat.lt_of_lt_of_le hz.2 hhi9) hkf.1⟩, pile_setRow HBQ.out (by omega) _⟩
    · obtain rfl : k = lst.length := by omega
      have HE9 := Lib.hid (show locK x.fEquations lst lst.length = locK x.fEquations lst lst.length from rfl)
      have HFIN := Lib.hid (show locK x.fEquations lst lst.length = locRel g x from HE9.out.trans HRES.out.symm)
      generalize locK x.fEquations lst lst.length = rk at *
      have HZW := Lib.hid HCZQ.out
      have hz2 : w.heap.size + 2 < wq.heap.size := by omega
      clear HRES HKSk HKPk HKS HKP HKN HKL r0 r1 r2 r3 r4 r5
      go_wp2_with (refine wpList_store_rowTo rfl 35 (.tmp 4) (.tmp 57) rfl rfl (w.heap.size + 2) _ rfl rfl 35 _ HZW.out (by kernel_rfl) rfl (by simp [Value.oneCell']) ?_)
      refine bodyPost_ret (v := .agg #[.int .i64 rk.fN, .slice a9 rk.fRows.length c9]) (results_cell_row Tryz.results6 _ _ (w.heap.size + 2) 35 #[.int .i64 rk.fN, .slice a9 rk.fRows.length c9] (0, 0) _ rfl (setRow_heap _ _ _ _ _ _ HZW.out) Tryz.underlying35 rfl rfl) rfl ?_
      rw [← HFIN.out]
      have hkf : Kept (fun z => z ≠ w.heap.size + 2) wq (wq.setRow (w.heap.size + 2) #[.int .i64 rk.fN, .slice a9 rk.fRows.length c9]) := kept_setRow Kept.refl (fun h => h rfl)
      exact ⟨a9, c9, rfl, (HO.out.kept (hkf.sub fun z hz => by have := hz.1; omega)).sub fun z hz => ⟨by have := hz.1; omega, Nat.lt_of_lt_of_le (Nat.lt_of_lt_of_le hz.2 hhi9) hkf.1⟩, pile_setRow HBQ.out (by omega) _⟩
end Go.Proofs.YtnmepemmpeboeaaGreat
namespace Go.Proofs.YtnmepemmpeboeaaGreat
open Go.ChangeShapes Go.WideShapes Go.ChangeAt Go.RowKit Go.Deep

set_option maxHeartbeats 25600000 in
set_option maxRecDepth 100000 in
theorem impl_LocalRelation {lo hi : Nat} {a0 a1 b2 b4 b5 : Option Addr} {c0_0 c0_1 c1_0 c1_1 c1_2 : Nat} (g : DGrammar) (okg : g.ok) (hszg : g.sz ≤ 1048576) (x : DRule) (okx : x.ok) (hszx : x.sz ≤ 1048576) (w : World) (hhi : hi ≤ w.heap.size) (hs0 : Sf lo hi w 2 g.fSymbols.length (fun k => DSymbol.ct (g.fSymbols.getD k default)) a0) (hs1 : Sf lo hi w 6 g.fRules.length (fun k => DRule.ct (g.fRules.getD k default)) a1) (hs2 : Sf lo hi w 1 x.fRight.length (fun k => ictS (x.fRight.getD k default)) b2) (hs4 : Sf lo hi w 9 x.fEquations.length (fun k => DEquation.ct (x.fEquations.getD k default)) b4) (hs5 : Sf lo hi w 16 x.fContributions.length (fun k => DContribution.ct (x.fContributions.getD k default)) b5) :
    Calls Tryz.prog 9 #[.agg #[.slice a0 g.fSymbols.length c0_0, .slice a1 g.fRules.length c0_1], .agg #[.string x.fName, .string x.fLeft, .slice b2 x.fRight.length c1_0, .bool x.fLiteral, .slice b4 x.fEquations.length c1_1, .slice b5 x.fContributions.length c1_2]] w (RelOut (locRel g x) w) := by
  have HB1 := Lib.hid ((((Below.refl w.heap.size w).alloc (Nat.le_refl _) (.cells #[.slice a0 g.fSymbols.length c0_0, .slice a1 g.fRules.length c0_1] 40)).alloc (by simp) (.cells #[.string x.fName, .string x.fLeft, .slice b2 x.fRight.length c1_0, .bool x.fLiteral, .slice b4 x.fEquations.length c1_1, .slice b5 x.fContributions.length c1_2] 45)).alloc (by simp <;> omega) (.cells #[.int .i64 0, .slice none 0 0] 35))
  have HS0 := Lib.hid (fun (W : World) (hW : Below w.heap.size w W) => hs0.later hW hhi)
  have HS1 := Lib.hid (fun (W : World) (hW : Below w.heap.size w W) => hs1.later hW hhi)
  have HS2 := Lib.hid (fun (W : World) (hW : Below w.heap.size w W) => hs2.later hW hhi)
  have HS4 := Lib.hid (fun (W : World) (hW : Below w.heap.size w W) => hs4.later hW hhi)
  have HS5 := Lib.hid (fun (W : World) (hW : Below w.heap.size w W) => hs5.later hW hhi)
  have HHI := Lib.hid hhi
  have HSX := Lib.hid hszx
  have OKX := Lib.hid okx
  have HLST := Lib.hid (occsOf_len hszg hszx)
  have HZE := Lib.hid (fun (oc : DOccurrence) => eqn_sz (l := x.fEquations) (by unfold DRule.sz at hszx; omega) oc)
  have HRES := Lib.hid (show locRel g x = locK x.fEquations (occsOf g x) (occsOf g x).length from rfl)
  have HOC := Lib.hid (impl_OccurrencesOf (c0_0 := c0_0) (c0_1 := c0_1) (c1_0 := c1_0) (c1_1 := c1_1) (c1_2 := c1_2) g okg hszg x okx hszx (((w.alloc (.cells #[.slice a0 g.fSymbols.length c0_0, .slice a1 g.fRules.length c0_1] 40)).alloc (.cells #[.string x.fName, .string x.fLeft, .slice b2 x.fRight.length c1_0, .bool x.fLiteral, .slice b4 x.fEquations.length c1_1, .slice b5 x.fContributions.length c1_2] 45)).alloc (.cells #[.int .i64 0, .slice none 0 0] 35)) (Nat.le_trans hhi HB1.out.size) (HS0.out _ HB1.out).sl (HS1.out _ HB1.out).sl (HS2.out _ HB1.out).sl (HS4.out _ HB1.out).sl (HS5.out _ HB1.out).sl)
  clear hs0 hs1 hs2 hs4 hs5 hhi okg hszg okx hszx
  have HCR := Lib.hid (show (((w.alloc (.cells #[.slice a0 g.fSymbols.length c0_0, .slice a1 g.fRules.length c0_1] 40)).alloc (.cells #[.string x.fName, .string x.fLeft, .slice b2 x.fRight.length c1_0, .bool x.fLiteral, .slice b4 x.fEquations.length c1_1, .slice b5 x.fContributions.length c1_2] 45)).alloc (.cells #[.int .i64 0, .slice none 0 0] 35)).heap[w.heap.size + 1]? = some (.cells #[.string x.fName, .string x.fLeft, .slice b2 x.fRight.length c1_0, .bool x.fLiteral, .slice b4 x.fEquations.length c1_1, .slice b5 x.fContributions.length c1_2] 45) from blk_alloc (by simp) (blk_new (by simp)))
  have HCZ := Lib.hid (show (((w.alloc (.cells #[.slice a0 g.fSymbols.length c0_0, .slice a1 g.fRules.length c0_1] 40)).alloc (.cells #[.string x.fName, .string x.fLeft, .slice b2 x.fRight.length c1_0, .bool x.fLiteral, .slice b4 x.fEquations.length c1_1, .slice b5 x.fContributions.length c1_2] 45)).alloc (.cells #[.int .i64 0, .slice none 0 0] 35)).heap[w.heap.size + 2]? = some (.cells #[.int .i64 0, .slice none 0 0] 35) from blk_new (by simp))
  have HZ1 := Lib.hid (show (((w.alloc (.cells #[.slice a0 g.fSymbols.length c0_0, .slice a1 g.fRules.length c0_1] 40)).alloc (.cells #[.string x.fName, .string x.fLeft, .slice b2 x.fRight.length c1_0, .bool x.fLiteral, .slice b4 x.fEquations.length c1_1, .slice b5 x.fContributions.length c1_2] 45)).alloc (.cells #[.int .i64 0, .slice none 0 0] 35)).heap.size = w.heap.size + 3 by simp)
  go_enter Tryz.func9, Tryz.ntmps9
  go_wp2_with fail
  refine HOC.out.mono ?_
  rintro e wl0 ⟨al, cl, rfl, hol, hbl0⟩
  have hszl : w.heap.size + 3 ≤ wl0.heap.size := by have := hbl0.size; rw [HZ1.out] at this; exact this
  have HSL := Lib.hid (show Sl (w.heap.size + 3) wl0.heap.size wl0 2 (occsOf g x).length (fun k => DOccurrence.ct ((occsOf g x).getD k default)) al from Sl.of (hol.lies fun y hy => ⟨by have h := hy.1; rw [HZ1.out] at h; exact h, hy.2⟩))
  have HBL := Lib.hid (HB1.out.trans (hbl0.mono HB1.out.size))
  have HCR1 := Lib.hid ((hbl0.block (w.heap.size + 1) (by rw [HZ1.out]; omega)).trans HCR.out)
  have HCZ1 := Lib.hid ((hbl0.block (w.heap.size + 2) (by rw [HZ1.out]; omega)).trans HCZ.out)
  clear HOC hol hbl0 HCR HCZ HB1 HZ1
  generalize occsOf g x = lst at *
  have hlstn := HLST.out
  by_cases h16 : 16 < lst.length
  · have hd16 : ((16 : Int) < (lst.length : Int)) := by omega
    have FIN := Lib.hid (show locRel g x = ⟨0, []⟩ by rw [HRES.out]; exact locK_great h16)
    clear HRES
    go_wp2_with (first | (refine wpList_buildTo rfl 35 _ rfl (some 19) rfl #[.int .i64 0, .slice none 0 0] (by kernel_rfl) ?_) | (refine wpList_store_rowTo rfl 35 (.tmp 4) (.tmp 19) rfl rfl (w.heap.size + 2) #[.int .i64 0, .slice none 0 0] rfl rfl 35 _ HCZ1.out (by kernel_rfl) rfl (by kernel_rfl) ?_))
    refine bodyPost_ret (v := .agg #[.int .i64 0, .slice none 0 0]) (results_cell_row Tryz.results9 _ _ (w.heap.size + 2) 35 #[.int .i64 0, .slice none 0 0] (0, 0) _ rfl (setRow_heap _ _ _ _ _ _ HCZ1.out) Tryz.underlying35 rfl rfl) rfl ?_
    rw [FIN.out]
    exact ⟨none, 0, rfl, .nil _ _ _ _ _, pile_setRow HBL.out (by omega) _⟩
  · skip
    have hn16 : lst.length ≤ 16 := by omega
    have hd16 : ¬ ((16 : Int) < (lst.length : Int)) := by omega
    go_wp2_with fail
    refine (impl_EmptyRelation (lst.length : Int) ⟨by omega, by omega⟩ wl0).mono ?_
    rintro e w2 ⟨ae, ce, rfl, hoe, hbe⟩
    have HCR2 := Lib.hid ((hbe.block (w.heap.size + 1) (by omega)).trans HCR1.out)
    have HCZ2 := Lib.hid ((hbe.block (w.heap.size + 2) (by omega)).trans HCZ1.out)
    have hsz2 : wl0.heap.size ≤ w2.heap.size := hbe.size
    have HBL2 := Lib.hid (HBL.out.trans (hbe.mono HBL.out.size))
    have HSL2 := Lib.hid (HSL.out.later hbe (Nat.le_refl _))
    have HOE := Lib.hid hoe
    have HK0 := Lib.hid (show emptyRel (lst.length : Int) = locK x.fEquations lst 0 from rfl)
    have HKS := Lib.hid (fun k => show locK x.fEquations lst (k + 1) = addUses lst (k : Int) (locK x.fEquations lst k) (attrUses (eqnE x.fEquations (lst.getD k default))) from rfl)
    have HKL := Lib.hid (fun k => locK_len x.fEquations lst k)
    have HKP := Lib.hid (fun k (h : (locK x.fEquations lst k).fN ≤ 0) => locK_stop h)
    have HKN := Lib.hid (fun k => locK_N x.fEquations lst k)
    rw [HK0.out] at HOE ⊢
    clear HK0 hbe hoe HBL HCR1 HCZ1 HSL
    have HWL := Lib.hid (show (w2.alloc (.cells #[.int .i64 (locK x.fEquations lst 0).fN, .slice ae (locK x.fEquations lst 0).fRows.length ce] 35)).heap[w2.heap.size]? = some (.cells #[.int .i64 (locK x.fEquations lst 0).fN, .slice ae (locK x.fEquations lst 0).fRows.length ce] 35) from blk_new rfl)
    have HB3 := Lib.hid (show Below w2.heap.size w2 (w2.alloc (.cells #[.int .i64 (locK x.fEquations lst 0).fN, .slice ae (locK x.fEquations lst 0).fRows.length ce] 35)) from (Below.refl _ _).alloc (Nat.le_refl _) _)
    have HZ3 := Lib.hid (show (w2.alloc (.cells #[.int .i64 (locK x.fEquations lst 0).fN, .slice ae (locK x.fEquations lst 0).fRows.length ce] 35)).heap.size = w2.heap.size + 1 by simp)
    have HOE3 := Lib.hid (HOE.out.kept (Kept.of_below_all HB3.out))
    have HCR3 := Lib.hid ((HB3.out.block (w.heap.size + 1) (by omega)).trans HCR2.out)
    have HCZ3 := Lib.hid ((HB3.out.block (w.heap.size + 2) (by omega)).trans HCZ2.out)
    have HBL3 := Lib.hid (HBL2.out.trans (HB3.out.mono HBL2.out.size))
    have HSL3 := Lib.hid (HSL2.out.later HB3.out (by omega))
    clear HOE HCR2 HCZ2 HBL2 HSL2 HB3
    go_wp2
    obtain ⟨bo, hbo⟩ : ∃ b : Nat, b = w2.heap.size := ⟨_, rfl⟩
    have HBO := Lib.hid hbo
    have hbo1 : wl0.heap.size ≤ bo := by omega
    rw [← hbo] at HWL HOE3 HZ3 ⊢
    clear hbo
    generalize w2.alloc (.cells #[.int .i64 (locK x.fEquations lst 0).fN, .slice ae (locK x.fEquations lst 0).fRows.length ce] 35) = wl at *
    have hblt : bo < wl.heap.size := by rw [HZ3.out]; omega
    go_loopw [25] (fun i wr => ∃ (k : Nat) (a9 : Option Addr) (c9 lo9 hi9 : Nat), k ≤ lst.length ∧ i = .int .i64 (k : Int) ∧ wr.heap[bo]? = some (.cells #[.int .i64 (locK x.fEquations lst k).fN, .slice a9 (locK x.fEquations lst k).fRows.length c9] 35) ∧ Own wr (fun y => lo9 ≤ y ∧ y < hi9) (.sl 1 (locK x.fEquations lst k).fRows.length (fun kk => ictI ((locK x.fEquations lst k).fRows.getD kk default))) (.slice a9 (locK x.fEquations lst k).fRows.length c9) ∧ w.heap.size + 3 ≤ lo9 ∧ (hi9 ≤ bo ∨ bo < lo9) ∧ hi9 ≤ wr.heap.size ∧ WritesF (fun y => y = bo) wl wr) (fun i _ => lst.length - (intOf i).toNat)
    case atStart => exact ⟨0, ae, ce, wl0.heap.size, bo, Nat.zero_le _, rfl, HWL.out, HOE3.out, hszl, .inl (Nat.le_refl _), Nat.le_of_lt hblt, WritesF.refl _ _⟩
    case round =>
      obtain ⟨k, a9, c9, lo9, hi9, hk, rfl, hbx, hown, hlo9, hap9, hhi9, hwf⟩ := hrel
      obtain ⟨wq, rfl⟩ : ∃ wq : World, wq = wr := ⟨_, rfl⟩
      have HBX := Lib.hid hbx
      have HO := Lib.hid hown
      have HW := Lib.hid hwf
      have hszq : wl.heap.size ≤ wq.heap.size := hwf.size
      have HBQ := Lib.hid (show Below w.heap.size w wq from HBL3.out.trans (hwf.below (fun y hy => by have e : y = bo := hy; omega) HBL3.out.size))
      have HSQ := Lib.hid (HSL3.out.frame (fun b o h1 h2 => World.cell?_of_block (a := ⟨b, o, none⟩) (hwf.block b (by omega) (fun e => by have e : b = bo := e; omega))))
      have HCRQ := Lib.hid ((hwf.block (w.heap.size + 1) (by omega) (fun e => by have e : w.heap.size + 1 = bo := e; omega)).trans HCR3.out)
      have HCZQ := Lib.hid ((hwf.block (w.heap.size + 2) (by omega) (fun e => by have e : w.heap.size + 2 = bo := e; omega)).trans HCZ3.out)
      have hx0 := pblk_cell (j := 0) (v := .int .i64 (locK x.fEquations lst k).fN) hbx rfl
      have hx1 := pblk_cell (j := 1) (v := .slice a9 (locK x.fEquations lst k).fRows.length c9) hbx rfl
      have hbq : bo < wq.heap.size := by omega
      have hk1 : w.heap.size + 1 < wq.heap.size := by omega
      have hjn : -9223372036854775808 ≤ (k : Int) ∧ (k : Int) ≤ 9223372036854775807 := by omega
      have r0 : wq.cell? ⟨w.heap.size + 1, 0, none⟩ = some (.string x.fName) := pblk_cell (j := 0) (v := .string x.fName) HCRQ.out rfl
      have r1 : wq.cell? ⟨w.heap.size + 1, 1, none⟩ = some (.string x.fLeft) := pblk_cell (j := 1) (v := .string x.fLeft) HCRQ.out rfl
      have r2 : wq.cell? ⟨w.heap.size + 1, 2, none⟩ = some (.slice b2 x.fRight.length c1_0) := pblk_cell (j := 2) (v := .slice b2 x.fRight.length c1_0) HCRQ.out rfl
      have r3 : wq.cell? ⟨w.heap.size + 1, 3, none⟩ = some (.bool x.fLiteral) := pblk_cell (j := 3) (v := .bool x.fLiteral) HCRQ.out rfl
      have r4 : wq.cell? ⟨w.heap.size + 1, 4, none⟩ = some (.slice b4 x.fEquations.length c1_1) := pblk_cell (j := 4) (v := .slice b4 x.fEquations.length c1_1) HCRQ.out rfl
      have r5 : wq.cell? ⟨w.heap.size + 1, 5, none⟩ = some (.slice b5 x.fContributions.length c1_2) := pblk_cell (j := 5) (v := .slice b5 x.fContributions.length c1_2) HCRQ.out rfl
      clear hown hwf hbx
      have HKLk := Lib.hid (HKL.out k)
      have HKPk := Lib.hid (HKP.out k)
      have HKSk := Lib.hid (HKS.out k)
      by_cases hlt : k < lst.length
      · skip
        obtain ⟨b, off, rfl, hblo, hbhi, hc⟩ := HSQ.out.at k hlt
        obtain ⟨q0, q1⟩ := DOccurrence.open hc
        have hbw : b < wq.heap.size := by omega
        have htI : (0 : Int) ≤ (k : Int) ∧ (k : Int) < (lst.length : Int) := by omega
        have HKS1 := HKSk.out
        have HZY := Lib.hid (HZE.out (lst.getD k default))
        have HNO := Lib.hid (fun (h : eqnB x.fEquations (lst.getD k default) = false) => (show attrUses (eqnE x.fEquations (lst.getD k default)) = [] by
          unfold eqnB at h
          unfold eqnE
          rw [if_neg (by simpa using h)]
          rfl))
        clear hc
        generalize lst.getD k default = oc at *
        have HKS2 := Lib.hid HKS1
        clear HKS1 HKS HKSk
        generalize locK x.fEquations lst k = rk at *
        have HBA := Lib.hid (show Below wq.heap.size wq (wq.alloc (.cells #[.int .i64 oc.fPos, .string oc.fName] 68)) from (Below.refl _ _).alloc (Nat.le_refl _) _)
        have HBA2 := Lib.hid (HBQ.out.trans (HBA.out.mono HBQ.out.size))
        have HCE := Lib.hid (impl_equationAt (b2 := b2) (b5 := b5) (c1_0 := c1_0) (c1_1 := c1_1) (c1_2 := c1_2) x HSX.out oc (wq.alloc (.cells #[.int .i64 oc.fPos, .string oc.fName] 68)) (Nat.le_trans HHI.out HBA2.out.size) (HS4.out _ HBA2.out))
        go_wp2_with fail
        refine HCE.out.mono ?_
        rintro e w5 ⟨⟨ay, cy, rfl, hoy⟩, hb5⟩
        clear HCE
        have HB1 := Lib.hid (show Below wq.heap.size wq (w5.alloc (.cells #[.int .i64 (eqnE x.fEquations oc).fKind, .int .i64 (eqnE x.fEquations oc).fN, .int .i64 (eqnE x.fEquations oc).fPos, .int .i64 (eqnE x.fEquations oc).fType, .string (eqnE x.fEquations oc).fSymbol, .string (eqnE x.fEquations oc).fName, .slice ay (eqnE x.fEquations oc).fArgs.length cy] 64)) from (HBA.out.trans (hb5.mono HBA.out.size)).alloc (by have := (HBA.out.trans (hb5.mono HBA.out.size)).size; exact this) _)
        have HSY := Lib.hid ((hoy.later ((Below.refl w5.heap.size w5).alloc (Nat.le_refl _) (.cells #[.int .i64 (eqnE x.fEquations oc).fKind, .int .i64 (eqnE x.fEquations oc).fN, .int .i64 (eqnE x.fEquations oc).fPos, .int .i64 (eqnE x.fEquations oc).fType, .string (eqnE x.fEquations oc).fSymbol, .string (eqnE x.fEquations oc).fName, .slice ay (eqnE x.fEquations oc).fArgs.length cy] 64)) (Nat.le_trans HHI.out (Nat.le_trans HBA2.out.size hb5.size))))
        have HHW := Lib.hid (show hi ≤ (w5.alloc (.cells #[.int .i64 (eqnE x.fEquations oc).fKind, .int .i64 (eqnE x.fEquations oc).fN, .int .i64 (eqnE x.fEquations oc).fPos, .int .i64 (eqnE x.fEquations oc).fType, .string (eqnE x.fEquations oc).fSymbol, .string (eqnE x.fEquations oc).fName, .slice ay (eqnE x.fEquations oc).fArgs.length cy] 64)).heap.size from Nat.le_trans HHI.out (Nat.le_trans HBQ.out.size HB1.out.size))
        have HEB := Lib.hid (show (w5.alloc (.cells #[.int .i64 (eqnE x.fEquations oc).fKind, .int .i64 (eqnE x.fEquations oc).fN, .int .i64 (eqnE x.fEquations oc).fPos, .int .i64 (eqnE x.fEquations oc).fType, .string (eqnE x.fEquations oc).fSymbol, .string (eqnE x.fEquations oc).fName, .slice ay (eqnE x.fEquations oc).fArgs.length cy] 64)).heap[w5.heap.size]? = some (.cells #[.int .i64 (eqnE x.fEquations oc).fKind, .int .i64 (eqnE x.fEquations oc).fN, .int .i64 (eqnE x.fEquations oc).fPos, .int .i64 (eqnE x.fEquations oc).fType, .string (eqnE x.fEquations oc).fSymbol, .string (eqnE x.fEquations oc).fName, .slice ay (eqnE x.fEquations oc).fArgs.length cy] 64) from blk_new rfl)
        clear hoy hb5 HBA HBA2 q0 q1 hx0 hx1 r0 r1 r2 r3 r4 r5
        go_wp2_with (first | (refine wpList_store_rowTo rfl 64 (.tmp 9) (.tmp 34) rfl rfl w5.heap.size _ rfl rfl 64 _ (blk_new rfl) (by kernel_rfl) rfl (by simp [Value.oneCell']) ?_; rw [setRow_newR rfl]; refine Stop.of ?_))
        generalize w5.alloc (.cells #[.int .i64 (eqnE x.fEquations oc).fKind, .int .i64 (eqnE x.fEquations oc).fN, .int .i64 (eqnE x.fEquations oc).fPos, .int .i64 (eqnE x.fEquations oc).fType, .string (eqnE x.fEquations oc).fSymbol, .string (eqnE x.fEquations oc).fName, .slice ay (eqnE x.fEquations oc).fArgs.length cy] 64) = w1 at *
        have hsz1 : wq.heap.size ≤ w1.heap.size := HB1.out.size
        have HBX1 := Lib.hid ((HB1.out.block bo hbq).trans HBX.out)
        have HO1 := Lib.hid (HO.out.kept (Kept.of_below HB1.out (fun y hy => by have := hy.2; omega)))
        have HW1 := Lib.hid (HW.out.later HB1.out)
        have HBW1 := Lib.hid (HBQ.out.trans (HB1.out.mono HBQ.out.size))
        have HSL1 := Lib.hid (HSQ.out.later HB1.out (by omega))
        generalize hyy : (eqnE x.fEquations oc) = y at *
        clear hyy
        skip
        go_wp2_with fail
        refine (impl_AttrUsesL (c0_0 := cy) y HZY.out w1 HHW.out HSY.out).mono ?_
        rintro e w6 ⟨au, cu, rfl, hou, hb6⟩
        have hsz6 : w1.heap.size ≤ w6.heap.size := hb6.size
        have HSU := Lib.hid (show Sl w1.heap.size w6.heap.size w6 2 (attrUses y).length (fun k => DOccurrence.ct ((attrUses y).getD k default)) au from Sl.of (hou.lies fun y hy => hy))
        have HBX6 := Lib.hid ((hb6.block bo (by omega)).trans HBX1.out)
        have HO6 := Lib.hid (HO1.out.kept (Kept.of_below hb6 (fun y hy => by have := hy.2; omega)))
        have HW6 := Lib.hid (HW1.out.later hb6)
        have HSL6 := Lib.hid (HSL1.out.later hb6 (by omega))
        have HLU := Lib.hid (attrUses_len HZY.out)
        clear hou hb6 HBX1 HO1 HW1 HSL1
        generalize attrUses y = us at *
        have hlu := HLU.out
        have HUL := Lib.hid (fun j => Nat.le_trans (Nat.le_of_eq (addUses_len lst (k : Int) (us.take j) rk)) HKLk.out)
        have HUS := Lib.hid (fun j (hj : j < us.length) => addUses_step (lst := lst) (k := (k : Int)) (r := rk) hj)
        go_wp2
        go_loopw [39] (fun i wr => ∃ (j : Nat) (a9 : Option Addr) (c9 lo9 hi9 : Nat), j ≤ us.length ∧ i = .int .i64 (j : Int) ∧ wr.heap[bo]? = some (.cells #[.int .i64 (addUses lst (k : Int) rk (us.take j)).fN, .slice a9 (addUses lst (k : Int) rk (us.take j)).fRows.length c9] 35) ∧ Own wr (fun y => lo9 ≤ y ∧ y < hi9) (.sl 1 (addUses lst (k : Int) rk (us.take j)).fRows.length (fun kk => ictI ((addUses lst (k : Int) rk (us.take j)).fRows.getD kk default))) (.slice a9 (addUses lst (k : Int) rk (us.take j)).fRows.length c9) ∧ w.heap.size + 3 ≤ lo9 ∧ (hi9 ≤ bo ∨ bo < lo9) ∧ hi9 ≤ wr.heap.size ∧ WritesF (fun y => y = bo) w6 wr) (fun i _ => us.length - (intOf i).toNat)
        case atStart => exact ⟨0, a9, c9, lo9, hi9, Nat.zero_le _, rfl, HBX6.out, HO6.out, hlo9, hap9, by omega, WritesF.refl _ _⟩
        case round =>
          obtain ⟨j, a8, c8, lo8, hi8, hj, rfl, hbx8, ho8, hlo8, hap8, hhi8, hwf8⟩ := hrel
          have HBX8 := Lib.hid hbx8
          have HO8 := Lib.hid ho8
          have HW8 := Lib.hid hwf8
          have hszr : w6.heap.size ≤ wr.heap.size := hwf8.size
          have hbr : bo < wr.heap.size := by omega
          have hkn : -9223372036854775808 ≤ (j : Int) ∧ (j : Int) ≤ 9223372036854775807 := by omega
          clear hbx8 ho8 hwf8
          by_cases hlt2 : j < us.length
          · obtain ⟨ub, uoff, rfl, hulo, huhi, huc⟩ := (HSU.out.frame (w' := wr) (fun b o h1 h2 => World.cell?_of_block (a := ⟨b, o, none⟩) (HW8.out.block b (by omega) (fun e => by have e : b = bo := e; omega)))).at j hlt2
            obtain ⟨u0, u1⟩ := DOccurrence.open huc
            have hubw : ub < wr.heap.size := by omega
            have htJ : (0 : Int) ≤ (j : Int) ∧ (j : Int) < (us.length : Int) := by omega
            have HUSj := Lib.hid (HUS.out j hlt2)
            have HULj := Lib.hid (HUL.out j)
            have HSLR := Lib.hid (HSL6.out.frame (w' := wr) (fun b o h1 h2 => World.cell?_of_block (a := ⟨b, o, none⟩) (HW8.out.block b (by omega) (fun e => by have e : b = bo := e; omega))))
            have HLL := Lib.hid (show lst.length ≤ 1048576 from by omega)
            clear huc
            generalize us.getD j default = u at *
            generalize addUses lst (k : Int) rk (us.take j) = rj at *
            have HXJ := Lib.hid (show rj.sz ≤ 1048576 by have := HULj.out; unfold DRelation.sz; rw [lsz_zero]; omega)
            have HU := Lib.hid (show ∃ z : Int, z = indexOccurrence lst u from ⟨_, rfl⟩)
            have HBU := Lib.hid (show Below wr.heap.size wr (wr.alloc (.cells #[.int .i64 u.fPos, .string u.fName] 68)) from (Below.refl _ _).alloc (Nat.le_refl _) _)
            have HUB := Lib.hid (show (wr.alloc (.cells #[.int .i64 u.fPos, .string u.fName] 68)).heap[wr.heap.size]? = some (.cells #[.int .i64 u.fPos, .string u.fName] 68) from blk_new rfl)
            have HUZ := Lib.hid (show (wr.alloc (.cells #[.int .i64 u.fPos, .string u.fName] 68)).heap.size = wr.heap.size + 1 by simp)
            go_wp2_with fail
            have HBXv := Lib.hid ((HBU.out.block bo hbr).trans HBX8.out)
            have HOv := Lib.hid (HO8.out.kept (Kept.of_below HBU.out (fun y hy => by have := hy.2; omega)))
            have HWv := Lib.hid (HW8.out.later HBU.out)
            have HSLv := Lib.hid (HSLR.out.later HBU.out (by omega))
            generalize hwv : wr.alloc (.cells #[.int .i64 u.fPos, .string u.fName] 68) = wv at *
            have hszv : wv.heap.size = wr.heap.size + 1 := HUZ.out
            clear hwv HUZ
            have HSZV := Lib.hid hszv
            clear hszv
            have HLTB := Lib.hid (show bo < wv.heap.size from by have := HSZV.out; omega)
            refine wp_region_freeK [([], .none, []), ([], .none, []), ([], .none, []), ([1, 2], .none, []), ([], .none, []), ([0, 3, 4], .none, []), ([5], .old, [])] [0, 1, 2, 3, 4, 5, 6] [6] (fun _ => False) (fun _ => True) (fun jq9 => match jq9 with | 6 => bo | _ => 0) (fun jq9 V L H wx => match jq9 with | 0 => V 0 = .agg #[.int .i64 rj.fN, .slice a8 rj.fRows.length c8] | 1 => V 1 = .slice (some ⟨b, off, none⟩) lst.length cl | 2 => V 2 = .agg #[.int .i64 u.fPos, .string u.fName] | 3 => V 3 = .int .i64 (indexOccurrence lst u) | 4 => V 4 = .int .i64 (k : Int) | 5 => ∃ a7 c7, V 5 = .agg #[.int .i64 (addPair rj (indexOccurrence lst u) (k : Int)).fN, .slice a7 (addPair rj (indexOccurrence lst u) (k : Int)).fRows.length c7] ∧ Own wx (fun y => L ≤ y ∧ y < H) (.sl 1 (addPair rj (indexOccurrence lst u) (k : Int)).fRows.length (fun kk => ictI ((addPair rj (indexOccurrence lst u) (k : Int)).fRows.getD kk default))) (.slice a7 (addPair rj (indexOccurrence lst u) (k : Int)).fRows.length c7) | 6 => ∀ x0 x1, V 5 = .agg #[x0, x1] → wx.heap[bo]? = some (.cells #[x0, x1] 35) | _ => True) (by kernel_rfl) (by kernel_rfl) ?obs (fun _ h => h.elim) trivial (fun _ _ _ _ _ => trivial) ?loc ?lasts ?walk
            case obs =>
              exact (And.intro (And.intro HLTB.out (fun h => h)) (And.intro (trivial) (trivial)))
            case loc =>
              intro k V V' L H wx h0 h1 hG
              match k with
              | 0 =>
                try dsimp only at hG ⊢
                rw [← h0]
                exact hG
              | 1 =>
                try dsimp only at hG ⊢
                rw [← h0]
                exact hG
              | 2 =>
                try dsimp only at hG ⊢
                rw [← h0]
                exact hG
              | 3 =>
                try dsimp only at hG ⊢
                rw [← h0]
                exact hG
              | 4 =>
                try dsimp only at hG ⊢
                rw [← h0]
                exact hG
              | 5 =>
                try dsimp only at hG ⊢
                rw [← h0]
                exact hG
              | 6 =>
                have e5 := h1 5 (by decide)
                try dsimp only at hG ⊢
                rw [← e5]
                exact hG
              | n + 7 => trivial
            case lasts =>
              intro i hi V L H wx wy hB hH hk
              match i, hi with
              | 0, _ => exact fun h => h
              | 1, _ => exact fun h => h
              | 2, _ => exact fun h => h
              | 3, _ => exact fun h => h
              | 4, _ => exact fun h => h
              | 5, _ => exact fun ⟨a7, c7, hv, ho0⟩ => ⟨a7, c7, hv, ho0.kept (hk.sub fun x hx => .inr (.inl hx))⟩
              | 6, _ => exact fun h x0 x1 hv => (hk.2 (bo) (.inr (.inr ⟨rfl, rfl⟩)) (Nat.lt_of_lt_of_le HLTB.out hB)).trans (h x0 x1 hv)
              | n + 7, hn => exact absurd hn (by simp)
            case walk =>
              simp (maxSteps := 4000000) only [freeK, Nat.reduceAdd, Act.put, List.setIfInBounds_toArray, List.set_cons_succ, List.set_cons_zero]
              refine ⟨?_, ?_, ?_, ?_, ?_, ?_, ?_, ?_⟩
              · intro V L H wx hw hk hj hd
                clear hd
                have x0 : wx.cell? ⟨bo, 0, none⟩ = some (.int .i64 rj.fN) := (hk.cell (p := ⟨bo, 0, none⟩) ⟨HLTB.out, fun h => h, trivial⟩ HLTB.out).trans (pblk_cell HBXv.out rfl)
                have x1 : wx.cell? ⟨bo, 1, none⟩ = some (.slice a8 rj.fRows.length c8) := (hk.cell (p := ⟨bo, 1, none⟩) ⟨HLTB.out, fun h => h, trivial⟩ HLTB.out).trans (pblk_cell HBXv.out rfl)
                go_wp2_with fail
                exact freePost _ rfl ⟨⟨WritesF.refl _ _, hj⟩, upd_self⟩
              · intro V L H wx hw hk hj hd
                clear hd
                go_wp2_with fail
                exact freePost _ rfl ⟨⟨WritesF.refl _ _, hj⟩, upd_self⟩
              · intro V L H wx hw hk hj hd
                clear hd
                have u0 : wx.cell? ⟨wr.heap.size, 0, none⟩ = some (.int .i64 u.fPos) := (hk.cell (p := ⟨wr.heap.size, 0, none⟩) ⟨(show wr.heap.size < wv.heap.size by have := HSZV.out; omega), fun h => h, trivial⟩ (show wr.heap.size < wv.heap.size by have := HSZV.out; omega)).trans (pblk_cell HUB.out rfl)
                have u1 : wx.cell? ⟨wr.heap.size, 1, none⟩ = some (.string u.fName) := (hk.cell (p := ⟨wr.heap.size, 1, none⟩) ⟨(show wr.heap.size < wv.heap.size by have := HSZV.out; omega), fun h => h, trivial⟩ (show wr.heap.size < wv.heap.size by have := HSZV.out; omega)).trans (pblk_cell HUB.out rfl)
                go_wp2_with fail
                exact freePost _ rfl ⟨⟨WritesF.refl _ _, hj⟩, upd_self⟩
              · intro V L H wx hw hk hj hd
                obtain ⟨⟨hL1, hM1, hH1, hv1⟩, ⟨hL2, hM2, hH2, hv2⟩, -⟩ := hd
                rw [hv1, hv2]
                have HV1 := Lib.hid hv1
                have HV2 := Lib.hid hv2
                clear hv1 hv2
                have HLX := Lib.hid (sl_kept' HSLv.out hk (fun b h1 h2 => ⟨by have := HSZV.out; omega, fun h => h, trivial⟩) (by have := HSZV.out; omega))
                go_wp2_with fail
                refine (impl_OccurrenceIndex (c0_0 := cl) lst HLL.out u wx (Nat.le_trans (by have := HSZV.out; omega) hk.1) HLX.out).mono ?_
                rintro e w2 ⟨rfl, hb2⟩
                go_wp2_with fail
                exact freePost _ rfl ⟨⟨(WritesF.refl _ _).later hb2, trivial⟩, upd_self⟩
              · intro V L H wx hw hk hj hd
                clear hd
                go_wp2_with fail
                exact freePost _ rfl ⟨⟨WritesF.refl _ _, hj⟩, upd_self⟩
              · intro V L H wx hw hk hj hd
                obtain ⟨⟨hL0, hM0, hH0, hv0⟩, ⟨hL3, hM3, hH3, hv3⟩, ⟨hL4, hM4, hH4, hv4⟩, -⟩ := hd
                rw [hv0, hv3, hv4]
                have HV0 := Lib.hid hv0
                have HV3 := Lib.hid hv3
                have HV4 := Lib.hid hv4
                clear hv0 hv3 hv4
                have HRX := Lib.hid (show Sl lo8 hi8 wx 1 rj.fRows.length (rowsI rj.fRows) a8 from sl_kept' (Sl.of (HOv.out.lies (fun y hy => hy))) hk (fun b h1 h2 => ⟨by have := HSZV.out; omega, fun h => h, trivial⟩) (by have := HSZV.out; omega))
                go_wp2_with fail
                refine (impl_AddPair (c0_0 := c8) rj HXJ.out (indexOccurrence lst u) (k : Int) wx (Nat.le_trans (by have := HSZV.out; omega) hk.1) HRX.out).mono ?_
                rintro e w2 ⟨a7, c7, rfl, ho7, hb2⟩
                go_wp2_with fail
                exact freePost _ rfl ⟨⟨(WritesF.refl _ _).later hb2, trivial⟩, Exists.intro a7 (Exists.intro c7 (And.intro (upd_self) (ho7)))⟩
              · intro V L H wx hw hk hj hd
                obtain ⟨⟨hL5, hM5, hH5, a7, c7, hv5, ho5_0⟩, -⟩ := hd
                rw [hv5]
                have HV5 := Lib.hid hv5
                clear hv5
                have hblk : wx.heap[bo]? = some (.cells #[.int .i64 rj.fN, .slice a8 rj.fRows.length c8] 35) := (hk.2 bo ⟨HLTB.out, fun h => h, trivial⟩ HLTB.out).trans HBXv.out
                have hc_0 := pblk_cell (j := 0) (v := .int .i64 rj.fN) hblk rfl
                have hf_0 := pblk_frozen (j := 0) hblk
                have hc_1 := pblk_cell (j := 1) (v := .slice a8 rj.fRows.length c8) hblk rfl
                have hf_1 := pblk_frozen (j := 1) hblk
                have HBLK := Lib.hid hblk
                clear hblk
                go_wp2_with fail
                refine freePost undef rfl ⟨(Touches.put (L := bo) (H := bo + 1) (Touches.put (L := bo) (H := bo + 1) Touches.refl (p := ⟨bo, 0, none⟩) ⟨Nat.le_refl _, (Nat.lt_succ_self _)⟩ _) (p := ⟨bo, 1, none⟩) ⟨Nat.le_refl _, (Nat.lt_succ_self _)⟩ _), fun x0 x1 h => ?_⟩
                cases (HV5.out.symm.trans ((upd_ne (by decide)).symm.trans h))
                exact (pblk_put (pblk_put HBLK.out rfl) rfl)
              · intro V L H wx hw hj hd hap hdead
                obtain ⟨⟨hL0, hM0, hH0, hv0⟩, ⟨hL1, hM1, hH1, hv1⟩, ⟨hL2, hM2, hH2, hv2⟩, ⟨hL3, hM3, hH3, hv3⟩, ⟨hL4, hM4, hH4, hv4⟩, ⟨hL5, hM5, hH5, a7, c7, hv5, ho5_0⟩, ⟨hL6, hM6, hH6, hst6_⟩, -⟩ := hd
                have pb6 := hst6_ _ _ hv5
                rw [hv0, hv1, hv2, hv3, hv4, hv5]
                clear hv0 hv1 hv2 hv3 hv4 hv5
                have HBW9 := Lib.hid (show WritesF (fun y => y = bo) wv wx from hw.sub (fun y hy => hy.elim (fun h => h.elim) (fun h => by
                  by_cases e : y = bo
                  · exact e
                  · exact absurd (show y ≠ bo ∧ True from ⟨e, trivial⟩) h)))
                have HP9 := Lib.hid pb6
                have HO9 := Lib.hid ho5_0
                have hl9 : wv.heap.size ≤ L 5 := by assumption
                have hh9 : H 5 ≤ wx.heap.size := by assumption
                clear hap hdead pb6 ho5_0
                generalize L 5 = l9 at *
                generalize H 5 = h9 at *
                rw [← HUSj.out] at HP9 HO9
                go_wp2
                go_roundw
                case rel => exact ⟨j + 1, _, _, l9, h9, by omega, by go_num, HP9.out, HO9.out, by have := HSZV.out; omega, .inr (by have := HSZV.out; omega), hh9, HWv.out.trans HBW9.out⟩
                case measure => simp [intOf]; omega
          · obtain rfl : j = us.length := by omega
            rw [List.take_length, ← HKS2.out] at HBX8 HO8
            have HWF := Lib.hid (HW6.out.trans HW8.out)
            go_wp2
            go_roundw
            case rel => exact ⟨k + 1, a8, c8, lo8, hi8, by omega, by go_num, HBX8.out, HO8.out, hlo8, hap8, hhi8, HWF.out⟩
            case measure => simp [intOf]; omega
      · obtain rfl : k = lst.length := by omega
        have HE9 := Lib.hid (show locK x.fEquations lst lst.length = locK x.fEquations lst lst.length from rfl)
        have HFIN := Lib.hid (show locK x.fEquations lst lst.length = locRel g x from HE9.out.trans HRES.out.symm)
        generalize locK x.fEquations lst lst.length = rk at *
        have HZW := Lib.hid HCZQ.out
        have hz2 : w.heap.size + 2 < wq.heap.size := by omega
        clear HRES HKSk HKPk HKS HKP HKN HKL r0 r1 r2 r3 r4 r5
        go_wp2_with (refine wpList_store_rowTo rfl 35 (.tmp 4) (.tmp 51) rfl rfl (w.heap.size + 2) _ rfl rfl 35 _ HZW.out (by kernel_rfl) rfl (by simp [Value.oneCell']) ?_)
        refine bodyPost_ret (v := .agg #[.int .i64 rk.fN, .slice a9 rk.fRows.length c9]) (results_cell_row Tryz.results9 _ _ (w.heap.size + 2) 35 #[.int .i64 rk.fN, .slice a9 rk.fRows.length c9] (0, 0) _ rfl (setRow_heap _ _ _ _ _ _ HZW.out) Tryz.underlying35 rfl rfl) rfl ?_
        rw [← HFIN.out]
        have hkf : Kept (fun z => z ≠ w.heap.size + 2) wq (wq.setRow (w.heap.size + 2) #[.int .i64 rk.fN, .slice a9 rk.fRows.length c9]) := kept_setRow Kept.refl (fun h => h rfl)
        exact ⟨a9, c9, rfl, (HO.out.kept (hkf.sub fun z hz => by have := hz.1; omega)).sub fun z hz => ⟨by have := hz.1; omega, Nat.lt_of_lt_of_le (Nat.lt_of_lt_of_le hz.2 hhi9) hkf.1⟩, pile_setRow HBQ.out (by omega) _⟩
end Go.Proofs.YtnmepemmpeboeaaGreat
