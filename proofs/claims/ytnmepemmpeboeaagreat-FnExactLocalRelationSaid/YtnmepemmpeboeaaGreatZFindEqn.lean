/-
  The equation of an occurrence: FindEquation of the model, equationAt of the program.
-/
import Derived.Test.YtnmepemmpeboeaaGreatZz7
import Derived.Test.YtnmepemmpeboeaaGreatZz4
import Derived.Test.YtnmepemmpeboeaaGreatZz2
import Derived.Test.YtnmepemmpeboeaaGreatZCopyR
import Derived.Test.YtnmepemmpeboeaaGreatZz1
import Derived.Test.YtnmepemmpeboeaaGreatZOccIdxL
import Derived.Deep.QuietTactic
import Derived.BigQuiet
import Derived.Deep.MidRow
namespace Go.Proofs.YtnmepemmpeboeaaGreat
open Go.ChangeShapes Go.WideShapes Go.ChangeAt Go.RowKit Go.Deep

theorem DEquation.openS {lo hi b o : Nat} {w : World} {x : DEquation} (h : ∀ j, j < 9 → ∃ u, w.cell? ⟨b, o + j, none⟩ = some u ∧ Soft lo hi w (x.ct j) u) :
    ∃ a8 c8, w.cell? ⟨b, o, none⟩ = some (.int .i64 x.fAt.fPos) ∧ w.cell? ⟨b, o + 1, none⟩ = some (.string x.fAt.fName) ∧ w.cell? ⟨b, o + 2, none⟩ = some (.int .i64 x.fExpr.fKind) ∧ w.cell? ⟨b, o + 3, none⟩ = some (.int .i64 x.fExpr.fN) ∧ w.cell? ⟨b, o + 4, none⟩ = some (.int .i64 x.fExpr.fPos) ∧ w.cell? ⟨b, o + 5, none⟩ = some (.int .i64 x.fExpr.fType) ∧ w.cell? ⟨b, o + 6, none⟩ = some (.string x.fExpr.fSymbol) ∧ w.cell? ⟨b, o + 7, none⟩ = some (.string x.fExpr.fName) ∧ w.cell? ⟨b, o + 8, none⟩ = some (.slice a8 x.fExpr.fArgs.length c8) ∧ Sf lo hi w 7 x.fExpr.fArgs.length (ctE x.fExpr.fArgs) a8 := by
  obtain ⟨u0, hc0, hl0⟩ := h 0 (by decide)
  obtain rfl := soft_lit hl0
  obtain ⟨u1, hc1, hl1⟩ := h 1 (by decide)
  obtain rfl := soft_lit hl1
  obtain ⟨u2, hc2, hl2⟩ := h 2 (by decide)
  obtain rfl := soft_lit hl2
  obtain ⟨u3, hc3, hl3⟩ := h 3 (by decide)
  obtain rfl := soft_lit hl3
  obtain ⟨u4, hc4, hl4⟩ := h 4 (by decide)
  obtain rfl := soft_lit hl4
  obtain ⟨u5, hc5, hl5⟩ := h 5 (by decide)
  obtain rfl := soft_lit hl5
  obtain ⟨u6, hc6, hl6⟩ := h 6 (by decide)
  obtain rfl := soft_lit hl6
  obtain ⟨u7, hc7, hl7⟩ := h 7 (by decide)
  obtain rfl := soft_lit hl7
  obtain ⟨u8, hc8, hl8⟩ := h 8 (by decide)
  obtain ⟨a8, c8, rfl, hs8⟩ := soft_sl hl8
  exact ⟨a8, c8, hc0, hc1, hc2, hc3, hc4, hc5, hc6, hc7, hc8, hs8⟩

def PEqn (oc : DOccurrence) (y : DEquation) : Bool := POccurrence oc y.fAt
def noExpr : DExpr := ⟨0, 0, 0, 0, ⟨#[]⟩, ⟨#[]⟩, []⟩
/-- The expression of the first equation at an occurrence. -/
def eqnE (l : List DEquation) (oc : DOccurrence) : DExpr := if 0 ≤ idxI (PEqn oc) l then (l.getD (idxI (PEqn oc) l).toNat default).fExpr else noExpr
def eqnB (l : List DEquation) (oc : DOccurrence) : Bool := decide (0 ≤ idxI (PEqn oc) l)
theorem eqnE_at {l : List DEquation} {oc : DOccurrence} {k : Nat} (h : idxI (PEqn oc) l = k) : eqnE l oc = (l.getD k default).fExpr := by unfold eqnE; rw [h, if_pos (by omega), Int.toNat_natCast]
theorem eqnB_at {l : List DEquation} {oc : DOccurrence} {k : Nat} (h : idxI (PEqn oc) l = k) : eqnB l oc = true := by unfold eqnB; rw [h]; exact decide_eq_true (by omega)
theorem eqnE_none {l : List DEquation} {oc : DOccurrence} (h : idxI (PEqn oc) l = -1) : eqnE l oc = noExpr := by unfold eqnE; rw [h, if_neg (by omega)]
theorem eqnB_none {l : List DEquation} {oc : DOccurrence} (h : idxI (PEqn oc) l = -1) : eqnB l oc = false := by unfold eqnB; rw [h]; exact decide_eq_false (by omega)
theorem eqn_sz {l : List DEquation} (h : lsz DEquation.sz l ≤ 1048576) (oc : DOccurrence) : (eqnE l oc).sz ≤ 1048576 := by
  by_cases h0 : 0 ≤ idxI (PEqn oc) l
  · obtain ⟨k, hk⟩ : ∃ k : Nat, idxI (PEqn oc) l = k := ⟨(idxI (PEqn oc) l).toNat, by omega⟩
    rw [eqnE_at hk]
    by_cases hl : k < l.length
    · have h1 := szle_at (f := DEquation.sz) l k hl
      have h2 : (l.getD k default).fExpr.sz ≤ DEquation.sz (l.getD k default) := by unfold DEquation.sz; omega
      omega
    · rw [List.getD_eq_getElem?_getD, List.getElem?_eq_none (by omega)]
      show (default : DEquation).fExpr.sz ≤ _
      decide
  · unfold eqnE
    rw [if_neg h0]
    show noExpr.sz ≤ _
    unfold noExpr
    rw [DExpr.sz_eq]
    decide
/-- An expression that a call hands out, its memory in blocks of its own from B on. -/
def EqnOwn (B : Nat) (x : DExpr) (b : Bool) (w' : World) (e : Ending) : Prop :=
  ∃ r q, e = .returned (.tuple #[.agg #[.int .i64 x.fKind, .int .i64 x.fN, .int .i64 x.fPos, .int .i64 x.fType, .string x.fSymbol, .string x.fName, .slice r x.fArgs.length q], .bool b]) ∧ Own w' (fun y => B ≤ y ∧ y < w'.heap.size) (.sl 7 x.fArgs.length (ctE x.fArgs)) (.slice r x.fArgs.length q)
/-- An expression that a call hands out, its memory in the blocks up to hi. -/
def EqnOut (lo hi : Nat) (x : DExpr) (b : Bool) (w' : World) (e : Ending) : Prop :=
  ∃ r q, e = .returned (.tuple #[.agg #[.int .i64 x.fKind, .int .i64 x.fN, .int .i64 x.fPos, .int .i64 x.fType, .string x.fSymbol, .string x.fName, .slice r x.fArgs.length q], .bool b]) ∧ Sf lo hi w' 7 x.fArgs.length (ctE x.fArgs) r

set_option maxHeartbeats 6400000 in
set_option maxRecDepth 100000 in
theorem spec_FindEquationO {lo hi : Nat} {b2 b4 b5 : Option Addr} {c1_0 c1_1 c1_2 : Nat} (x : DRule) (hszx : x.sz ≤ 1048576) (oc : DOccurrence) (w : World) (hhi : hi ≤ w.heap.size) (hs : Sl lo hi w 9 x.fEquations.length (fun k => DEquation.ct (x.fEquations.getD k default)) b4) :
    Calls Tryz.prog 24 #[.agg #[.string x.fName, .string x.fLeft, .slice b2 x.fRight.length c1_0, .bool x.fLiteral, .slice b4 x.fEquations.length c1_1, .slice b5 x.fContributions.length c1_2], .agg #[.int .i64 oc.fPos, .string oc.fName]] w fun e w' => EqnOwn w.heap.size (eqnE x.fEquations oc) (eqnB x.fEquations oc) w' e ∧ Below w.heap.size w w' := by
  have hz : lsz DEquation.sz x.fEquations ≤ 1048576 := by unfold DRule.sz at hszx; omega
  have hn : x.fEquations.length ≤ 1048576 := by unfold lsz at hz; omega
  have HB := Lib.hid ((((Below.refl w.heap.size w).alloc (Nat.le_refl _) (.cells #[.string x.fName, .string x.fLeft, .slice b2 x.fRight.length c1_0, .bool x.fLiteral, .slice b4 x.fEquations.length c1_1, .slice b5 x.fContributions.length c1_2] 45)).alloc (by simp) (.cells #[.int .i64 oc.fPos, .string oc.fName] 68)).alloc (by simp <;> omega) (.cells #[.int .i64 0, .int .i64 0, .int .i64 0, .int .i64 0, .string ⟨#[]⟩, .string ⟨#[]⟩, .slice none 0 0] 64))
  have HSZ := Lib.hid (show (((w.alloc (.cells #[.string x.fName, .string x.fLeft, .slice b2 x.fRight.length c1_0, .bool x.fLiteral, .slice b4 x.fEquations.length c1_1, .slice b5 x.fContributions.length c1_2] 45)).alloc (.cells #[.int .i64 oc.fPos, .string oc.fName] 68)).alloc (.cells #[.int .i64 0, .int .i64 0, .int .i64 0, .int .i64 0, .string ⟨#[]⟩, .string ⟨#[]⟩, .slice none 0 0] 64)).heap.size = w.heap.size + 3 by simp)
  have HX := Lib.hid (show (((w.alloc (.cells #[.string x.fName, .string x.fLeft, .slice b2 x.fRight.length c1_0, .bool x.fLiteral, .slice b4 x.fEquations.length c1_1, .slice b5 x.fContributions.length c1_2] 45)).alloc (.cells #[.int .i64 oc.fPos, .string oc.fName] 68)).alloc (.cells #[.int .i64 0, .int .i64 0, .int .i64 0, .int .i64 0, .string ⟨#[]⟩, .string ⟨#[]⟩, .slice none 0 0] 64)).cell? ⟨w.heap.size, 4, none⟩ = some (.slice b4 x.fEquations.length c1_1) by go_simp)
  have HX0 := Lib.hid (show (((w.alloc (.cells #[.string x.fName, .string x.fLeft, .slice b2 x.fRight.length c1_0, .bool x.fLiteral, .slice b4 x.fEquations.length c1_1, .slice b5 x.fContributions.length c1_2] 45)).alloc (.cells #[.int .i64 oc.fPos, .string oc.fName] 68)).alloc (.cells #[.int .i64 0, .int .i64 0, .int .i64 0, .int .i64 0, .string ⟨#[]⟩, .string ⟨#[]⟩, .slice none 0 0] 64)).cell? ⟨w.heap.size + 1, 0, none⟩ = some (.int .i64 oc.fPos) by go_simp)
  have HX1 := Lib.hid (show (((w.alloc (.cells #[.string x.fName, .string x.fLeft, .slice b2 x.fRight.length c1_0, .bool x.fLiteral, .slice b4 x.fEquations.length c1_1, .slice b5 x.fContributions.length c1_2] 45)).alloc (.cells #[.int .i64 oc.fPos, .string oc.fName] 68)).alloc (.cells #[.int .i64 0, .int .i64 0, .int .i64 0, .int .i64 0, .string ⟨#[]⟩, .string ⟨#[]⟩, .slice none 0 0] 64)).cell? ⟨w.heap.size + 1, 1, none⟩ = some (.string oc.fName) by go_simp)
  have HG := Lib.hid (show (((w.alloc (.cells #[.string x.fName, .string x.fLeft, .slice b2 x.fRight.length c1_0, .bool x.fLiteral, .slice b4 x.fEquations.length c1_1, .slice b5 x.fContributions.length c1_2] 45)).alloc (.cells #[.int .i64 oc.fPos, .string oc.fName] 68)).alloc (.cells #[.int .i64 0, .int .i64 0, .int .i64 0, .int .i64 0, .string ⟨#[]⟩, .string ⟨#[]⟩, .slice none 0 0] 64)).heap[w.heap.size + 2]? = some (.cells #[.int .i64 0, .int .i64 0, .int .i64 0, .int .i64 0, .string ⟨#[]⟩, .string ⟨#[]⟩, .slice none 0 0] 64) from blk_new (by simp))
  have HS := Lib.hid (hs.later HB.out hhi)
  have HHI := Lib.hid hhi
  have HZ := Lib.hid hz
  clear hs hhi hz hszx
  go_enter Tryz.func24, Tryz.ntmps24
  go_wp2
  go_loopw [6] (fun i wr => ∃ k : Nat, k ≤ x.fEquations.length ∧ i = .int .i64 (k : Int) ∧ noneBelow (PEqn oc) x.fEquations k ∧ Below (w.heap.size + 3) (((w.alloc (.cells #[.string x.fName, .string x.fLeft, .slice b2 x.fRight.length c1_0, .bool x.fLiteral, .slice b4 x.fEquations.length c1_1, .slice b5 x.fContributions.length c1_2] 45)).alloc (.cells #[.int .i64 oc.fPos, .string oc.fName] 68)).alloc (.cells #[.int .i64 0, .int .i64 0, .int .i64 0, .int .i64 0, .string ⟨#[]⟩, .string ⟨#[]⟩, .slice none 0 0] 64)) wr) (fun i _ => x.fEquations.length - (intOf i).toNat)
  case atStart => exact ⟨0, Nat.zero_le _, rfl, noneBelow_zero _ _, Below.refl _ _⟩
  case round =>
    obtain ⟨k, hk, rfl, hno, hbl⟩ := hrel
    have HN := Lib.hid hno
    have HBL := Lib.hid hbl
    have hsz1 : w.heap.size + 3 ≤ wr.heap.size := by have := hbl.size; rw [HSZ.out] at this; exact this
    have hw1 : w.heap.size + 2 < wr.heap.size := by omega
    have HGR := Lib.hid ((hbl.block (w.heap.size + 2) (by omega)).trans HG.out)
    have hx1 : wr.cell? ⟨w.heap.size, 4, none⟩ = some (.slice b4 x.fEquations.length c1_1) := (hbl.cell (p := ⟨w.heap.size, 4, none⟩) (show w.heap.size < w.heap.size + 3 by omega)).trans HX.out
    have x0 : wr.cell? ⟨w.heap.size + 1, 0, none⟩ = some (.int .i64 oc.fPos) := (hbl.cell (p := ⟨w.heap.size + 1, 0, none⟩) (show w.heap.size + 1 < w.heap.size + 3 by omega)).trans HX0.out
    have x1 : wr.cell? ⟨w.heap.size + 1, 1, none⟩ = some (.string oc.fName) := (hbl.cell (p := ⟨w.heap.size + 1, 1, none⟩) (show w.heap.size + 1 < w.heap.size + 3 by omega)).trans HX1.out
    have hw2 : w.heap.size + 1 < wr.heap.size := by omega
    clear hno hbl
    by_cases hlt : k < x.fEquations.length
    · obtain ⟨b, off, rfl, _, hbh, hc⟩ := (HS.out.later (HBL.out.mono (Nat.le_trans HHI.out (by omega))) (Nat.le_refl _)).at k hlt
      obtain ⟨a8, c8, hc0, hc1, hc2, hc3, hc4, hc5, hc6, hc7, hc8, hs8⟩ := DEquation.open hc
      have hbw : b < wr.heap.size := by have := HHI.out; omega
      have htI : (0 : Int) ≤ (k : Int) ∧ (k : Int) < (x.fEquations.length : Int) := by omega
      clear hc
      by_cases h1 : (x.fEquations.getD k default).fAt.fPos = oc.fPos
      · by_cases h2 : (x.fEquations.getD k default).fAt.fName = oc.fName
        · have hix := idxI_at (p := PEqn oc) hlt (POccurrence_yes h1 h2) HN.out
          have fin := Lib.hid (show ∀ (w' : World) e, EqnOwn w.heap.size (eqnE x.fEquations oc) (eqnB x.fEquations oc) w' e = EqnOwn w.heap.size (x.fEquations.getD k default).fExpr true w' e from fun w' e => by rw [eqnE_at hix, eqnB_at hix])
          have hal : (x.fEquations.getD k default).fExpr.sz ≤ 1048576 := Nat.le_trans (by unfold DEquation.sz; omega) (Nat.le_trans (szle_at (f := DEquation.sz) x.fEquations k hlt) HZ.out)
          have HC := Lib.hid (fun (W : World) (hW : Below wr.heap.size wr W) => (DExpr.ind (P := SpecCopy) specCopy_step (x.fEquations.getD k default).fExpr) (c6 := c8) hal W (Nat.le_trans (Nat.le_trans HHI.out (by omega)) hW.size) (hs8.later hW (Nat.le_trans HHI.out (by omega))))
          rw [h1] at hc0
          rw [h2] at hc1
          clear h1 h2 hix hs8 hal
          generalize (x.fEquations.getD k default).fExpr = y at *
          go_wp2_with fail
          go_quiet (fail)
          go_wp2_with fail
          refine (HC.out _ (by repeat (first | (with_reducible exact Below.refl _ _) | (with_reducible apply Below.drew) | (with_reducible refine below_drewN ?_ _)))).mono ?_
          rintro e w1 ⟨r, q, rfl, ho9, hb9⟩
          have HGR1 := Lib.hid ((hb9.block (w.heap.size + 2) hw1).trans HGR.out)
          have HO9 := Lib.hid ho9
          have HBW := Lib.hid (HB.out.trans ((HBL.out.trans (Below.trans (show Below wr.heap.size wr _ from by repeat (first | (with_reducible exact Below.refl _ _) | (with_reducible apply Below.drew) | (with_reducible refine below_drewN ?_ _))) (hb9.mono (Nat.le_refl _)) |>.mono hsz1)).mono (show w.heap.size ≤ w.heap.size + 3 by omega)))
          clear hb9 ho9 hx1
          go_wp2_with (refine wpList_store_rowTo rfl 64 (.tmp 4) (.tmp 28) rfl rfl (w.heap.size + 2) _ rfl rfl 64 _ HGR1.out (by kernel_rfl) rfl (by simp [Value.oneCell']) ?_)
          refine bodyPost_ret (v := .tuple #[.agg #[.int .i64 y.fKind, .int .i64 y.fN, .int .i64 y.fPos, .int .i64 y.fType, .string y.fSymbol, .string y.fName, .slice r y.fArgs.length q], .bool true]) (results_cell_tmp Tryz.results24 _ _ (w.heap.size + 2) 64 #[.int .i64 y.fKind, .int .i64 y.fN, .int .i64 y.fPos, .int .i64 y.fType, .string y.fSymbol, .string y.fName, .slice r y.fArgs.length q] (0, 0) _ rfl (setRow_heap _ _ _ _ _ _ HGR1.out) Tryz.underlying64 rfl (by kernel_rfl)) rfl ⟨?_, ?_⟩
          · rw [fin.out]
            refine ⟨r, q, rfl, ?_⟩
            have hkf : Kept (fun z => z ≠ w.heap.size + 2) w1 (w1.setRow (w.heap.size + 2) #[.int .i64 y.fKind, .int .i64 y.fN, .int .i64 y.fPos, .int .i64 y.fType, .string y.fSymbol, .string y.fName, .slice r y.fArgs.length q]) := kept_setRow Kept.refl (fun h => h rfl)
            exact (HO9.out.kept (hkf.sub fun z hz => by have h := hz.1; simp at h; omega)).sub fun z hz => ⟨by have h := hz.1; simp at h; omega, Nat.lt_of_lt_of_le hz.2 hkf.1⟩
          · exact pile_setRow HBW.out (by omega) _
        · have HN2 := Lib.hid (noneBelow_succ HN.out (k := k) (p := PEqn oc) (POccurrence_no2 h2))
          have e2 : ((x.fEquations.getD k default).fAt.fName.toList == oc.fName.toList) = false := beq_eq_false_iff_ne.2 (fun e => h2 (toList_injO e))
          rw [h1] at hc0
          clear h1 h2 hs8 hc2 hc3 hc4 hc5 hc6 hc7 hc8
          generalize (x.fEquations.getD k default).fAt.fName = q at *
          go_wp2_with fail
          go_quiet (fail)
          go_wp2
          go_roundw
          case rel => exact ⟨k + 1, by omega, by go_num, HN2.out, by repeat (first | (with_reducible exact HBL.out) | (with_reducible apply Below.drew) | (with_reducible refine below_drewN ?_ _))⟩
          case measure => simp [intOf]; omega
      · have HN2 := Lib.hid (noneBelow_succ HN.out (k := k) (p := PEqn oc) (POccurrence_no1 h1))
        have e2 : ((x.fEquations.getD k default).fAt.fPos == oc.fPos) = false := beq_eq_false_iff_ne.2 h1
        clear h1 hs8 hc2 hc3 hc4 hc5 hc6 hc7 hc8
        generalize (x.fEquations.getD k default).fAt.fName = q at *
        generalize (x.fEquations.getD k default).fAt.fPos = q2 at *
        go_wp2_with fail
        go_quiet (fail)
        go_wp2
        go_roundw
        case rel => exact ⟨k + 1, by omega, by go_num, HN2.out, by repeat (first | (with_reducible exact HBL.out) | (with_reducible apply Below.drew) | (with_reducible refine below_drewN ?_ _))⟩
        case measure => simp [intOf]; omega
    · obtain rfl : k = x.fEquations.length := by omega
      have hix := idxI_none (p := PEqn oc) HN.out
      have fin := Lib.hid (show ∀ (w' : World) e, EqnOwn w.heap.size (eqnE x.fEquations oc) (eqnB x.fEquations oc) w' e = EqnOwn w.heap.size noExpr false w' e from fun w' e => by rw [eqnE_none hix, eqnB_none hix])
      clear hix
      go_wp2_with (first | (refine wpList_buildTo rfl 64 _ rfl (some 29) rfl #[.int .i64 0, .int .i64 0, .int .i64 0, .int .i64 0, .string ⟨#[]⟩, .string ⟨#[]⟩, .slice none 0 0] (by kernel_rfl) ?_) | (refine wpList_store_rowTo rfl 64 (.tmp 4) (.tmp 29) rfl rfl (w.heap.size + 2) #[.int .i64 0, .int .i64 0, .int .i64 0, .int .i64 0, .string ⟨#[]⟩, .string ⟨#[]⟩, .slice none 0 0] rfl rfl 64 _ HGR.out (by kernel_rfl) rfl (by kernel_rfl) ?_))
      refine bodyPost_ret (v := .tuple #[.agg #[.int .i64 0, .int .i64 0, .int .i64 0, .int .i64 0, .string ⟨#[]⟩, .string ⟨#[]⟩, .slice none 0 0], .bool false]) (results_cell_tmp Tryz.results24 _ _ (w.heap.size + 2) 64 #[.int .i64 0, .int .i64 0, .int .i64 0, .int .i64 0, .string ⟨#[]⟩, .string ⟨#[]⟩, .slice none 0 0] (0, 0) _ rfl (setRow_heap _ _ _ _ _ _ HGR.out) Tryz.underlying64 rfl (by kernel_rfl)) rfl ⟨?_, ?_⟩
      · rw [fin.out]
        exact ⟨none, 0, rfl, .nil _ _ _ _ _⟩
      · exact pile_setRow (HB.out.trans (HBL.out.mono (show w.heap.size ≤ w.heap.size + 3 by omega))) (by omega) _

set_option maxHeartbeats 6400000 in
set_option maxRecDepth 100000 in
theorem impl_equationAt {lo hi : Nat} {b2 b4 b5 : Option Addr} {c1_0 c1_1 c1_2 : Nat} (x : DRule) (hszx : x.sz ≤ 1048576) (oc : DOccurrence) (w : World) (hhi : hi ≤ w.heap.size) (hs : Sf lo hi w 9 x.fEquations.length (fun k => DEquation.ct (x.fEquations.getD k default)) b4) :
    Calls Tryz.prog 35 #[.agg #[.string x.fName, .string x.fLeft, .slice b2 x.fRight.length c1_0, .bool x.fLiteral, .slice b4 x.fEquations.length c1_1, .slice b5 x.fContributions.length c1_2], .agg #[.int .i64 oc.fPos, .string oc.fName]] w fun e w' => EqnOut lo hi (eqnE x.fEquations oc) (eqnB x.fEquations oc) w' e ∧ Below w.heap.size w w' := by
  have hz : lsz DEquation.sz x.fEquations ≤ 1048576 := by unfold DRule.sz at hszx; omega
  have hn : x.fEquations.length ≤ 1048576 := by unfold lsz at hz; omega
  have HB := Lib.hid ((((Below.refl w.heap.size w).alloc (Nat.le_refl _) (.cells #[.string x.fName, .string x.fLeft, .slice b2 x.fRight.length c1_0, .bool x.fLiteral, .slice b4 x.fEquations.length c1_1, .slice b5 x.fContributions.length c1_2] 45)).alloc (by simp) (.cells #[.int .i64 oc.fPos, .string oc.fName] 68)).alloc (by simp <;> omega) (.cells #[.int .i64 0, .int .i64 0, .int .i64 0, .int .i64 0, .string ⟨#[]⟩, .string ⟨#[]⟩, .slice none 0 0] 64))
  have HSZ := Lib.hid (show (((w.alloc (.cells #[.string x.fName, .string x.fLeft, .slice b2 x.fRight.length c1_0, .bool x.fLiteral, .slice b4 x.fEquations.length c1_1, .slice b5 x.fContributions.length c1_2] 45)).alloc (.cells #[.int .i64 oc.fPos, .string oc.fName] 68)).alloc (.cells #[.int .i64 0, .int .i64 0, .int .i64 0, .int .i64 0, .string ⟨#[]⟩, .string ⟨#[]⟩, .slice none 0 0] 64)).heap.size = w.heap.size + 3 by simp)
  have HX := Lib.hid (show (((w.alloc (.cells #[.string x.fName, .string x.fLeft, .slice b2 x.fRight.length c1_0, .bool x.fLiteral, .slice b4 x.fEquations.length c1_1, .slice b5 x.fContributions.length c1_2] 45)).alloc (.cells #[.int .i64 oc.fPos, .string oc.fName] 68)).alloc (.cells #[.int .i64 0, .int .i64 0, .int .i64 0, .int .i64 0, .string ⟨#[]⟩, .string ⟨#[]⟩, .slice none 0 0] 64)).cell? ⟨w.heap.size, 4, none⟩ = some (.slice b4 x.fEquations.length c1_1) by go_simp)
  have HX0 := Lib.hid (show (((w.alloc (.cells #[.string x.fName, .string x.fLeft, .slice b2 x.fRight.length c1_0, .bool x.fLiteral, .slice b4 x.fEquations.length c1_1, .slice b5 x.fContributions.length c1_2] 45)).alloc (.cells #[.int .i64 oc.fPos, .string oc.fName] 68)).alloc (.cells #[.int .i64 0, .int .i64 0, .int .i64 0, .int .i64 0, .string ⟨#[]⟩, .string ⟨#[]⟩, .slice none 0 0] 64)).cell? ⟨w.heap.size + 1, 0, none⟩ = some (.int .i64 oc.fPos) by go_simp)
  have HX1 := Lib.hid (show (((w.alloc (.cells #[.string x.fName, .string x.fLeft, .slice b2 x.fRight.length c1_0, .bool x.fLiteral, .slice b4 x.fEquations.length c1_1, .slice b5 x.fContributions.length c1_2] 45)).alloc (.cells #[.int .i64 oc.fPos, .string oc.fName] 68)).alloc (.cells #[.int .i64 0, .int .i64 0, .int .i64 0, .int .i64 0, .string ⟨#[]⟩, .string ⟨#[]⟩, .slice none 0 0] 64)).cell? ⟨w.heap.size + 1, 1, none⟩ = some (.string oc.fName) by go_simp)
  have HG := Lib.hid (show (((w.alloc (.cells #[.string x.fName, .string x.fLeft, .slice b2 x.fRight.length c1_0, .bool x.fLiteral, .slice b4 x.fEquations.length c1_1, .slice b5 x.fContributions.length c1_2] 45)).alloc (.cells #[.int .i64 oc.fPos, .string oc.fName] 68)).alloc (.cells #[.int .i64 0, .int .i64 0, .int .i64 0, .int .i64 0, .string ⟨#[]⟩, .string ⟨#[]⟩, .slice none 0 0] 64)).heap[w.heap.size + 2]? = some (.cells #[.int .i64 0, .int .i64 0, .int .i64 0, .int .i64 0, .string ⟨#[]⟩, .string ⟨#[]⟩, .slice none 0 0] 64) from blk_new (by simp))
  have HS := Lib.hid (hs.later HB.out hhi)
  have HHI := Lib.hid hhi
  have HZ := Lib.hid hz
  clear hs hhi hz hszx
  go_enter Tryz.func35, Tryz.ntmps35
  go_wp2
  go_loopw [11] (fun i wr => ∃ k : Nat, k ≤ x.fEquations.length ∧ i = .int .i64 (k : Int) ∧ noneBelow (PEqn oc) x.fEquations k ∧ Below (w.heap.size + 3) (((w.alloc (.cells #[.string x.fName, .string x.fLeft, .slice b2 x.fRight.length c1_0, .bool x.fLiteral, .slice b4 x.fEquations.length c1_1, .slice b5 x.fContributions.length c1_2] 45)).alloc (.cells #[.int .i64 oc.fPos, .string oc.fName] 68)).alloc (.cells #[.int .i64 0, .int .i64 0, .int .i64 0, .int .i64 0, .string ⟨#[]⟩, .string ⟨#[]⟩, .slice none 0 0] 64)) wr) (fun i _ => x.fEquations.length - (intOf i).toNat)
  case atStart => exact ⟨0, Nat.zero_le _, rfl, noneBelow_zero _ _, Below.refl _ _⟩
  case round =>
    obtain ⟨k, hk, rfl, hno, hbl⟩ := hrel
    have HN := Lib.hid hno
    have HBL := Lib.hid hbl
    have hsz1 : w.heap.size + 3 ≤ wr.heap.size := by have := hbl.size; rw [HSZ.out] at this; exact this
    have hw1 : w.heap.size + 2 < wr.heap.size := by omega
    have HGR := Lib.hid ((hbl.block (w.heap.size + 2) (by omega)).trans HG.out)
    have hx1 : wr.cell? ⟨w.heap.size, 4, none⟩ = some (.slice b4 x.fEquations.length c1_1) := (hbl.cell (p := ⟨w.heap.size, 4, none⟩) (show w.heap.size < w.heap.size + 3 by omega)).trans HX.out
    have x0 : wr.cell? ⟨w.heap.size + 1, 0, none⟩ = some (.int .i64 oc.fPos) := (hbl.cell (p := ⟨w.heap.size + 1, 0, none⟩) (show w.heap.size + 1 < w.heap.size + 3 by omega)).trans HX0.out
    have x1 : wr.cell? ⟨w.heap.size + 1, 1, none⟩ = some (.string oc.fName) := (hbl.cell (p := ⟨w.heap.size + 1, 1, none⟩) (show w.heap.size + 1 < w.heap.size + 3 by omega)).trans HX1.out
    have hw2 : w.heap.size + 1 < wr.heap.size := by omega
    clear hno hbl
    by_cases hlt : k < x.fEquations.length
    · obtain ⟨b, off, rfl, _, hbh, _, hc⟩ := (HS.out.later (HBL.out.mono (Nat.le_trans HHI.out (by omega))) (Nat.le_refl _)).at k hlt
      obtain ⟨a8, c8, hc0, hc1, hc2, hc3, hc4, hc5, hc6, hc7, hc8, hs8⟩ := DEquation.openS hc
      have hbw : b < wr.heap.size := by have := HHI.out; omega
      have HS8 := Lib.hid hs8
      clear hc hs8
      by_cases h1 : (x.fEquations.getD k default).fAt.fPos = oc.fPos
      · by_cases h2 : (x.fEquations.getD k default).fAt.fName = oc.fName
        · have hix := idxI_at (p := PEqn oc) hlt (POccurrence_yes h1 h2) HN.out
          have fin := Lib.hid (show ∀ w' e, EqnOut lo hi (eqnE x.fEquations oc) (eqnB x.fEquations oc) w' e = EqnOut lo hi (x.fEquations.getD k default).fExpr true w' e from fun w' e => by rw [eqnE_at hix, eqnB_at hix])
          rw [h1] at hc0
          rw [h2] at hc1
          clear h1 h2 hix
          generalize (x.fEquations.getD k default).fExpr = y at *
          have HGR1 := Lib.hid (show (wr.alloc (.cells #[.int .i64 oc.fPos, .string oc.fName, .int .i64 y.fKind, .int .i64 y.fN, .int .i64 y.fPos, .int .i64 y.fType, .string y.fSymbol, .string y.fName, .slice a8 y.fArgs.length c8] 109)).heap[w.heap.size + 2]? = some (.cells #[.int .i64 0, .int .i64 0, .int .i64 0, .int .i64 0, .string ⟨#[]⟩, .string ⟨#[]⟩, .slice none 0 0] 64) from blk_alloc hw1 HGR.out)
          have HBN := Lib.hid (show (wr.alloc (.cells #[.int .i64 oc.fPos, .string oc.fName, .int .i64 y.fKind, .int .i64 y.fN, .int .i64 y.fPos, .int .i64 y.fType, .string y.fSymbol, .string y.fName, .slice a8 y.fArgs.length c8] 109)).heap[wr.heap.size]? = some (.cells #[.int .i64 oc.fPos, .string oc.fName, .int .i64 y.fKind, .int .i64 y.fN, .int .i64 y.fPos, .int .i64 y.fType, .string y.fSymbol, .string y.fName, .slice a8 y.fArgs.length c8] 109) from blk_new rfl)
          go_wp2_with (first
            | (refine wpList_store_rowTo rfl 109 (.tmp 7) (.tmp 14) rfl rfl wr.heap.size _ rfl rfl 109 _ (blk_new rfl) (by kernel_rfl) rfl (by simp [Value.oneCell']) ?_; rw [setRow_newR rfl])
            | (refine wpList_store_rowTo rfl 64 (.tmp 4) (.tmp 20) rfl rfl (w.heap.size + 2) _ rfl rfl 64 _ HGR1.out (by kernel_rfl) rfl (by simp [Value.oneCell']) ?_))
          refine bodyPost_ret (v := .tuple #[.agg #[.int .i64 y.fKind, .int .i64 y.fN, .int .i64 y.fPos, .int .i64 y.fType, .string y.fSymbol, .string y.fName, .slice a8 y.fArgs.length c8], .bool true]) (results_cell_tmp Tryz.results35 _ _ (w.heap.size + 2) 64 #[.int .i64 y.fKind, .int .i64 y.fN, .int .i64 y.fPos, .int .i64 y.fType, .string y.fSymbol, .string y.fName, .slice a8 y.fArgs.length c8] (0, 0) _ rfl (setRow_heap _ _ _ _ _ _ HGR1.out) Tryz.underlying64 rfl (by kernel_rfl)) rfl ⟨?_, ?_⟩
          · rw [fin.out]
            have hh := HHI.out
            refine ⟨_, _, rfl, HS8.out.frame fun b' o' h1' h2' => ?_⟩
            have hbe : ((wr.alloc (.cells #[.int .i64 oc.fPos, .string oc.fName, .int .i64 y.fKind, .int .i64 y.fN, .int .i64 y.fPos, .int .i64 y.fType, .string y.fSymbol, .string y.fName, .slice a8 y.fArgs.length c8] 109)).setRow (w.heap.size + 2) #[.int .i64 y.fKind, .int .i64 y.fN, .int .i64 y.fPos, .int .i64 y.fType, .string y.fSymbol, .string y.fName, .slice a8 y.fArgs.length c8]).heap[b']? = wr.heap[b']? := (kept_setRow (F := fun z => z < hi) (Kept.of_below ((Below.refl _ _).alloc (Nat.le_refl _) _) (fun z h => by have : z < hi := h; omega)) (by show ¬ w.heap.size + 2 < hi; omega)).2 b' h2' (by omega)
            exact ⟨World.cell?_of_block (a := ⟨b', o', none⟩) hbe, World.frozen?_of_block (a := ⟨b', o', none⟩) hbe⟩
          · exact pile_setRow ((HB.out.trans (HBL.out.mono (show w.heap.size ≤ w.heap.size + 3 by omega))).alloc (by omega) _) (by omega) _
        · have HN2 := Lib.hid (noneBelow_succ HN.out (k := k) (p := PEqn oc) (POccurrence_no2 h2))
          have e2 : ((x.fEquations.getD k default).fAt.fName.toList == oc.fName.toList) = false := beq_eq_false_iff_ne.2 (fun e => h2 (toList_injO e))
          rw [h1] at hc0
          clear h1 h2
          generalize (x.fEquations.getD k default).fAt.fName = q at *
          generalize (x.fEquations.getD k default).fExpr = y at *
          go_wp2_with (refine wpList_store_rowTo rfl 109 (.tmp 7) (.tmp 14) rfl rfl wr.heap.size _ rfl rfl 109 _ (blk_new rfl) (by kernel_rfl) rfl (by simp [Value.oneCell']) ?_; rw [setRow_newR rfl])
          go_roundw
          case rel => exact ⟨k + 1, by omega, by go_num, HN2.out, HBL.out.alloc (by omega) _⟩
          case measure => simp [intOf]; omega
      · have HN2 := Lib.hid (noneBelow_succ HN.out (k := k) (p := PEqn oc) (POccurrence_no1 h1))
        have e2 : ((x.fEquations.getD k default).fAt.fPos == oc.fPos) = false := beq_eq_false_iff_ne.2 h1
        clear h1
        generalize (x.fEquations.getD k default).fAt.fName = q at *
        generalize (x.fEquations.getD k default).fAt.fPos = q2 at *
        generalize (x.fEquations.getD k default).fExpr = y at *
        go_wp2_with (refine wpList_store_rowTo rfl 109 (.tmp 7) (.tmp 14) rfl rfl wr.heap.size _ rfl rfl 109 _ (blk_new rfl) (by kernel_rfl) rfl (by simp [Value.oneCell']) ?_; rw [setRow_newR rfl])
        go_roundw
        case rel => exact ⟨k + 1, by omega, by go_num, HN2.out, HBL.out.alloc (by omega) _⟩
        case measure => simp [intOf]; omega
    · obtain rfl : k = x.fEquations.length := by omega
      have hix := idxI_none (p := PEqn oc) HN.out
      have fin := Lib.hid (show ∀ w' e, EqnOut lo hi (eqnE x.fEquations oc) (eqnB x.fEquations oc) w' e = EqnOut lo hi noExpr false w' e from fun w' e => by rw [eqnE_none hix, eqnB_none hix])
      clear hix
      go_wp2_with (first | (refine wpList_buildTo rfl 64 _ rfl (some 22) rfl #[.int .i64 0, .int .i64 0, .int .i64 0, .int .i64 0, .string ⟨#[]⟩, .string ⟨#[]⟩, .slice none 0 0] (by kernel_rfl) ?_) | (refine wpList_store_rowTo rfl 64 (.tmp 4) (.tmp 22) rfl rfl (w.heap.size + 2) #[.int .i64 0, .int .i64 0, .int .i64 0, .int .i64 0, .string ⟨#[]⟩, .string ⟨#[]⟩, .slice none 0 0] rfl rfl 64 _ HGR.out (by kernel_rfl) rfl (by kernel_rfl) ?_))
      refine bodyPost_ret (v := .tuple #[.agg #[.int .i64 0, .int .i64 0, .int .i64 0, .int .i64 0, .string ⟨#[]⟩, .string ⟨#[]⟩, .slice none 0 0], .bool false]) (results_cell_tmp Tryz.results35 _ _ (w.heap.size + 2) 64 #[.int .i64 0, .int .i64 0, .int .i64 0, .int .i64 0, .string ⟨#[]⟩, .string ⟨#[]⟩, .slice none 0 0] (0, 0) _ rfl (setRow_heap _ _ _ _ _ _ HGR.out) Tryz.underlying64 rfl (by kernel_rfl)) rfl ⟨?_, ?_⟩
      · rw [fin.out]
        exact ⟨none, 0, rfl, Sf.nil⟩
      · exact pile_setRow (HB.out.trans (HBL.out.mono (show w.heap.size ≤ w.heap.size + 3 by omega))) (by omega) _
end Go.Proofs.YtnmepemmpeboeaaGreat
