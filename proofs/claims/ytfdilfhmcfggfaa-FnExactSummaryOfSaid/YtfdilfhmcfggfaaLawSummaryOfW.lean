/-
  The law FnExactSummaryOf: for every grammar, rule and relation the program's SummaryOf answers as the model's, and its answer owns its memory. No condition.
-/
import Derived.Test.YtfdilfhmcfggfaaSummAll
import Derived.Test.YtfdilfhmcfggfaaMkGrammar
import Derived.Test.YtfdilfhmcfggfaaMkRelation
import Derived.Test.YtfdilfhmcfggfaaMkInt
import Derived.Test.YtfdilfhmcfggfaaFree
import Derived.Deep.CutRange
import Derived.SizedLaws
namespace Go.Proofs.Ytfdilfhmcfggfaa.fnExactSummaryOf
open Go.ChangeShapes Go.WideShapes Go.ChangeAt Go.RowKit Go.WideMaps Go.WideElems
open Go.ChangeMaps (open_string)
open Go.Lib Go.Deep

set_option maxHeartbeats 25600000 in
set_option maxRecDepth 100000 in
theorem walk (vG : DGrammar) (a0_vG : Option Addr) (c0_vG : Nat) (a1_vG : Option Addr) (c1_vG : Nat) (ok_vG : DGrammar.ok vG) (vR : DRule) (a2_vR : Option Addr) (c2_vR : Nat) (a4_vR : Option Addr) (c4_vR : Nat) (a5_vR : Option Addr) (c5_vR : Nat) (ok_vR : DRule.ok vR) (vC : DRelation) (a1_vC : Option Addr) (c1_vC : Nat) (ok_vC : DRelation.ok vC) (w : World) (hs_0_vG : Sl 0 w.heap.size w 2 vG.fSymbols.length (fun k => DSymbol.ct (vG.fSymbols.getD k default)) a0_vG) (hs_1_vG : Sl 0 w.heap.size w 6 vG.fRules.length (fun k => DRule.ct (vG.fRules.getD k default)) a1_vG) (hs_2_vR : Sl 0 w.heap.size w 1 vR.fRight.length (fun k => ictS (vR.fRight.getD k default)) a2_vR) (hs_4_vR : Sl 0 w.heap.size w 9 vR.fEquations.length (fun k => DEquation.ct (vR.fEquations.getD k default)) a4_vR) (hs_5_vR : Sl 0 w.heap.size w 16 vR.fContributions.length (fun k => DContribution.ct (vR.fContributions.getD k default)) a5_vR) (hs_1_vC : Sl 0 w.heap.size w 1 vC.fRows.length (fun k => ictI (vC.fRows.getD k default)) a1_vC) :
    Calls Try.prog 3 #[.agg #[.slice a0_vG vG.fSymbols.length c0_vG, .slice a1_vG vG.fRules.length c1_vG], .agg #[.string vR.fName, .string vR.fLeft, .slice a2_vR vR.fRight.length c2_vR, .bool vR.fLiteral, .slice a4_vR vR.fEquations.length c4_vR, .slice a5_vR vR.fContributions.length c5_vR], .agg #[.int .i64 vC.fN, .slice a1_vC vC.fRows.length c1_vC]] w fun e w' => e = .returned (.bool true) ∧ Below w.heap.size w w' := by
  have HS_0_vG := Lib.hid hs_0_vG
  clear hs_0_vG
  have HS_1_vG := Lib.hid hs_1_vG
  clear hs_1_vG
  have OK_vG := Lib.hid ok_vG
  clear ok_vG
  have HS_2_vR := Lib.hid hs_2_vR
  clear hs_2_vR
  have HS_4_vR := Lib.hid hs_4_vR
  clear hs_4_vR
  have HS_5_vR := Lib.hid hs_5_vR
  clear hs_5_vR
  have OK_vR := Lib.hid ok_vR
  clear ok_vR
  have HS_1_vC := Lib.hid hs_1_vC
  clear hs_1_vC
  have OK_vC := Lib.hid ok_vC
  clear ok_vC
  by_cases h0 : 1048576 < ((DGrammar.sz vG : Nat) : Int)
  · skip
    as_aux_lemma =>
    have hz := fun (hi : Nat) (w' : World) (hhi : hi ≤ w'.heap.size) (hs_0_vG : Sl 0 hi w' 2 vG.fSymbols.length (fun k => DSymbol.ct (vG.fSymbols.getD k default)) a0_vG) (hs_1_vG : Sl 0 hi w' 6 vG.fRules.length (fun k => DRule.ct (vG.fRules.getD k default)) a1_vG) => laws_szGrammar (c0 := c0_vG) (c1 := c1_vG) vG 1048576 (by omega) (by omega) OK_vG.out w' hhi hs_0_vG hs_1_vG
    rw [szR_gt (by omega)] at hz
    have HZ_vG := Lib.hid hz
    clear hz
    go_enter Try.func3, Try.ntmps3
    go_wp2_with fail
    refine (HZ_vG.out w.heap.size _ (Below.size (by repeat (first | (with_reducible exact Below.refl _ _) | (with_reducible apply Below.drew) | (with_reducible refine below_drewN ?_ _) | (refine Below.setCell ?_ (by simp <;> omega) _) | (refine Below.alloc ?_ (by simp <;> omega) _)) : Below w.heap.size w _)) ((HS_0_vG.out.later ((Below.refl w.heap.size w).trans ((by repeat (first | (with_reducible exact Below.refl _ _) | (with_reducible apply Below.drew) | (with_reducible refine below_drewN ?_ _) | (refine Below.setCell ?_ (by simp <;> omega) _) | (refine Below.alloc ?_ (by simp <;> omega) _)) : Below w.heap.size w _).mono (Below.refl w.heap.size w).size)) (Nat.le_refl _)).mono (Nat.le_refl _) (Below.refl w.heap.size w).size) ((HS_1_vG.out.later ((Below.refl w.heap.size w).trans ((by repeat (first | (with_reducible exact Below.refl _ _) | (with_reducible apply Below.drew) | (with_reducible refine below_drewN ?_ _) | (refine Below.setCell ?_ (by simp <;> omega) _) | (refine Below.alloc ?_ (by simp <;> omega) _)) : Below w.heap.size w _).mono (Below.refl w.heap.size w).size)) (Nat.le_refl _)).mono (Nat.le_refl _) (Below.refl w.heap.size w).size)).mono ?_
    rintro e w1 ⟨rfl, hb1⟩
    as_aux_lemma =>
    have hst1 : Below w.heap.size w w1 := Below.trans (by repeat (first | (with_reducible exact Below.refl _ _) | (with_reducible apply Below.drew) | (with_reducible refine below_drewN ?_ _) | (refine Below.setCell ?_ (by simp <;> omega) _) | (refine Below.alloc ?_ (by simp <;> omega) _)) : Below w.heap.size w _) (hb1.mono (Below.size (by repeat (first | (with_reducible exact Below.refl _ _) | (with_reducible apply Below.drew) | (with_reducible refine below_drewN ?_ _) | (refine Below.setCell ?_ (by simp <;> omega) _) | (refine Below.alloc ?_ (by simp <;> omega) _)) : Below w.heap.size w _)))
    have hr1 : w.heap.size + 3 ≤ w1.heap.size := Nat.le_trans (by first | exact Nat.le_refl _ | (simp; done) | (simp; omega) | (simp [World.setCell]; done) | (simp [World.setCell]; omega)) hb1.size
    have sz1_paG : w.heap.size < w1.heap.size := Nat.lt_of_lt_of_le (by first | omega | (simp; done) | (simp; omega) | (simp [World.setCell]; omega)) hb1.size
    have bx1_paG_0 : w1.cell? ⟨w.heap.size, 0, none⟩ = some (.slice a0_vG vG.fSymbols.length c0_vG) := (hb1.cell (p := ⟨w.heap.size, 0, none⟩) (by first | omega | (simp; done) | (simp; omega) | (simp [World.setCell]; omega))).trans (by go_simp)
    have bx1_paG_1 : w1.cell? ⟨w.heap.size, 1, none⟩ = some (.slice a1_vG vG.fRules.length c1_vG) := (hb1.cell (p := ⟨w.heap.size, 1, none⟩) (by first | omega | (simp; done) | (simp; omega) | (simp [World.setCell]; omega))).trans (by go_simp)
    have sz1_paR : w.heap.size + 1 < w1.heap.size := Nat.lt_of_lt_of_le (by first | omega | (simp; done) | (simp; omega) | (simp [World.setCell]; omega)) hb1.size
    have bx1_paR_0 : w1.cell? ⟨w.heap.size + 1, 0, none⟩ = some (.string vR.fName) := (hb1.cell (p := ⟨w.heap.size + 1, 0, none⟩) (by first | omega | (simp; done) | (simp; omega) | (simp [World.setCell]; omega))).trans (by go_simp)
    have bx1_paR_1 : w1.cell? ⟨w.heap.size + 1, 1, none⟩ = some (.string vR.fLeft) := (hb1.cell (p := ⟨w.heap.size + 1, 1, none⟩) (by first | omega | (simp; done) | (simp; omega) | (simp [World.setCell]; omega))).trans (by go_simp)
    have bx1_paR_2 : w1.cell? ⟨w.heap.size + 1, 2, none⟩ = some (.slice a2_vR vR.fRight.length c2_vR) := (hb1.cell (p := ⟨w.heap.size + 1, 2, none⟩) (by first | omega | (simp; done) | (simp; omega) | (simp [World.setCell]; omega))).trans (by go_simp)
    have bx1_paR_3 : w1.cell? ⟨w.heap.size + 1, 3, none⟩ = some (.bool vR.fLiteral) := (hb1.cell (p := ⟨w.heap.size + 1, 3, none⟩) (by first | omega | (simp; done) | (simp; omega) | (simp [World.setCell]; omega))).trans (by go_simp)
    have bx1_paR_4 : w1.cell? ⟨w.heap.size + 1, 4, none⟩ = some (.slice a4_vR vR.fEquations.length c4_vR) := (hb1.cell (p := ⟨w.heap.size + 1, 4, none⟩) (by first | omega | (simp; done) | (simp; omega) | (simp [World.setCell]; omega))).trans (by go_simp)
    have bx1_paR_5 : w1.cell? ⟨w.heap.size + 1, 5, none⟩ = some (.slice a5_vR vR.fContributions.length c5_vR) := (hb1.cell (p := ⟨w.heap.size + 1, 5, none⟩) (by first | omega | (simp; done) | (simp; omega) | (simp [World.setCell]; omega))).trans (by go_simp)
    have sz1_paC : w.heap.size + 2 < w1.heap.size := Nat.lt_of_lt_of_le (by first | omega | (simp; done) | (simp; omega) | (simp [World.setCell]; omega)) hb1.size
    have bx1_paC_0 : w1.cell? ⟨w.heap.size + 2, 0, none⟩ = some (.int .i64 vC.fN) := (hb1.cell (p := ⟨w.heap.size + 2, 0, none⟩) (by first | omega | (simp; done) | (simp; omega) | (simp [World.setCell]; omega))).trans (by go_simp)
    have bx1_paC_1 : w1.cell? ⟨w.heap.size + 2, 1, none⟩ = some (.slice a1_vC vC.fRows.length c1_vC) := (hb1.cell (p := ⟨w.heap.size + 2, 1, none⟩) (by first | omega | (simp; done) | (simp; omega) | (simp [World.setCell]; omega))).trans (by go_simp)
    have HB1 := Lib.hid ((Below.refl w.heap.size w).trans (hst1.mono (Below.refl w.heap.size w).size))
    clear hb1 hst1
    go_wp2
    go_ret
    exact ⟨rfl, HB1.out⟩
  · skip
    as_aux_lemma =>
    by_cases h1 : (1048576 - (DGrammar.sz vG : Nat)) < ((DRule.sz vR : Nat) : Int)
    · skip
      as_aux_lemma =>
      have hz := fun (hi : Nat) (w' : World) (hhi : hi ≤ w'.heap.size) (hs_0_vG : Sl 0 hi w' 2 vG.fSymbols.length (fun k => DSymbol.ct (vG.fSymbols.getD k default)) a0_vG) (hs_1_vG : Sl 0 hi w' 6 vG.fRules.length (fun k => DRule.ct (vG.fRules.getD k default)) a1_vG) => laws_szGrammar (c0 := c0_vG) (c1 := c1_vG) vG 1048576 (by omega) (by omega) OK_vG.out w' hhi hs_0_vG hs_1_vG
      rw [szR_le (by omega)] at hz
      have HZ_vG := Lib.hid hz
      clear hz
      have hz := fun (hi : Nat) (w' : World) (hhi : hi ≤ w'.heap.size) (hs_2_vR : Sl 0 hi w' 1 vR.fRight.length (fun k => ictS (vR.fRight.getD k default)) a2_vR) (hs_4_vR : Sl 0 hi w' 9 vR.fEquations.length (fun k => DEquation.ct (vR.fEquations.getD k default)) a4_vR) (hs_5_vR : Sl 0 hi w' 16 vR.fContributions.length (fun k => DContribution.ct (vR.fContributions.getD k default)) a5_vR) => laws_szRule (c2 := c2_vR) (c4 := c4_vR) (c5 := c5_vR) vR (1048576 - (DGrammar.sz vG : Nat)) (by omega) (by omega) OK_vR.out w' hhi hs_2_vR hs_4_vR hs_5_vR
      rw [szR_gt (by omega)] at hz
      have HZ_vR := Lib.hid hz
      clear hz
      go_enter Try.func3, Try.ntmps3
      go_wp2_with fail
      refine (HZ_vG.out w.heap.size _ (Below.size (by repeat (first | (with_reducible exact Below.refl _ _) | (with_reducible apply Below.drew) | (with_reducible refine below_drewN ?_ _) | (refine Below.setCell ?_ (by simp <;> omega) _) | (refine Below.alloc ?_ (by simp <;> omega) _)) : Below w.heap.size w _)) ((HS_0_vG.out.later ((Below.refl w.heap.size w).trans ((by repeat (first | (with_reducible exact Below.refl _ _) | (with_reducible apply Below.drew) | (with_reducible refine below_drewN ?_ _) | (refine Below.setCell ?_ (by simp <;> omega) _) | (refine Below.alloc ?_ (by simp <;> omega) _)) : Below w.heap.size w _).mono (Below.refl w.heap.size w).size)) (Nat.le_refl _)).mono (Nat.le_refl _) (Below.refl w.heap.size w).size) ((HS_1_vG.out.later ((Below.refl w.heap.size w).trans ((by repeat (first | (with_reducible exact Below.refl _ _) | (with_reducible apply Below.drew) | (with_reducible refine below_drewN ?_ _) | (refine Below.setCell ?_ (by simp <;> omega) _) | (refine Below.alloc ?_ (by simp <;> omega) _)) : Below w.heap.size w _).mono (Below.refl w.heap.size w).size)) (Nat.le_refl _)).mono (Nat.le_refl _) (Below.refl w.heap.size w).size)).mono ?_
      rintro e w1 ⟨rfl, hb1⟩
      as_aux_lemma =>
      have hst1 : Below w.heap.size w w1 := Below.trans (by repeat (first | (with_reducible exact Below.refl _ _) | (with_reducible apply Below.drew) | (with_reducible refine below_drewN ?_ _) | (refine Below.setCell ?_ (by simp <;> omega) _) | (refine Below.alloc ?_ (by simp <;> omega) _)) : Below w.heap.size w _) (hb1.mono (Below.size (by repeat (first | (with_reducible exact Below.refl _ _) | (with_reducible apply Below.drew) | (with_reducible refine below_drewN ?_ _) | (refine Below.setCell ?_ (by simp <;> omega) _) | (refine Below.alloc ?_ (by simp <;> omega) _)) : Below w.heap.size w _)))
      have hr1 : w.heap.size + 3 ≤ w1.heap.size := Nat.le_trans (by first | exact Nat.le_refl _ | (simp; done) | (simp; omega) | (simp [World.setCell]; done) | (simp [World.setCell]; omega)) hb1.size
      have sz1_paG : w.heap.size < w1.heap.size := Nat.lt_of_lt_of_le (by first | omega | (simp; done) | (simp; omega) | (simp [World.setCell]; omega)) hb1.size
      have bx1_paG_0 : w1.cell? ⟨w.heap.size, 0, none⟩ = some (.slice a0_vG vG.fSymbols.length c0_vG) := (hb1.cell (p := ⟨w.heap.size, 0, none⟩) (by first | omega | (simp; done) | (simp; omega) | (simp [World.setCell]; omega))).trans (by go_simp)
      have bx1_paG_1 : w1.cell? ⟨w.heap.size, 1, none⟩ = some (.slice a1_vG vG.fRules.length c1_vG) := (hb1.cell (p := ⟨w.heap.size, 1, none⟩) (by first | omega | (simp; done) | (simp; omega) | (simp [World.setCell]; omega))).trans (by go_simp)
      have sz1_paR : w.heap.size + 1 < w1.heap.size := Nat.lt_of_lt_of_le (by first | omega | (simp; done) | (simp; omega) | (simp [World.setCell]; omega)) hb1.size
      have bx1_paR_0 : w1.cell? ⟨w.heap.size + 1, 0, none⟩ = some (.string vR.fName) := (hb1.cell (p := ⟨w.heap.size + 1, 0, none⟩) (by first | omega | (simp; done) | (simp; omega) | (simp [World.setCell]; omega))).trans (by go_simp)
      have bx1_paR_1 : w1.cell? ⟨w.heap.size + 1, 1, none⟩ = some (.string vR.fLeft) := (hb1.cell (p := ⟨w.heap.size + 1, 1, none⟩) (by first | omega | (simp; done) | (simp; omega) | (simp [World.setCell]; omega))).trans (by go_simp)
      have bx1_paR_2 : w1.cell? ⟨w.heap.size + 1, 2, none⟩ = some (.slice a2_vR vR.fRight.length c2_vR) := (hb1.cell (p := ⟨w.heap.size + 1, 2, none⟩) (by first | omega | (simp; done) | (simp; omega) | (simp [World.setCell]; omega))).trans (by go_simp)
      have bx1_paR_3 : w1.cell? ⟨w.heap.size + 1, 3, none⟩ = some (.bool vR.fLiteral) := (hb1.cell (p := ⟨w.heap.size + 1, 3, none⟩) (by first | omega | (simp; done) | (simp; omega) | (simp [World.setCell]; omega))).trans (by go_simp)
      have bx1_paR_4 : w1.cell? ⟨w.heap.size + 1, 4, none⟩ = some (.slice a4_vR vR.fEquations.length c4_vR) := (hb1.cell (p := ⟨w.heap.size + 1, 4, none⟩) (by first | omega | (simp; done) | (simp; omega) | (simp [World.setCell]; omega))).trans (by go_simp)
      have bx1_paR_5 : w1.cell? ⟨w.heap.size + 1, 5, none⟩ = some (.slice a5_vR vR.fContributions.length c5_vR) := (hb1.cell (p := ⟨w.heap.size + 1, 5, none⟩) (by first | omega | (simp; done) | (simp; omega) | (simp [World.setCell]; omega))).trans (by go_simp)
      have sz1_paC : w.heap.size + 2 < w1.heap.size := Nat.lt_of_lt_of_le (by first | omega | (simp; done) | (simp; omega) | (simp [World.setCell]; omega)) hb1.size
      have bx1_paC_0 : w1.cell? ⟨w.heap.size + 2, 0, none⟩ = some (.int .i64 vC.fN) := (hb1.cell (p := ⟨w.heap.size + 2, 0, none⟩) (by first | omega | (simp; done) | (simp; omega) | (simp [World.setCell]; omega))).trans (by go_simp)
      have bx1_paC_1 : w1.cell? ⟨w.heap.size + 2, 1, none⟩ = some (.slice a1_vC vC.fRows.length c1_vC) := (hb1.cell (p := ⟨w.heap.size + 2, 1, none⟩) (by first | omega | (simp; done) | (simp; omega) | (simp [World.setCell]; omega))).trans (by go_simp)
      have HB1 := Lib.hid ((Below.refl w.heap.size w).trans (hst1.mono (Below.refl w.heap.size w).size))
      clear hb1 hst1
      go_wp2_with fail
      refine (HZ_vR.out w1.heap.size _ (Below.size (by repeat (first | (with_reducible exact Below.refl _ _) | (with_reducible apply Below.drew) | (with_reducible refine below_drewN ?_ _) | (refine Below.setCell ?_ (by simp <;> omega) _) | (refine Below.alloc ?_ (by simp <;> omega) _)) : Below w1.heap.size w1 _)) ((HS_2_vR.out.later (HB1.out.trans ((by repeat (first | (with_reducible exact Below.refl _ _) | (with_reducible apply Below.drew) | (with_reducible refine below_drewN ?_ _) | (refine Below.setCell ?_ (by simp <;> omega) _) | (refine Below.alloc ?_ (by simp <;> omega) _)) : Below w1.heap.size w1 _).mono HB1.out.size)) (Nat.le_refl _)).mono (Nat.le_refl _) HB1.out.size) ((HS_4_vR.out.later (HB1.out.trans ((by repeat (first | (with_reducible exact Below.refl _ _) | (with_reducible apply Below.drew) | (with_reducible refine below_drewN ?_ _) | (refine Below.setCell ?_ (by simp <;> omega) _) | (refine Below.alloc ?_ (by simp <;> omega) _)) : Below w1.heap.size w1 _).mono HB1.out.size)) (Nat.le_refl _)).mono (Nat.le_refl _) HB1.out.size) ((HS_5_vR.out.later (HB1.out.trans ((by repeat (first | (with_reducible exact Below.refl _ _) | (with_reducible apply Below.drew) | (with_reducible refine below_drewN ?_ _) | (refine Below.setCell ?_ (by simp <;> omega) _) | (refine Below.alloc ?_ (by simp <;> omega) _)) : Below w1.heap.size w1 _).mono HB1.out.size)) (Nat.le_refl _)).mono (Nat.le_refl _) HB1.out.size)).mono ?_
      rintro e w2 ⟨rfl, hb2⟩
      as_aux_lemma =>
      have hst2 : Below w1.heap.size w1 w2 := Below.trans (by repeat (first | (with_reducible exact Below.refl _ _) | (with_reducible apply Below.drew) | (with_reducible refine below_drewN ?_ _) | (refine Below.setCell ?_ (by simp <;> omega) _) | (refine Below.alloc ?_ (by simp <;> omega) _)) : Below w1.heap.size w1 _) (hb2.mono (Below.size (by repeat (first | (with_reducible exact Below.refl _ _) | (with_reducible apply Below.drew) | (with_reducible refine below_drewN ?_ _) | (refine Below.setCell ?_ (by simp <;> omega) _) | (refine Below.alloc ?_ (by simp <;> omega) _)) : Below w1.heap.size w1 _)))
      have hr2 : w1.heap.size ≤ w2.heap.size := Nat.le_trans (by first | exact Nat.le_refl _ | (simp; done) | (simp; omega) | (simp [World.setCell]; done) | (simp [World.setCell]; omega)) hb2.size
      have sz2_paG := Nat.lt_of_lt_of_le sz1_paG hst2.size
      have bx2_paG_0 := (hst2.cell (p := ⟨w.heap.size, 0, none⟩) sz1_paG).trans bx1_paG_0
      have bx2_paG_1 := (hst2.cell (p := ⟨w.heap.size, 1, none⟩) sz1_paG).trans bx1_paG_1
      have sz2_paR := Nat.lt_of_lt_of_le sz1_paR hst2.size
      have bx2_paR_0 := (hst2.cell (p := ⟨w.heap.size + 1, 0, none⟩) sz1_paR).trans bx1_paR_0
      have bx2_paR_1 := (hst2.cell (p := ⟨w.heap.size + 1, 1, none⟩) sz1_paR).trans bx1_paR_1
      have bx2_paR_2 := (hst2.cell (p := ⟨w.heap.size + 1, 2, none⟩) sz1_paR).trans bx1_paR_2
      have bx2_paR_3 := (hst2.cell (p := ⟨w.heap.size + 1, 3, none⟩) sz1_paR).trans bx1_paR_3
      have bx2_paR_4 := (hst2.cell (p := ⟨w.heap.size + 1, 4, none⟩) sz1_paR).trans bx1_paR_4
      have bx2_paR_5 := (hst2.cell (p := ⟨w.heap.size + 1, 5, none⟩) sz1_paR).trans bx1_paR_5
      have sz2_paC := Nat.lt_of_lt_of_le sz1_paC hst2.size
      have bx2_paC_0 := (hst2.cell (p := ⟨w.heap.size + 2, 0, none⟩) sz1_paC).trans bx1_paC_0
      have bx2_paC_1 := (hst2.cell (p := ⟨w.heap.size + 2, 1, none⟩) sz1_paC).trans bx1_paC_1
      have HB2 := Lib.hid (HB1.out.trans (hst2.mono HB1.out.size))
      clear bx1_paG_0 bx1_paG_1 sz1_paG bx1_paR_0 bx1_paR_1 bx1_paR_2 bx1_paR_3 bx1_paR_4 bx1_paR_5 sz1_paR bx1_paC_0 bx1_paC_1 sz1_paC hb2 hst2 HB1
      go_wp2
      go_ret
      exact ⟨rfl, HB2.out⟩
    · skip
      as_aux_lemma =>
      by_cases h2 : ((1048576 - (DGrammar.sz vG : Nat)) - (DRule.sz vR : Nat)) < ((DRelation.sz vC : Nat) : Int)
      · skip
        as_aux_lemma =>
        have hz := fun (hi : Nat) (w' : World) (hhi : hi ≤ w'.heap.size) (hs_0_vG : Sl 0 hi w' 2 vG.fSymbols.length (fun k => DSymbol.ct (vG.fSymbols.getD k default)) a0_vG) (hs_1_vG : Sl 0 hi w' 6 vG.fRules.length (fun k => DRule.ct (vG.fRules.getD k default)) a1_vG) => laws_szGrammar (c0 := c0_vG) (c1 := c1_vG) vG 1048576 (by omega) (by omega) OK_vG.out w' hhi hs_0_vG hs_1_vG
        rw [szR_le (by omega)] at hz
        have HZ_vG := Lib.hid hz
        clear hz
        have hz := fun (hi : Nat) (w' : World) (hhi : hi ≤ w'.heap.size) (hs_2_vR : Sl 0 hi w' 1 vR.fRight.length (fun k => ictS (vR.fRight.getD k default)) a2_vR) (hs_4_vR : Sl 0 hi w' 9 vR.fEquations.length (fun k => DEquation.ct (vR.fEquations.getD k default)) a4_vR) (hs_5_vR : Sl 0 hi w' 16 vR.fContributions.length (fun k => DContribution.ct (vR.fContributions.getD k default)) a5_vR) => laws_szRule (c2 := c2_vR) (c4 := c4_vR) (c5 := c5_vR) vR (1048576 - (DGrammar.sz vG : Nat)) (by omega) (by omega) OK_vR.out w' hhi hs_2_vR hs_4_vR hs_5_vR
        rw [szR_le (by omega)] at hz
        have HZ_vR := Lib.hid hz
        clear hz
        have hz := fun (hi : Nat) (w' : World) (hhi : hi ≤ w'.heap.size) (hs_1_vC : Sl 0 hi w' 1 vC.fRows.length (fun k => ictI (vC.fRows.getD k default)) a1_vC) => laws_szRelation (c1 := c1_vC) vC ((1048576 - (DGrammar.sz vG : Nat)) - (DRule.sz vR : Nat)) (by omega) (by omega) OK_vC.out w' hhi hs_1_vC
        rw [szR_gt (by omega)] at hz
        have HZ_vC := Lib.hid hz
        clear hz
        go_enter Try.func3, Try.ntmps3
        go_wp2_with fail
        refine (HZ_vG.out w.heap.size _ (Below.size (by repeat (first | (with_reducible exact Below.refl _ _) | (with_reducible apply Below.drew) | (with_reducible refine below_drewN ?_ _) | (refine Below.setCell ?_ (by simp <;> omega) _) | (refine Below.alloc ?_ (by simp <;> omega) _)) : Below w.heap.size w _)) ((HS_0_vG.out.later ((Below.refl w.heap.size w).trans ((by repeat (first | (with_reducible exact Below.refl _ _) | (with_reducible apply Below.drew) | (with_reducible refine below_drewN ?_ _) | (refine Below.setCell ?_ (by simp <;> omega) _) | (refine Below.alloc ?_ (by simp <;> omega) _)) : Below w.heap.size w _).mono (Below.refl w.heap.size w).size)) (Nat.le_refl _)).mono (Nat.le_refl _) (Below.refl w.heap.size w).size) ((HS_1_vG.out.later ((Below.refl w.heap.size w).trans ((by repeat (first | (with_reducible exact Below.refl _ _) | (with_reducible apply Below.drew) | (with_reducible refine below_drewN ?_ _) | (refine Below.setCell ?_ (by simp <;> omega) _) | (refine Below.alloc ?_ (by simp <;> omega) _)) : Below w.heap.size w _).mono (Below.refl w.heap.size w).size)) (Nat.le_refl _)).mono (Nat.le_refl _) (Below.refl w.heap.size w).size)).mono ?_
        rintro e w1 ⟨rfl, hb1⟩
        as_aux_lemma =>
        have hst1 : Below w.heap.size w w1 := Below.trans (by repeat (first | (with_reducible exact Below.refl _ _) | (with_reducible apply Below.drew) | (with_reducible refine below_drewN ?_ _) | (refine Below.setCell ?_ (by simp <;> omega) _) | (refine Below.alloc ?_ (by simp <;> omega) _)) : Below w.heap.size w _) (hb1.mono (Below.size (by repeat (first | (with_reducible exact Below.refl _ _) | (with_reducible apply Below.drew) | (with_reducible refine below_drewN ?_ _) | (refine Below.setCell ?_ (by simp <;> omega) _) | (refine Below.alloc ?_ (by simp <;> omega) _)) : Below w.heap.size w _)))
        have hr1 : w.heap.size + 3 ≤ w1.heap.size := Nat.le_trans (by first | exact Nat.le_refl _ | (simp; done) | (simp; omega) | (simp [World.setCell]; done) | (simp [World.setCell]; omega)) hb1.size
        have sz1_paG : w.heap.size < w1.heap.size := Nat.lt_of_lt_of_le (by first | omega | (simp; done) | (simp; omega) | (simp [World.setCell]; omega)) hb1.size
        have bx1_paG_0 : w1.cell? ⟨w.heap.size, 0, none⟩ = some (.slice a0_vG vG.fSymbols.length c0_vG) := (hb1.cell (p := ⟨w.heap.size, 0, none⟩) (by first | omega | (simp; done) | (simp; omega) | (simp [World.setCell]; omega))).trans (by go_simp)
        have bx1_paG_1 : w1.cell? ⟨w.heap.size, 1, none⟩ = some (.slice a1_vG vG.fRules.length c1_vG) := (hb1.cell (p := ⟨w.heap.size, 1, none⟩) (by first | omega | (simp; done) | (simp; omega) | (simp [World.setCell]; omega))).trans (by go_simp)
        have sz1_paR : w.heap.size + 1 < w1.heap.size := Nat.lt_of_lt_of_le (by first | omega | (simp; done) | (simp; omega) | (simp [World.setCell]; omega)) hb1.size
        have bx1_paR_0 : w1.cell? ⟨w.heap.size + 1, 0, none⟩ = some (.string vR.fName) := (hb1.cell (p := ⟨w.heap.size + 1, 0, none⟩) (by first | omega | (simp; done) | (simp; omega) | (simp [World.setCell]; omega))).trans (by go_simp)
        have bx1_paR_1 : w1.cell? ⟨w.heap.size + 1, 1, none⟩ = some (.string vR.fLeft) := (hb1.cell (p := ⟨w.heap.size + 1, 1, none⟩) (by first | omega | (simp; done) | (simp; omega) | (simp [World.setCell]; omega))).trans (by go_simp)
        have bx1_paR_2 : w1.cell? ⟨w.heap.size + 1, 2, none⟩ = some (.slice a2_vR vR.fRight.length c2_vR) := (hb1.cell (p := ⟨w.heap.size + 1, 2, none⟩) (by first | omega | (simp; done) | (simp; omega) | (simp [World.setCell]; omega))).trans (by go_simp)
        have bx1_paR_3 : w1.cell? ⟨w.heap.size + 1, 3, none⟩ = some (.bool vR.fLiteral) := (hb1.cell (p := ⟨w.heap.size + 1, 3, none⟩) (by first | omega | (simp; done) | (simp; omega) | (simp [World.setCell]; omega))).trans (by go_simp)
        have bx1_paR_4 : w1.cell? ⟨w.heap.size + 1, 4, none⟩ = some (.slice a4_vR vR.fEquations.length c4_vR) := (hb1.cell (p := ⟨w.heap.size + 1, 4, none⟩) (by first | omega | (simp; done) | (simp; omega) | (simp [World.setCell]; omega))).trans (by go_simp)
        have bx1_paR_5 : w1.cell? ⟨w.heap.size + 1, 5, none⟩ = some (.slice a5_vR vR.fContributions.length c5_vR) := (hb1.cell (p := ⟨w.heap.size + 1, 5, none⟩) (by first | omega | (simp; done) | (simp; omega) | (simp [World.setCell]; omega))).trans (by go_simp)
        have sz1_paC : w.heap.size + 2 < w1.heap.size := Nat.lt_of_lt_of_le (by first | omega | (simp; done) | (simp; omega) | (simp [World.setCell]; omega)) hb1.size
        have bx1_paC_0 : w1.cell? ⟨w.heap.size + 2, 0, none⟩ = some (.int .i64 vC.fN) := (hb1.cell (p := ⟨w.heap.size + 2, 0, none⟩) (by first | omega | (simp; done) | (simp; omega) | (simp [World.setCell]; omega))).trans (by go_simp)
        have bx1_paC_1 : w1.cell? ⟨w.heap.size + 2, 1, none⟩ = some (.slice a1_vC vC.fRows.length c1_vC) := (hb1.cell (p := ⟨w.heap.size + 2, 1, none⟩) (by first | omega | (simp; done) | (simp; omega) | (simp [World.setCell]; omega))).trans (by go_simp)
        have HB1 := Lib.hid ((Below.refl w.heap.size w).trans (hst1.mono (Below.refl w.heap.size w).size))
        clear hb1 hst1
        go_wp2_with fail
        refine (HZ_vR.out w1.heap.size _ (Below.size (by repeat (first | (with_reducible exact Below.refl _ _) | (with_reducible apply Below.drew) | (with_reducible refine below_drewN ?_ _) | (refine Below.setCell ?_ (by simp <;> omega) _) | (refine Below.alloc ?_ (by simp <;> omega) _)) : Below w1.heap.size w1 _)) ((HS_2_vR.out.later (HB1.out.trans ((by repeat (first | (with_reducible exact Below.refl _ _) | (with_reducible apply Below.drew) | (with_reducible refine below_drewN ?_ _) | (refine Below.setCell ?_ (by simp <;> omega) _) | (refine Below.alloc ?_ (by simp <;> omega) _)) : Below w1.heap.size w1 _).mono HB1.out.size)) (Nat.le_refl _)).mono (Nat.le_refl _) HB1.out.size) ((HS_4_vR.out.later (HB1.out.trans ((by repeat (first | (with_reducible exact Below.refl _ _) | (with_reducible apply Below.drew) | (with_reducible refine below_drewN ?_ _) | (refine Below.setCell ?_ (by simp <;> omega) _) | (refine Below.alloc ?_ (by simp <;> omega) _)) : Below w1.heap.size w1 _).mono HB1.out.size)) (Nat.le_refl _)).mono (Nat.le_refl _) HB1.out.size) ((HS_5_vR.out.later (HB1.out.trans ((by repeat (first | (with_reducible exact Below.refl _ _) | (with_reducible apply Below.drew) | (with_reducible refine below_drewN ?_ _) | (refine Below.setCell ?_ (by simp <;> omega) _) | (refine Below.alloc ?_ (by simp <;> omega) _)) : Below w1.heap.size w1 _).mono HB1.out.size)) (Nat.le_refl _)).mono (Nat.le_refl _) HB1.out.size)).mono ?_
        rintro e w2 ⟨rfl, hb2⟩
        as_aux_lemma =>
        have hst2 : Below w1.heap.size w1 w2 := Below.trans (by repeat (first | (with_reducible exact Below.refl _ _) | (with_reducible apply Below.drew) | (with_reducible refine below_drewN ?_ _) | (refine Below.setCell ?_ (by simp <;> omega) _) | (refine Below.alloc ?_ (by simp <;> omega) _)) : Below w1.heap.size w1 _) (hb2.mono (Below.size (by repeat (first | (with_reducible exact Below.refl _ _) | (with_reducible apply Below.drew) | (with_reducible refine below_drewN ?_ _) | (refine Below.setCell ?_ (by simp <;> omega) _) | (refine Below.alloc ?_ (by simp <;> omega) _)) : Below w1.heap.size w1 _)))
        have hr2 : w1.heap.size ≤ w2.heap.size := Nat.le_trans (by first | exact Nat.le_refl _ | (simp; done) | (simp; omega) | (simp [World.setCell]; done) | (simp [World.setCell]; omega)) hb2.size
        have sz2_paG := Nat.lt_of_lt_of_le sz1_paG hst2.size
        have bx2_paG_0 := (hst2.cell (p := ⟨w.heap.size, 0, none⟩) sz1_paG).trans bx1_paG_0
        have bx2_paG_1 := (hst2.cell (p := ⟨w.heap.size, 1, none⟩) sz1_paG).trans bx1_paG_1
        have sz2_paR := Nat.lt_of_lt_of_le sz1_paR hst2.size
        have bx2_paR_0 := (hst2.cell (p := ⟨w.heap.size + 1, 0, none⟩) sz1_paR).trans bx1_paR_0
        have bx2_paR_1 := (hst2.cell (p := ⟨w.heap.size + 1, 1, none⟩) sz1_paR).trans bx1_paR_1
        have bx2_paR_2 := (hst2.cell (p := ⟨w.heap.size + 1, 2, none⟩) sz1_paR).trans bx1_paR_2
        have bx2_paR_3 := (hst2.cell (p := ⟨w.heap.size + 1, 3, none⟩) sz1_paR).trans bx1_paR_3
        have bx2_paR_4 := (hst2.cell (p := ⟨w.heap.size + 1, 4, none⟩) sz1_paR).trans bx1_paR_4
        have bx2_paR_5 := (hst2.cell (p := ⟨w.heap.size + 1, 5, none⟩) sz1_paR).trans bx1_paR_5
        have sz2_paC := Nat.lt_of_lt_of_le sz1_paC hst2.size
        have bx2_paC_0 := (hst2.cell (p := ⟨w.heap.size + 2, 0, none⟩) sz1_paC).trans bx1_paC_0
        have bx2_paC_1 := (hst2.cell (p := ⟨w.heap.size + 2, 1, none⟩) sz1_paC).trans bx1_paC_1
        have HB2 := Lib.hid (HB1.out.trans (hst2.mono HB1.out.size))
        clear bx1_paG_0 bx1_paG_1 sz1_paG bx1_paR_0 bx1_paR_1 bx1_paR_2 bx1_paR_3 bx1_paR_4 bx1_paR_5 sz1_paR bx1_paC_0 bx1_paC_1 sz1_paC hb2 hst2 HB1
        go_wp2_with fail
        refine (HZ_vC.out w2.heap.size _ (Below.size (by repeat (first | (with_reducible exact Below.refl _ _) | (with_reducible apply Below.drew) | (with_reducible refine below_drewN ?_ _) | (refine Below.setCell ?_ (by simp <;> omega) _) | (refine Below.alloc ?_ (by simp <;> omega) _)) : Below w2.heap.size w2 _)) ((HS_1_vC.out.later (HB2.out.trans ((by repeat (first | (with_reducible exact Below.refl _ _) | (with_reducible apply Below.drew) | (with_reducible refine below_drewN ?_ _) | (refine Below.setCell ?_ (by simp <;> omega) _) | (refine Below.alloc ?_ (by simp <;> omega) _)) : Below w2.heap.size w2 _).mono HB2.out.size)) (Nat.le_refl _)).mono (Nat.le_refl _) HB2.out.size)).mono ?_
        rintro e w3 ⟨rfl, hb3⟩
        as_aux_lemma =>
        have hst3 : Below w2.heap.size w2 w3 := Below.trans (by repeat (first | (with_reducible exact Below.refl _ _) | (with_reducible apply Below.drew) | (with_reducible refine below_drewN ?_ _) | (refine Below.setCell ?_ (by simp <;> omega) _) | (refine Below.alloc ?_ (by simp <;> omega) _)) : Below w2.heap.size w2 _) (hb3.mono (Below.size (by repeat (first | (with_reducible exact Below.refl _ _) | (with_reducible apply Below.drew) | (with_reducible refine below_drewN ?_ _) | (refine Below.setCell ?_ (by simp <;> omega) _) | (refine Below.alloc ?_ (by simp <;> omega) _)) : Below w2.heap.size w2 _)))
        have hr3 : w2.heap.size ≤ w3.heap.size := Nat.le_trans (by first | exact Nat.le_refl _ | (simp; done) | (simp; omega) | (simp [World.setCell]; done) | (simp [World.setCell]; omega)) hb3.size
        have sz3_paG := Nat.lt_of_lt_of_le sz2_paG hst3.size
        have bx3_paG_0 := (hst3.cell (p := ⟨w.heap.size, 0, none⟩) sz2_paG).trans bx2_paG_0
        have bx3_paG_1 := (hst3.cell (p := ⟨w.heap.size, 1, none⟩) sz2_paG).trans bx2_paG_1
        have sz3_paR := Nat.lt_of_lt_of_le sz2_paR hst3.size
        have bx3_paR_0 := (hst3.cell (p := ⟨w.heap.size + 1, 0, none⟩) sz2_paR).trans bx2_paR_0
        have bx3_paR_1 := (hst3.cell (p := ⟨w.heap.size + 1, 1, none⟩) sz2_paR).trans bx2_paR_1
        have bx3_paR_2 := (hst3.cell (p := ⟨w.heap.size + 1, 2, none⟩) sz2_paR).trans bx2_paR_2
        have bx3_paR_3 := (hst3.cell (p := ⟨w.heap.size + 1, 3, none⟩) sz2_paR).trans bx2_paR_3
        have bx3_paR_4 := (hst3.cell (p := ⟨w.heap.size + 1, 4, none⟩) sz2_paR).trans bx2_paR_4
        have bx3_paR_5 := (hst3.cell (p := ⟨w.heap.size + 1, 5, none⟩) sz2_paR).trans bx2_paR_5
        have sz3_paC := Nat.lt_of_lt_of_le sz2_paC hst3.size
        have bx3_paC_0 := (hst3.cell (p := ⟨w.heap.size + 2, 0, none⟩) sz2_paC).trans bx2_paC_0
        have bx3_paC_1 := (hst3.cell (p := ⟨w.heap.size + 2, 1, none⟩) sz2_paC).trans bx2_paC_1
        have HB3 := Lib.hid (HB2.out.trans (hst3.mono HB2.out.size))
        clear bx2_paG_0 bx2_paG_1 sz2_paG bx2_paR_0 bx2_paR_1 bx2_paR_2 bx2_paR_3 bx2_paR_4 bx2_paR_5 sz2_paR bx2_paC_0 bx2_paC_1 sz2_paC hb3 hst3 HB2
        go_wp2
        go_ret
        exact ⟨rfl, HB3.out⟩
      · skip
        as_aux_lemma =>
        have hz := fun (hi : Nat) (w' : World) (hhi : hi ≤ w'.heap.size) (hs_0_vG : Sl 0 hi w' 2 vG.fSymbols.length (fun k => DSymbol.ct (vG.fSymbols.getD k default)) a0_vG) (hs_1_vG : Sl 0 hi w' 6 vG.fRules.length (fun k => DRule.ct (vG.fRules.getD k default)) a1_vG) => laws_szGrammar (c0 := c0_vG) (c1 := c1_vG) vG 1048576 (by omega) (by omega) OK_vG.out w' hhi hs_0_vG hs_1_vG
        rw [szR_le (by omega)] at hz
        have HZ_vG := Lib.hid hz
        clear hz
        have hz := fun (hi : Nat) (w' : World) (hhi : hi ≤ w'.heap.size) (hs_2_vR : Sl 0 hi w' 1 vR.fRight.length (fun k => ictS (vR.fRight.getD k default)) a2_vR) (hs_4_vR : Sl 0 hi w' 9 vR.fEquations.length (fun k => DEquation.ct (vR.fEquations.getD k default)) a4_vR) (hs_5_vR : Sl 0 hi w' 16 vR.fContributions.length (fun k => DContribution.ct (vR.fContributions.getD k default)) a5_vR) => laws_szRule (c2 := c2_vR) (c4 := c4_vR) (c5 := c5_vR) vR (1048576 - (DGrammar.sz vG : Nat)) (by omega) (by omega) OK_vR.out w' hhi hs_2_vR hs_4_vR hs_5_vR
        rw [szR_le (by omega)] at hz
        have HZ_vR := Lib.hid hz
        clear hz
        have hz := fun (hi : Nat) (w' : World) (hhi : hi ≤ w'.heap.size) (hs_1_vC : Sl 0 hi w' 1 vC.fRows.length (fun k => ictI (vC.fRows.getD k default)) a1_vC) => laws_szRelation (c1 := c1_vC) vC ((1048576 - (DGrammar.sz vG : Nat)) - (DRule.sz vR : Nat)) (by omega) (by omega) OK_vC.out w' hhi hs_1_vC
        rw [szR_le (by omega)] at hz
        have HZ_vC := Lib.hid hz
        clear hz
        have hq_vG : DGrammar.sz vG ≤ 1048576 := by omega
        have hq_vR : DRule.sz vR ≤ 1048576 := by omega
        have hq_vC : DRelation.sz vC ≤ 1048576 := by omega
        have hq_R : DRelation.sz (summ vG vR vC) ≤ 1048576 := (summ_small vG vR vC).sz
        go_enter Try.func3, Try.ntmps3
        go_wp2_with fail
        refine (HZ_vG.out w.heap.size _ (Below.size (by repeat (first | (with_reducible exact Below.refl _ _) | (with_reducible apply Below.drew) | (with_reducible refine below_drewN ?_ _) | (refine Below.setCell ?_ (by simp <;> omega) _) | (refine Below.alloc ?_ (by simp <;> omega) _)) : Below w.heap.size w _)) ((HS_0_vG.out.later ((Below.refl w.heap.size w).trans ((by repeat (first | (with_reducible exact Below.refl _ _) | (with_reducible apply Below.drew) | (with_reducible refine below_drewN ?_ _) | (refine Below.setCell ?_ (by simp <;> omega) _) | (refine Below.alloc ?_ (by simp <;> omega) _)) : Below w.heap.size w _).mono (Below.refl w.heap.size w).size)) (Nat.le_refl _)).mono (Nat.le_refl _) (Below.refl w.heap.size w).size) ((HS_1_vG.out.later ((Below.refl w.heap.size w).trans ((by repeat (first | (with_reducible exact Below.refl _ _) | (with_reducible apply Below.drew) | (with_reducible refine below_drewN ?_ _) | (refine Below.setCell ?_ (by simp <;> omega) _) | (refine Below.alloc ?_ (by simp <;> omega) _)) : Below w.heap.size w _).mono (Below.refl w.heap.size w).size)) (Nat.le_refl _)).mono (Nat.le_refl _) (Below.refl w.heap.size w).size)).mono ?_
        rintro e w1 ⟨rfl, hb1⟩
        as_aux_lemma =>
        have hst1 : Below w.heap.size w w1 := Below.trans (by repeat (first | (with_reducible exact Below.refl _ _) | (with_reducible apply Below.drew) | (with_reducible refine below_drewN ?_ _) | (refine Below.setCell ?_ (by simp <;> omega) _) | (refine Below.alloc ?_ (by simp <;> omega) _)) : Below w.heap.size w _) (hb1.mono (Below.size (by repeat (first | (with_reducible exact Below.refl _ _) | (with_reducible apply Below.drew) | (with_reducible refine below_drewN ?_ _) | (refine Below.setCell ?_ (by simp <;> omega) _) | (refine Below.alloc ?_ (by simp <;> omega) _)) : Below w.heap.size w _)))
        have hr1 : w.heap.size + 3 ≤ w1.heap.size := Nat.le_trans (by first | exact Nat.le_refl _ | (simp; done) | (simp; omega) | (simp [World.setCell]; done) | (simp [World.setCell]; omega)) hb1.size
        have sz1_paG : w.heap.size < w1.heap.size := Nat.lt_of_lt_of_le (by first | omega | (simp; done) | (simp; omega) | (simp [World.setCell]; omega)) hb1.size
        have bx1_paG_0 : w1.cell? ⟨w.heap.size, 0, none⟩ = some (.slice a0_vG vG.fSymbols.length c0_vG) := (hb1.cell (p := ⟨w.heap.size, 0, none⟩) (by first | omega | (simp; done) | (simp; omega) | (simp [World.setCell]; omega))).trans (by go_simp)
        have bx1_paG_1 : w1.cell? ⟨w.heap.size, 1, none⟩ = some (.slice a1_vG vG.fRules.length c1_vG) := (hb1.cell (p := ⟨w.heap.size, 1, none⟩) (by first | omega | (simp; done) | (simp; omega) | (simp [World.setCell]; omega))).trans (by go_simp)
        have sz1_paR : w.heap.size + 1 < w1.heap.size := Nat.lt_of_lt_of_le (by first | omega | (simp; done) | (simp; omega) | (simp [World.setCell]; omega)) hb1.size
        have bx1_paR_0 : w1.cell? ⟨w.heap.size + 1, 0, none⟩ = some (.string vR.fName) := (hb1.cell (p := ⟨w.heap.size + 1, 0, none⟩) (by first | omega | (simp; done) | (simp; omega) | (simp [World.setCell]; omega))).trans (by go_simp)
        have bx1_paR_1 : w1.cell? ⟨w.heap.size + 1, 1, none⟩ = some (.string vR.fLeft) := (hb1.cell (p := ⟨w.heap.size + 1, 1, none⟩) (by first | omega | (simp; done) | (simp; omega) | (simp [World.setCell]; omega))).trans (by go_simp)
        have bx1_paR_2 : w1.cell? ⟨w.heap.size + 1, 2, none⟩ = some (.slice a2_vR vR.fRight.length c2_vR) := (hb1.cell (p := ⟨w.heap.size + 1, 2, none⟩) (by first | omega | (simp; done) | (simp; omega) | (simp [World.setCell]; omega))).trans (by go_simp)
        have bx1_paR_3 : w1.cell? ⟨w.heap.size + 1, 3, none⟩ = some (.bool vR.fLiteral) := (hb1.cell (p := ⟨w.heap.size + 1, 3, none⟩) (by first | omega | (simp; done) | (simp; omega) | (simp [World.setCell]; omega))).trans (by go_simp)
        have bx1_paR_4 : w1.cell? ⟨w.heap.size + 1, 4, none⟩ = some (.slice a4_vR vR.fEquations.length c4_vR) := (hb1.cell (p := ⟨w.heap.size + 1, 4, none⟩) (by first | omega | (simp; done) | (simp; omega) | (simp [World.setCell]; omega))).trans (by go_simp)
        have bx1_paR_5 : w1.cell? ⟨w.heap.size + 1, 5, none⟩ = some (.slice a5_vR vR.fContributions.length c5_vR) := (hb1.cell (p := ⟨w.heap.size + 1, 5, none⟩) (by first | omega | (simp; done) | (simp; omega) | (simp [World.setCell]; omega))).trans (by go_simp)
        have sz1_paC : w.heap.size + 2 < w1.heap.size := Nat.lt_of_lt_of_le (by first | omega | (simp; done) | (simp; omega) | (simp [World.setCell]; omega)) hb1.size
        have bx1_paC_0 : w1.cell? ⟨w.heap.size + 2, 0, none⟩ = some (.int .i64 vC.fN) := (hb1.cell (p := ⟨w.heap.size + 2, 0, none⟩) (by first | omega | (simp; done) | (simp; omega) | (simp [World.setCell]; omega))).trans (by go_simp)
        have bx1_paC_1 : w1.cell? ⟨w.heap.size + 2, 1, none⟩ = some (.slice a1_vC vC.fRows.length c1_vC) := (hb1.cell (p := ⟨w.heap.size + 2, 1, none⟩) (by first | omega | (simp; done) | (simp; omega) | (simp [World.setCell]; omega))).trans (by go_simp)
        have HB1 := Lib.hid ((Below.refl w.heap.size w).trans (hst1.mono (Below.refl w.heap.size w).size))
        clear hb1 hst1
        go_wp2_with fail
        refine (HZ_vR.out w1.heap.size _ (Below.size (by repeat (first | (with_reducible exact Below.refl _ _) | (with_reducible apply Below.drew) | (with_reducible refine below_drewN ?_ _) | (refine Below.setCell ?_ (by simp <;> omega) _) | (refine Below.alloc ?_ (by simp <;> omega) _)) : Below w1.heap.size w1 _)) ((HS_2_vR.out.later (HB1.out.trans ((by repeat (first | (with_reducible exact Below.refl _ _) | (with_reducible apply Below.drew) | (with_reducible refine below_drewN ?_ _) | (refine Below.setCell ?_ (by simp <;> omega) _) | (refine Below.alloc ?_ (by simp <;> omega) _)) : Below w1.heap.size w1 _).mono HB1.out.size)) (Nat.le_refl _)).mono (Nat.le_refl _) HB1.out.size) ((HS_4_vR.out.later (HB1.out.trans ((by repeat (first | (with_reducible exact Below.refl _ _) | (with_reducible apply Below.drew) | (with_reducible refine below_drewN ?_ _) | (refine Below.setCell ?_ (by simp <;> omega) _) | (refine Below.alloc ?_ (by simp <;> omega) _)) : Below w1.heap.size w1 _).mono HB1.out.size)) (Nat.le_refl _)).mono (Nat.le_refl _) HB1.out.size) ((HS_5_vR.out.later (HB1.out.trans ((by repeat (first | (with_reducible exact Below.refl _ _) | (with_reducible apply Below.drew) | (with_reducible refine below_drewN ?_ _) | (refine Below.setCell ?_ (by simp <;> omega) _) | (refine Below.alloc ?_ (by simp <;> omega) _)) : Below w1.heap.size w1 _).mono HB1.out.size)) (Nat.le_refl _)).mono (Nat.le_refl _) HB1.out.size)).mono ?_
        rintro e w2 ⟨rfl, hb2⟩
        as_aux_lemma =>
        have hst2 : Below w1.heap.size w1 w2 := Below.trans (by repeat (first | (with_reducible exact Below.refl _ _) | (with_reducible apply Below.drew) | (with_reducible refine below_drewN ?_ _) | (refine Below.setCell ?_ (by simp <;> omega) _) | (refine Below.alloc ?_ (by simp <;> omega) _)) : Below w1.heap.size w1 _) (hb2.mono (Below.size (by repeat (first | (with_reducible exact Below.refl _ _) | (with_reducible apply Below.drew) | (with_reducible refine below_drewN ?_ _) | (refine Below.setCell ?_ (by simp <;> omega) _) | (refine Below.alloc ?_ (by simp <;> omega) _)) : Below w1.heap.size w1 _)))
        have hr2 : w1.heap.size ≤ w2.heap.size := Nat.le_trans (by first | exact Nat.le_refl _ | (simp; done) | (simp; omega) | (simp [World.setCell]; done) | (simp [World.setCell]; omega)) hb2.size
        have sz2_paG := Nat.lt_of_lt_of_le sz1_paG hst2.size
        have bx2_paG_0 := (hst2.cell (p := ⟨w.heap.size, 0, none⟩) sz1_paG).trans bx1_paG_0
        have bx2_paG_1 := (hst2.cell (p := ⟨w.heap.size, 1, none⟩) sz1_paG).trans bx1_paG_1
        have sz2_paR := Nat.lt_of_lt_of_le sz1_paR hst2.size
        have bx2_paR_0 := (hst2.cell (p := ⟨w.heap.size + 1, 0, none⟩) sz1_paR).trans bx1_paR_0
        have bx2_paR_1 := (hst2.cell (p := ⟨w.heap.size + 1, 1, none⟩) sz1_paR).trans bx1_paR_1
        have bx2_paR_2 := (hst2.cell (p := ⟨w.heap.size + 1, 2, none⟩) sz1_paR).trans bx1_paR_2
        have bx2_paR_3 := (hst2.cell (p := ⟨w.heap.size + 1, 3, none⟩) sz1_paR).trans bx1_paR_3
        have bx2_paR_4 := (hst2.cell (p := ⟨w.heap.size + 1, 4, none⟩) sz1_paR).trans bx1_paR_4
        have bx2_paR_5 := (hst2.cell (p := ⟨w.heap.size + 1, 5, none⟩) sz1_paR).trans bx1_paR_5
        have sz2_paC := Nat.lt_of_lt_of_le sz1_paC hst2.size
        have bx2_paC_0 := (hst2.cell (p := ⟨w.heap.size + 2, 0, none⟩) sz1_paC).trans bx1_paC_0
        have bx2_paC_1 := (hst2.cell (p := ⟨w.heap.size + 2, 1, none⟩) sz1_paC).trans bx1_paC_1
        have HB2 := Lib.hid (HB1.out.trans (hst2.mono HB1.out.size))
        clear bx1_paG_0 bx1_paG_1 sz1_paG bx1_paR_0 bx1_paR_1 bx1_paR_2 bx1_paR_3 bx1_paR_4 bx1_paR_5 sz1_paR bx1_paC_0 bx1_paC_1 sz1_paC hb2 hst2 HB1
        go_wp2_with fail
        refine (HZ_vC.out w2.heap.size _ (Below.size (by repeat (first | (with_reducible exact Below.refl _ _) | (with_reducible apply Below.drew) | (with_reducible refine below_drewN ?_ _) | (refine Below.setCell ?_ (by simp <;> omega) _) | (refine Below.alloc ?_ (by simp <;> omega) _)) : Below w2.heap.size w2 _)) ((HS_1_vC.out.later (HB2.out.trans ((by repeat (first | (with_reducible exact Below.refl _ _) | (with_reducible apply Below.drew) | (with_reducible refine below_drewN ?_ _) | (refine Below.setCell ?_ (by simp <;> omega) _) | (refine Below.alloc ?_ (by simp <;> omega) _)) : Below w2.heap.size w2 _).mono HB2.out.size)) (Nat.le_refl _)).mono (Nat.le_refl _) HB2.out.size)).mono ?_
        rintro e w3 ⟨rfl, hb3⟩
        as_aux_lemma =>
        have hst3 : Below w2.heap.size w2 w3 := Below.trans (by repeat (first | (with_reducible exact Below.refl _ _) | (with_reducible apply Below.drew) | (with_reducible refine below_drewN ?_ _) | (refine Below.setCell ?_ (by simp <;> omega) _) | (refine Below.alloc ?_ (by simp <;> omega) _)) : Below w2.heap.size w2 _) (hb3.mono (Below.size (by repeat (first | (with_reducible exact Below.refl _ _) | (with_reducible apply Below.drew) | (with_reducible refine below_drewN ?_ _) | (refine Below.setCell ?_ (by simp <;> omega) _) | (refine Below.alloc ?_ (by simp <;> omega) _)) : Below w2.heap.size w2 _)))
        have hr3 : w2.heap.size ≤ w3.heap.size := Nat.le_trans (by first | exact Nat.le_refl _ | (simp; done) | (simp; omega) | (simp [World.setCell]; done) | (simp [World.setCell]; omega)) hb3.size
        have sz3_paG := Nat.lt_of_lt_of_le sz2_paG hst3.size
        have bx3_paG_0 := (hst3.cell (p := ⟨w.heap.size, 0, none⟩) sz2_paG).trans bx2_paG_0
        have bx3_paG_1 := (hst3.cell (p := ⟨w.heap.size, 1, none⟩) sz2_paG).trans bx2_paG_1
        have sz3_paR := Nat.lt_of_lt_of_le sz2_paR hst3.size
        have bx3_paR_0 := (hst3.cell (p := ⟨w.heap.size + 1, 0, none⟩) sz2_paR).trans bx2_paR_0
        have bx3_paR_1 := (hst3.cell (p := ⟨w.heap.size + 1, 1, none⟩) sz2_paR).trans bx2_paR_1
        have bx3_paR_2 := (hst3.cell (p := ⟨w.heap.size + 1, 2, none⟩) sz2_paR).trans bx2_paR_2
        have bx3_paR_3 := (hst3.cell (p := ⟨w.heap.size + 1, 3, none⟩) sz2_paR).trans bx2_paR_3
        have bx3_paR_4 := (hst3.cell (p := ⟨w.heap.size + 1, 4, none⟩) sz2_paR).trans bx2_paR_4
        have bx3_paR_5 := (hst3.cell (p := ⟨w.heap.size + 1, 5, none⟩) sz2_paR).trans bx2_paR_5
        have sz3_paC := Nat.lt_of_lt_of_le sz2_paC hst3.size
        have bx3_paC_0 := (hst3.cell (p := ⟨w.heap.size + 2, 0, none⟩) sz2_paC).trans bx2_paC_0
        have bx3_paC_1 := (hst3.cell (p := ⟨w.heap.size + 2, 1, none⟩) sz2_paC).trans bx2_paC_1
        have HB3 := Lib.hid (HB2.out.trans (hst3.mono HB2.out.size))
        clear bx2_paG_0 bx2_paG_1 sz2_paG bx2_paR_0 bx2_paR_1 bx2_paR_2 bx2_paR_3 bx2_paR_4 bx2_paR_5 sz2_paR bx2_paC_0 bx2_paC_1 sz2_paC hb3 hst3 HB2
        go_upto_region 11 with fail
        go_cut [8] from 32 to 38 (fun sW wx => ∃ (bW lW hW : Nat) (aW : Option Addr) (cW : Nat), sW = .pointer (some ⟨bW, 0, none⟩) ∧ wx.cell? ⟨bW, 0, none⟩ = some (.int .i64 (summ vG vR vC).fN) ∧ wx.cell? ⟨bW, 1, none⟩ = some (.slice aW (summ vG vR vC).fRows.length cW) ∧ Own wx (fun y => lW ≤ y ∧ y < hW) (.sl 1 (summ vG vR vC).fRows.length (fun k => ictI ((summ vG vR vC).fRows.getD k default))) (.slice aW (summ vG vR vC).fRows.length cW) ∧ bW < wx.heap.size ∧ w3.heap.size ≤ bW ∧ w3.heap.size ≤ lW ∧ hW ≤ wx.heap.size ∧ (bW < lW ∨ hW ≤ bW) ∧ Below w3.heap.size w3 wx)
        case first =>
          refine wp_region_free [([], none), ([0], none), ([], none), ([2], none), ([], none), ([4], none), ([1, 3, 5], none), ([], none), ([7, 6], some 7)] [0, 1, 2, 3, 4, 5, 6, 8] (fun jq9 V L H wx => match jq9 with | 0 => V 0 = .agg #[.slice a0_vG vG.fSymbols.length c0_vG, .slice a1_vG vG.fRules.length c1_vG] | 1 => ∃ a0_vG_f1 c0_vG_f1 a1_vG_f1 c1_vG_f1, V 1 = .agg #[.slice a0_vG_f1 vG.fSymbols.length c0_vG_f1, .slice a1_vG_f1 vG.fRules.length c1_vG_f1] ∧ OwnR wx (fun y => L ≤ y ∧ y < H) 2 vG.ct (fun j => [.slice a0_vG_f1 vG.fSymbols.length c0_vG_f1, .slice a1_vG_f1 vG.fRules.length c1_vG_f1].getD j .nilFunc) | 2 => V 2 = .agg #[.string vR.fName, .string vR.fLeft, .slice a2_vR vR.fRight.length c2_vR, .bool vR.fLiteral, .slice a4_vR vR.fEquations.length c4_vR, .slice a5_vR vR.fContributions.length c5_vR] | 3 => ∃ a2_vR_f3 c2_vR_f3 a4_vR_f3 c4_vR_f3 a5_vR_f3 c5_vR_f3, V 3 = .agg #[.string vR.fName, .string vR.fLeft, .slice a2_vR_f3 vR.fRight.length c2_vR_f3, .bool vR.fLiteral, .slice a4_vR_f3 vR.fEquations.length c4_vR_f3, .slice a5_vR_f3 vR.fContributions.length c5_vR_f3] ∧ OwnR wx (fun y => L ≤ y ∧ y < H) 6 vR.ct (fun j => [.string vR.fName, .string vR.fLeft, .slice a2_vR_f3 vR.fRight.length c2_vR_f3, .bool vR.fLiteral, .slice a4_vR_f3 vR.fEquations.length c4_vR_f3, .slice a5_vR_f3 vR.fContributions.length c5_vR_f3].getD j .nilFunc) | 4 => V 4 = .agg #[.int .i64 vC.fN, .slice a1_vC vC.fRows.length c1_vC] | 5 => ∃ a1_vC_f5 c1_vC_f5, V 5 = .agg #[.int .i64 vC.fN, .slice a1_vC_f5 vC.fRows.length c1_vC_f5] ∧ OwnR wx (fun y => L ≤ y ∧ y < H) 2 vC.ct (fun j => [.int .i64 vC.fN, .slice a1_vC_f5 vC.fRows.length c1_vC_f5].getD j .nilFunc) | 6 => ∃ a1_R_f6 c1_R_f6, V 6 = .agg #[.int .i64 (summ vG vR vC).fN, .slice a1_R_f6 (summ vG vR vC).fRows.length c1_R_f6] ∧ Own wx (fun y => L ≤ y ∧ y < H) (.sl 1 (summ vG vR vC).fRows.length (fun k => ictI ((summ vG vR vC).fRows.getD k default))) (.slice a1_R_f6 (summ vG vR vC).fRows.length c1_R_f6) | 7 => V 7 = .pointer (some ⟨L, 0, none⟩) ∧ L < H ∧ wx.cell? ⟨L, 0, none⟩ = some (.int .i64 0) ∧ wx.frozen? ⟨L, 0, none⟩ = false ∧ wx.cell? ⟨L, 1, none⟩ = some (.slice none 0 0) ∧ wx.frozen? ⟨L, 1, none⟩ = false | 8 => ∀ x0 x1, V 6 = .agg #[x0, x1] → L < H ∧ wx.cell? ⟨L, 0, none⟩ = some x0 ∧ wx.cell? ⟨L, 1, none⟩ = some x1 | _ => True) (by kernel_rfl) (by kernel_rfl) ?loc ?lasts ?walk
          case loc =>
            intro k V V' L H wx h0 h1 hG
            match k with
            | 0 =>
              try dsimp only at hG ⊢
              rw [← h0]
              exact hG
            | 1 =>
              have e0 := h1 0 (by decide)
              try dsimp only at hG ⊢
              rw [← h0]
              exact hG
            | 2 =>
              try dsimp only at hG ⊢
              rw [← h0]
              exact hG
            | 3 =>
              have e2 := h1 2 (by decide)
              try dsimp only at hG ⊢
              rw [← h0]
              exact hG
            | 4 =>
              try dsimp only at hG ⊢
              rw [← h0]
              exact hG
            | 5 =>
              have e4 := h1 4 (by decide)
              try dsimp only at hG ⊢
              rw [← h0]
              exact hG
            | 6 =>
              have e1 := h1 1 (by decide)
              have e3 := h1 3 (by decide)
              have e5 := h1 5 (by decide)
              try dsimp only at hG ⊢
              rw [← h0]
              exact hG
            | 7 =>
              try dsimp only at hG ⊢
              rw [← h0]
              exact hG
            | 8 =>
              have e7 := h1 7 (by decide)
              have e6 := h1 6 (by decide)
              try dsimp only at hG ⊢
              rw [← e6]
              exact hG
            | n + 9 => trivial
          case lasts =>
            intro i hi V L H wx wy hB hH hk
            match i, hi with
            | 0, _ => exact fun h => h
            | 1, _ => exact fun ⟨a0_vG_f1, c0_vG_f1, a1_vG_f1, c1_vG_f1, hv, ho⟩ => ⟨a0_vG_f1, c0_vG_f1, a1_vG_f1, c1_vG_f1, hv, ho.kept (hk.sub fun x hx => .inr hx)⟩
            | 2, _ => exact fun h => h
            | 3, _ => exact fun ⟨a2_vR_f3, c2_vR_f3, a4_vR_f3, c4_vR_f3, a5_vR_f3, c5_vR_f3, hv, ho⟩ => ⟨a2_vR_f3, c2_vR_f3, a4_vR_f3, c4_vR_f3, a5_vR_f3, c5_vR_f3, hv, ho.kept (hk.sub fun x hx => .inr hx)⟩
            | 4, _ => exact fun h => h
            | 5, _ => exact fun ⟨a1_vC_f5, c1_vC_f5, hv, ho⟩ => ⟨a1_vC_f5, c1_vC_f5, hv, ho.kept (hk.sub fun x hx => .inr hx)⟩
            | 6, _ => exact fun ⟨a1_R_f6, c1_R_f6, hv, ho⟩ => ⟨a1_R_f6, c1_R_f6, hv, ho.kept (hk.sub fun x hx => .inr hx)⟩
            | 7, _ => exact fun ⟨hv, hl, hc0, hf0, hc1, hf1⟩ => ⟨hv, hl, (hk.cell (p := ⟨L, 0, none⟩) (.inr ⟨Nat.le_refl _, hl⟩) (Nat.lt_of_lt_of_le hl hH)).trans hc0, (hk.frozen (p := ⟨L, 0, none⟩) (.inr ⟨Nat.le_refl _, hl⟩) (Nat.lt_of_lt_of_le hl hH)).trans hf0, (hk.cell (p := ⟨L, 1, none⟩) (.inr ⟨Nat.le_refl _, hl⟩) (Nat.lt_of_lt_of_le hl hH)).trans hc1, (hk.frozen (p := ⟨L, 1, none⟩) (.inr ⟨Nat.le_refl _, hl⟩) (Nat.lt_of_lt_of_le hl hH)).trans hf1⟩
            | 8, _ => exact fun h x0 x1 hv => ⟨(h x0 x1 hv).1, (hk.cell (p := ⟨L, 0, none⟩) (.inr ⟨Nat.le_refl _, (h x0 x1 hv).1⟩) (Nat.lt_of_lt_of_le (h x0 x1 hv).1 hH)).trans (h x0 x1 hv).2.1, (hk.cell (p := ⟨L, 1, none⟩) (.inr ⟨Nat.le_refl _, (h x0 x1 hv).1⟩) (Nat.lt_of_lt_of_le (h x0 x1 hv).1 hH)).trans (h x0 x1 hv).2.2⟩
            | n + 9, hn => exact absurd hn (by simp)
          case walk =>
            simp only [free, Nat.reduceAdd, Act.put, List.setIfInBounds_toArray, List.set_cons_succ, List.set_cons_zero]
            refine ⟨?_, ?_, ?_, ?_, ?_, ?_, ?_, ?_, ?_, ?_⟩
            · intro V L H w4 hb4 hd
              clear hd
              have sz4_paG := Nat.lt_of_lt_of_le sz3_paG hb4.size
              have bx4_paG_0 := (hb4.cell (p := ⟨w.heap.size, 0, none⟩) sz3_paG).trans bx3_paG_0
              have bx4_paG_1 := (hb4.cell (p := ⟨w.heap.size, 1, none⟩) sz3_paG).trans bx3_paG_1
              have sz4_paR := Nat.lt_of_lt_of_le sz3_paR hb4.size
              have bx4_paR_0 := (hb4.cell (p := ⟨w.heap.size + 1, 0, none⟩) sz3_paR).trans bx3_paR_0
              have bx4_paR_1 := (hb4.cell (p := ⟨w.heap.size + 1, 1, none⟩) sz3_paR).trans bx3_paR_1
              have bx4_paR_2 := (hb4.cell (p := ⟨w.heap.size + 1, 2, none⟩) sz3_paR).trans bx3_paR_2
              have bx4_paR_3 := (hb4.cell (p := ⟨w.heap.size + 1, 3, none⟩) sz3_paR).trans bx3_paR_3
              have bx4_paR_4 := (hb4.cell (p := ⟨w.heap.size + 1, 4, none⟩) sz3_paR).trans bx3_paR_4
              have bx4_paR_5 := (hb4.cell (p := ⟨w.heap.size + 1, 5, none⟩) sz3_paR).trans bx3_paR_5
              have sz4_paC := Nat.lt_of_lt_of_le sz3_paC hb4.size
              have bx4_paC_0 := (hb4.cell (p := ⟨w.heap.size + 2, 0, none⟩) sz3_paC).trans bx3_paC_0
              have bx4_paC_1 := (hb4.cell (p := ⟨w.heap.size + 2, 1, none⟩) sz3_paC).trans bx3_paC_1
              have HB4 := Lib.hid (HB3.out.trans (hb4.mono HB3.out.size))
              clear sz3_paG bx3_paG_0 bx3_paG_1 sz3_paR bx3_paR_0 bx3_paR_1 bx3_paR_2 bx3_paR_3 bx3_paR_4 bx3_paR_5 sz3_paC bx3_paC_0 bx3_paC_1
              go_wp2_with fail
              exact freePost _ rfl ⟨Below.refl _ _, upd_self⟩
            · intro V L H w4 hb4 hd
              obtain ⟨⟨hL0, hM0, hH0, hv0⟩, -⟩ := hd
              rw [hv0]
              have HV0 := Lib.hid hv0
              clear hv0
              have sz4_paG := Nat.lt_of_lt_of_le sz3_paG hb4.size
              have bx4_paG_0 := (hb4.cell (p := ⟨w.heap.size, 0, none⟩) sz3_paG).trans bx3_paG_0
              have bx4_paG_1 := (hb4.cell (p := ⟨w.heap.size, 1, none⟩) sz3_paG).trans bx3_paG_1
              have sz4_paR := Nat.lt_of_lt_of_le sz3_paR hb4.size
              have bx4_paR_0 := (hb4.cell (p := ⟨w.heap.size + 1, 0, none⟩) sz3_paR).trans bx3_paR_0
              have bx4_paR_1 := (hb4.cell (p := ⟨w.heap.size + 1, 1, none⟩) sz3_paR).trans bx3_paR_1
              have bx4_paR_2 := (hb4.cell (p := ⟨w.heap.size + 1, 2, none⟩) sz3_paR).trans bx3_paR_2
              have bx4_paR_3 := (hb4.cell (p := ⟨w.heap.size + 1, 3, none⟩) sz3_paR).trans bx3_paR_3
              have bx4_paR_4 := (hb4.cell (p := ⟨w.heap.size + 1, 4, none⟩) sz3_paR).trans bx3_paR_4
              have bx4_paR_5 := (hb4.cell (p := ⟨w.heap.size + 1, 5, none⟩) sz3_paR).trans bx3_paR_5
              have sz4_paC := Nat.lt_of_lt_of_le sz3_paC hb4.size
              have bx4_paC_0 := (hb4.cell (p := ⟨w.heap.size + 2, 0, none⟩) sz3_paC).trans bx3_paC_0
              have bx4_paC_1 := (hb4.cell (p := ⟨w.heap.size + 2, 1, none⟩) sz3_paC).trans bx3_paC_1
              have HB4 := Lib.hid (HB3.out.trans (hb4.mono HB3.out.size))
              clear sz3_paG bx3_paG_0 bx3_paG_1 sz3_paR bx3_paR_0 bx3_paR_1 bx3_paR_2 bx3_paR_3 bx3_paR_4 bx3_paR_5 sz3_paC bx3_paC_0 bx3_paC_1
              go_wp2_with fail
              refine (laws_toGrammar (c0 := c0_vG) (c1 := c1_vG) vG hq_vG _ (Below.size (by repeat (first | (with_reducible exact Below.refl _ _) | (with_reducible apply Below.drew) | (with_reducible refine below_drewN ?_ _) | (refine Below.setCell ?_ (by simp <;> omega) _) | (refine Below.alloc ?_ (by simp <;> omega) _)) : Below w4.heap.size w4 _)) ((HS_0_vG.out.later (HB4.out.trans ((by repeat (first | (with_reducible exact Below.refl _ _) | (with_reducible apply Below.drew) | (with_reducible refine below_drewN ?_ _) | (refine Below.setCell ?_ (by simp <;> omega) _) | (refine Below.alloc ?_ (by simp <;> omega) _)) : Below w4.heap.size w4 _).mono HB4.out.size)) (Nat.le_refl _)).mono (Nat.le_refl _) HB4.out.size) ((HS_1_vG.out.later (HB4.out.trans ((by repeat (first | (with_reducible exact Below.refl _ _) | (with_reducible apply Below.drew) | (with_reducible refine below_drewN ?_ _) | (refine Below.setCell ?_ (by simp <;> omega) _) | (refine Below.alloc ?_ (by simp <;> omega) _)) : Below w4.heap.size w4 _).mono HB4.out.size)) (Nat.le_refl _)).mono (Nat.le_refl _) HB4.out.size)).mono ?_
              rintro e w5 ⟨a0_vG_f1, c0_vG_f1, a1_vG_f1, c1_vG_f1, rfl, ho, hb5⟩
              as_aux_lemma =>
              go_wp2_with fail
              exact freePost _ rfl ⟨hb5, Exists.intro a0_vG_f1 (Exists.intro c0_vG_f1 (Exists.intro a1_vG_f1 (Exists.intro c1_vG_f1 (And.intro upd_self ho))))⟩
            · intro V L H w4 hb4 hd
              clear hd
              have sz4_paG := Nat.lt_of_lt_of_le sz3_paG hb4.size
              have bx4_paG_0 := (hb4.cell (p := ⟨w.heap.size, 0, none⟩) sz3_paG).trans bx3_paG_0
              have bx4_paG_1 := (hb4.cell (p := ⟨w.heap.size, 1, none⟩) sz3_paG).trans bx3_paG_1
              have sz4_paR := Nat.lt_of_lt_of_le sz3_paR hb4.size
              have bx4_paR_0 := (hb4.cell (p := ⟨w.heap.size + 1, 0, none⟩) sz3_paR).trans bx3_paR_0
              have bx4_paR_1 := (hb4.cell (p := ⟨w.heap.size + 1, 1, none⟩) sz3_paR).trans bx3_paR_1
              have bx4_paR_2 := (hb4.cell (p := ⟨w.heap.size + 1, 2, none⟩) sz3_paR).trans bx3_paR_2
              have bx4_paR_3 := (hb4.cell (p := ⟨w.heap.size + 1, 3, none⟩) sz3_paR).trans bx3_paR_3
              have bx4_paR_4 := (hb4.cell (p := ⟨w.heap.size + 1, 4, none⟩) sz3_paR).trans bx3_paR_4
              have bx4_paR_5 := (hb4.cell (p := ⟨w.heap.size + 1, 5, none⟩) sz3_paR).trans bx3_paR_5
              have sz4_paC := Nat.lt_of_lt_of_le sz3_paC hb4.size
              have bx4_paC_0 := (hb4.cell (p := ⟨w.heap.size + 2, 0, none⟩) sz3_paC).trans bx3_paC_0
              have bx4_paC_1 := (hb4.cell (p := ⟨w.heap.size + 2, 1, none⟩) sz3_paC).trans bx3_paC_1
              have HB4 := Lib.hid (HB3.out.trans (hb4.mono HB3.out.size))
              clear sz3_paG bx3_paG_0 bx3_paG_1 sz3_paR bx3_paR_0 bx3_paR_1 bx3_paR_2 bx3_paR_3 bx3_paR_4 bx3_paR_5 sz3_paC bx3_paC_0 bx3_paC_1
              go_wp2_with fail
              exact freePost _ rfl ⟨Below.refl _ _, upd_self⟩
            · intro V L H w4 hb4 hd
              obtain ⟨⟨hL2, hM2, hH2, hv2⟩, -⟩ := hd
              rw [hv2]
              have HV2 := Lib.hid hv2
              clear hv2
              have sz4_paG := Nat.lt_of_lt_of_le sz3_paG hb4.size
              have bx4_paG_0 := (hb4.cell (p := ⟨w.heap.size, 0, none⟩) sz3_paG).trans bx3_paG_0
              have bx4_paG_1 := (hb4.cell (p := ⟨w.heap.size, 1, none⟩) sz3_paG).trans bx3_paG_1
              have sz4_paR := Nat.lt_of_lt_of_le sz3_paR hb4.size
              have bx4_paR_0 := (hb4.cell (p := ⟨w.heap.size + 1, 0, none⟩) sz3_paR).trans bx3_paR_0
              have bx4_paR_1 := (hb4.cell (p := ⟨w.heap.size + 1, 1, none⟩) sz3_paR).trans bx3_paR_1
              have bx4_paR_2 := (hb4.cell (p := ⟨w.heap.size + 1, 2, none⟩) sz3_paR).trans bx3_paR_2
              have bx4_paR_3 := (hb4.cell (p := ⟨w.heap.size + 1, 3, none⟩) sz3_paR).trans bx3_paR_3
              have bx4_paR_4 := (hb4.cell (p := ⟨w.heap.size + 1, 4, none⟩) sz3_paR).trans bx3_paR_4
              have bx4_paR_5 := (hb4.cell (p := ⟨w.heap.size + 1, 5, none⟩) sz3_paR).trans bx3_paR_5
              have sz4_paC := Nat.lt_of_lt_of_le sz3_paC hb4.size
              have bx4_paC_0 := (hb4.cell (p := ⟨w.heap.size + 2, 0, none⟩) sz3_paC).trans bx3_paC_0
              have bx4_paC_1 := (hb4.cell (p := ⟨w.heap.size + 2, 1, none⟩) sz3_paC).trans bx3_paC_1
              have HB4 := Lib.hid (HB3.out.trans (hb4.mono HB3.out.size))
              clear sz3_paG bx3_paG_0 bx3_paG_1 sz3_paR bx3_paR_0 bx3_paR_1 bx3_paR_2 bx3_paR_3 bx3_paR_4 bx3_paR_5 sz3_paC bx3_paC_0 bx3_paC_1
              go_wp2_with fail
              refine (laws_toRule (c2 := c2_vR) (c4 := c4_vR) (c5 := c5_vR) vR hq_vR _ (Below.size (by repeat (first | (with_reducible exact Below.refl _ _) | (with_reducible apply Below.drew) | (with_reducible refine below_drewN ?_ _) | (refine Below.setCell ?_ (by simp <;> omega) _) | (refine Below.alloc ?_ (by simp <;> omega) _)) : Below w4.heap.size w4 _)) ((HS_2_vR.out.later (HB4.out.trans ((by repeat (first | (with_reducible exact Below.refl _ _) | (with_reducible apply Below.drew) | (with_reducible refine below_drewN ?_ _) | (refine Below.setCell ?_ (by simp <;> omega) _) | (refine Below.alloc ?_ (by simp <;> omega) _)) : Below w4.heap.size w4 _).mono HB4.out.size)) (Nat.le_refl _)).mono (Nat.le_refl _) HB4.out.size) ((HS_4_vR.out.later (HB4.out.trans ((by repeat (first | (with_reducible exact Below.refl _ _) | (with_reducible apply Below.drew) | (with_reducible refine below_drewN ?_ _) | (refine Below.setCell ?_ (by simp <;> omega) _) | (refine Below.alloc ?_ (by simp <;> omega) _)) : Below w4.heap.size w4 _).mono HB4.out.size)) (Nat.le_refl _)).mono (Nat.le_refl _) HB4.out.size) ((HS_5_vR.out.later (HB4.out.trans ((by repeat (first | (with_reducible exact Below.refl _ _) | (with_reducible apply Below.drew) | (with_reducible refine below_drewN ?_ _) | (refine Below.setCell ?_ (by simp <;> omega) _) | (refine Below.alloc ?_ (by simp <;> omega) _)) : Below w4.heap.size w4 _).mono HB4.out.size)) (Nat.le_refl _)).mono (Nat.le_refl _) HB4.out.size)).mono ?_
              rintro e w5 ⟨a2_vR_f3, c2_vR_f3, a4_vR_f3, c4_vR_f3, a5_vR_f3, c5_vR_f3, rfl, ho, hb5⟩
              as_aux_lemma =>
              go_wp2_with fail
              exact freePost _ rfl ⟨hb5, Exists.intro a2_vR_f3 (Exists.intro c2_vR_f3 (Exists.intro a4_vR_f3 (Exists.intro c4_vR_f3 (Exists.intro a5_vR_f3 (Exists.intro c5_vR_f3 (And.intro upd_self ho))))))⟩
            · intro V L H w4 hb4 hd
              clear hd
              have sz4_paG := Nat.lt_of_lt_of_le sz3_paG hb4.size
              have bx4_paG_0 := (hb4.cell (p := ⟨w.heap.size, 0, none⟩) sz3_paG).trans bx3_paG_0
              have bx4_paG_1 := (hb4.cell (p := ⟨w.heap.size, 1, none⟩) sz3_paG).trans bx3_paG_1
              have sz4_paR := Nat.lt_of_lt_of_le sz3_paR hb4.size
              have bx4_paR_0 := (hb4.cell (p := ⟨w.heap.size + 1, 0, none⟩) sz3_paR).trans bx3_paR_0
              have bx4_paR_1 := (hb4.cell (p := ⟨w.heap.size + 1, 1, none⟩) sz3_paR).trans bx3_paR_1
              have bx4_paR_2 := (hb4.cell (p := ⟨w.heap.size + 1, 2, none⟩) sz3_paR).trans bx3_paR_2
              have bx4_paR_3 := (hb4.cell (p := ⟨w.heap.size + 1, 3, none⟩) sz3_paR).trans bx3_paR_3
              have bx4_paR_4 := (hb4.cell (p := ⟨w.heap.size + 1, 4, none⟩) sz3_paR).trans bx3_paR_4
              have bx4_paR_5 := (hb4.cell (p := ⟨w.heap.size + 1, 5, none⟩) sz3_paR).trans bx3_paR_5
              have sz4_paC := Nat.lt_of_lt_of_le sz3_paC hb4.size
              have bx4_paC_0 := (hb4.cell (p := ⟨w.heap.size + 2, 0, none⟩) sz3_paC).trans bx3_paC_0
              have bx4_paC_1 := (hb4.cell (p := ⟨w.heap.size + 2, 1, none⟩) sz3_paC).trans bx3_paC_1
              have HB4 := Lib.hid (HB3.out.trans (hb4.mono HB3.out.size))
              clear sz3_paG bx3_paG_0 bx3_paG_1 sz3_paR bx3_paR_0 bx3_paR_1 bx3_paR_2 bx3_paR_3 bx3_paR_4 bx3_paR_5 sz3_paC bx3_paC_0 bx3_paC_1
              go_wp2_with fail
              exact freePost _ rfl ⟨Below.refl _ _, upd_self⟩
            · intro V L H w4 hb4 hd
              obtain ⟨⟨hL4, hM4, hH4, hv4⟩, -⟩ := hd
              rw [hv4]
              have HV4 := Lib.hid hv4
              clear hv4
              have sz4_paG := Nat.lt_of_lt_of_le sz3_paG hb4.size
              have bx4_paG_0 := (hb4.cell (p := ⟨w.heap.size, 0, none⟩) sz3_paG).trans bx3_paG_0
              have bx4_paG_1 := (hb4.cell (p := ⟨w.heap.size, 1, none⟩) sz3_paG).trans bx3_paG_1
              have sz4_paR := Nat.lt_of_lt_of_le sz3_paR hb4.size
              have bx4_paR_0 := (hb4.cell (p := ⟨w.heap.size + 1, 0, none⟩) sz3_paR).trans bx3_paR_0
              have bx4_paR_1 := (hb4.cell (p := ⟨w.heap.size + 1, 1, none⟩) sz3_paR).trans bx3_paR_1
              have bx4_paR_2 := (hb4.cell (p := ⟨w.heap.size + 1, 2, none⟩) sz3_paR).trans bx3_paR_2
              have bx4_paR_3 := (hb4.cell (p := ⟨w.heap.size + 1, 3, none⟩) sz3_paR).trans bx3_paR_3
              have bx4_paR_4 := (hb4.cell (p := ⟨w.heap.size + 1, 4, none⟩) sz3_paR).trans bx3_paR_4
              have bx4_paR_5 := (hb4.cell (p := ⟨w.heap.size + 1, 5, none⟩) sz3_paR).trans bx3_paR_5
              have sz4_paC := Nat.lt_of_lt_of_le sz3_paC hb4.size
              have bx4_paC_0 := (hb4.cell (p := ⟨w.heap.size + 2, 0, none⟩) sz3_paC).trans bx3_paC_0
              have bx4_paC_1 := (hb4.cell (p := ⟨w.heap.size + 2, 1, none⟩) sz3_paC).trans bx3_paC_1
              have HB4 := Lib.hid (HB3.out.trans (hb4.mono HB3.out.size))
              clear sz3_paG bx3_paG_0 bx3_paG_1 sz3_paR bx3_paR_0 bx3_paR_1 bx3_paR_2 bx3_paR_3 bx3_paR_4 bx3_paR_5 sz3_paC bx3_paC_0 bx3_paC_1
              go_wp2_with fail
              refine (laws_toRelation (c1 := c1_vC) vC hq_vC _ (Below.size (by repeat (first | (with_reducible exact Below.refl _ _) | (with_reducible apply Below.drew) | (with_reducible refine below_drewN ?_ _) | (refine Below.setCell ?_ (by simp <;> omega) _) | (refine Below.alloc ?_ (by simp <;> omega) _)) : Below w4.heap.size w4 _)) ((HS_1_vC.out.later (HB4.out.trans ((by repeat (first | (with_reducible exact Below.refl _ _) | (with_reducible apply Below.drew) | (with_reducible refine below_drewN ?_ _) | (refine Below.setCell ?_ (by simp <;> omega) _) | (refine Below.alloc ?_ (by simp <;> omega) _)) : Below w4.heap.size w4 _).mono HB4.out.size)) (Nat.le_refl _)).mono (Nat.le_refl _) HB4.out.size)).mono ?_
              rintro e w5 ⟨a1_vC_f5, c1_vC_f5, rfl, ho, hb5⟩
              as_aux_lemma =>
              go_wp2_with fail
              exact freePost _ rfl ⟨hb5, Exists.intro a1_vC_f5 (Exists.intro c1_vC_f5 (And.intro upd_self ho))⟩
            · intro V L H w4 hb4 hd
              obtain ⟨⟨hL1, hM1, hH1, a0_vG_f1, c0_vG_f1, a1_vG_f1, c1_vG_f1, hv1, ho1_⟩, ⟨hL3, hM3, hH3, a2_vR_f3, c2_vR_f3, a4_vR_f3, c4_vR_f3, a5_vR_f3, c5_vR_f3, hv3, ho3_⟩, ⟨hL5, hM5, hH5, a1_vC_f5, c1_vC_f5, hv5, ho5_⟩, -⟩ := hd
              rw [hv1, hv3, hv5]
              have HV1 := Lib.hid hv1
              have HV3 := Lib.hid hv3
              have HV5 := Lib.hid hv5
              clear hv1 hv3 hv5
              have sz4_paG := Nat.lt_of_lt_of_le sz3_paG hb4.size
              have bx4_paG_0 := (hb4.cell (p := ⟨w.heap.size, 0, none⟩) sz3_paG).trans bx3_paG_0
              have bx4_paG_1 := (hb4.cell (p := ⟨w.heap.size, 1, none⟩) sz3_paG).trans bx3_paG_1
              have sz4_paR := Nat.lt_of_lt_of_le sz3_paR hb4.size
              have bx4_paR_0 := (hb4.cell (p := ⟨w.heap.size + 1, 0, none⟩) sz3_paR).trans bx3_paR_0
              have bx4_paR_1 := (hb4.cell (p := ⟨w.heap.size + 1, 1, none⟩) sz3_paR).trans bx3_paR_1
              have bx4_paR_2 := (hb4.cell (p := ⟨w.heap.size + 1, 2, none⟩) sz3_paR).trans bx3_paR_2
              have bx4_paR_3 := (hb4.cell (p := ⟨w.heap.size + 1, 3, none⟩) sz3_paR).trans bx3_paR_3
              have bx4_paR_4 := (hb4.cell (p := ⟨w.heap.size + 1, 4, none⟩) sz3_paR).trans bx3_paR_4
              have bx4_paR_5 := (hb4.cell (p := ⟨w.heap.size + 1, 5, none⟩) sz3_paR).trans bx3_paR_5
              have sz4_paC := Nat.lt_of_lt_of_le sz3_paC hb4.size
              have bx4_paC_0 := (hb4.cell (p := ⟨w.heap.size + 2, 0, none⟩) sz3_paC).trans bx3_paC_0
              have bx4_paC_1 := (hb4.cell (p := ⟨w.heap.size + 2, 1, none⟩) sz3_paC).trans bx3_paC_1
              have HB4 := Lib.hid (HB3.out.trans (hb4.mono HB3.out.size))
              clear sz3_paG bx3_paG_0 bx3_paG_1 sz3_paR bx3_paR_0 bx3_paR_1 bx3_paR_2 bx3_paR_3 bx3_paR_4 bx3_paR_5 sz3_paC bx3_paC_0 bx3_paC_1
              have HO_0_vG_f1 := Lib.hid (show Own w4 (fun y => L 1 ≤ y ∧ y < H 1) (.sl 2 vG.fSymbols.length (fun k => DSymbol.ct (vG.fSymbols.getD k default))) (.slice a0_vG_f1 vG.fSymbols.length c0_vG_f1) from OwnR.at ho1_ 0 (by decide))
              have HO_1_vG_f1 := Lib.hid (show Own w4 (fun y => L 1 ≤ y ∧ y < H 1) (.sl 6 vG.fRules.length (fun k => DRule.ct (vG.fRules.getD k default))) (.slice a1_vG_f1 vG.fRules.length c1_vG_f1) from OwnR.at ho1_ 1 (by decide))
              clear ho1_
              have HO_2_vR_f3 := Lib.hid (show Own w4 (fun y => L 3 ≤ y ∧ y < H 3) (.sl 1 vR.fRight.length (fun k => ictS (vR.fRight.getD k default))) (.slice a2_vR_f3 vR.fRight.length c2_vR_f3) from OwnR.at ho3_ 2 (by decide))
              have HO_4_vR_f3 := Lib.hid (show Own w4 (fun y => L 3 ≤ y ∧ y < H 3) (.sl 9 vR.fEquations.length (fun k => DEquation.ct (vR.fEquations.getD k default))) (.slice a4_vR_f3 vR.fEquations.length c4_vR_f3) from OwnR.at ho3_ 4 (by decide))
              have HO_5_vR_f3 := Lib.hid (show Own w4 (fun y => L 3 ≤ y ∧ y < H 3) (.sl 16 vR.fContributions.length (fun k => DContribution.ct (vR.fContributions.getD k default))) (.slice a5_vR_f3 vR.fContributions.length c5_vR_f3) from OwnR.at ho3_ 5 (by decide))
              clear ho3_
              have HO_1_vC_f5 := Lib.hid (show Own w4 (fun y => L 5 ≤ y ∧ y < H 5) (.sl 1 vC.fRows.length (fun k => ictI (vC.fRows.getD k default))) (.slice a1_vC_f5 vC.fRows.length c1_vC_f5) from OwnR.at ho5_ 1 (by decide))
              clear ho5_
              go_wp2_with fail
              refine (spec_SummaryOf (c0_0 := c0_vG_f1) (c0_1 := c1_vG_f1) (c1_0 := c2_vR_f3) (c1_1 := c4_vR_f3) (c1_2 := c5_vR_f3) (c2_0 := c1_vC_f5) vG OK_vG.out hq_vG vR OK_vR.out hq_vR vC OK_vC.out hq_vC _ (Below.size (by repeat (first | (with_reducible exact Below.refl _ _) | (with_reducible apply Below.drew) | (with_reducible refine below_drewN ?_ _) | (refine Below.setCell ?_ (by simp <;> omega) _) | (refine Below.alloc ?_ (by simp <;> omega) _)) : Below w4.heap.size w4 _)) ((Sl.of (HO_0_vG_f1.out.lies (lo := 0) (hi := w4.heap.size) (fun y hy => ⟨Nat.zero_le _, by have := hy.2; omega⟩))).later (by repeat (first | (with_reducible exact Below.refl _ _) | (with_reducible apply Below.drew) | (with_reducible refine below_drewN ?_ _) | (refine Below.setCell ?_ (by simp <;> omega) _) | (refine Below.alloc ?_ (by simp <;> omega) _)) : Below w4.heap.size w4 _) (Nat.le_refl _)) ((Sl.of (HO_1_vG_f1.out.lies (lo := 0) (hi := w4.heap.size) (fun y hy => ⟨Nat.zero_le _, by have := hy.2; omega⟩))).later (by repeat (first | (with_reducible exact Below.refl _ _) | (with_reducible apply Below.drew) | (with_reducible refine below_drewN ?_ _) | (refine Below.setCell ?_ (by simp <;> omega) _) | (refine Below.alloc ?_ (by simp <;> omega) _)) : Below w4.heap.size w4 _) (Nat.le_refl _)) ((Sl.of (HO_2_vR_f3.out.lies (lo := 0) (hi := w4.heap.size) (fun y hy => ⟨Nat.zero_le _, by have := hy.2; omega⟩))).later (by repeat (first | (with_reducible exact Below.refl _ _) | (with_reducible apply Below.drew) | (with_reducible refine below_drewN ?_ _) | (refine Below.setCell ?_ (by simp <;> omega) _) | (refine Below.alloc ?_ (by simp <;> omega) _)) : Below w4.heap.size w4 _) (Nat.le_refl _)) ((Sl.of (HO_4_vR_f3.out.lies (lo := 0) (hi := w4.heap.size) (fun y hy => ⟨Nat.zero_le _, by have := hy.2; omega⟩))).later (by repeat (first | (with_reducible exact Below.refl _ _) | (with_reducible apply Below.drew) | (with_reducible refine below_drewN ?_ _) | (refine Below.setCell ?_ (by simp <;> omega) _) | (refine Below.alloc ?_ (by simp <;> omega) _)) : Below w4.heap.size w4 _) (Nat.le_refl _)) ((Sl.of (HO_5_vR_f3.out.lies (lo := 0) (hi := w4.heap.size) (fun y hy => ⟨Nat.zero_le _, by have := hy.2; omega⟩))).later (by repeat (first | (with_reducible exact Below.refl _ _) | (with_reducible apply Below.drew) | (with_reducible refine below_drewN ?_ _) | (refine Below.setCell ?_ (by simp <;> omega) _) | (refine Below.alloc ?_ (by simp <;> omega) _)) : Below w4.heap.size w4 _) (Nat.le_refl _)) ((Sl.of (HO_1_vC_f5.out.lies (lo := 0) (hi := w4.heap.size) (fun y hy => ⟨Nat.zero_le _, by have := hy.2; omega⟩))).later (by repeat (first | (with_reducible exact Below.refl _ _) | (with_reducible apply Below.drew) | (with_reducible refine below_drewN ?_ _) | (refine Below.setCell ?_ (by simp <;> omega) _) | (refine Below.alloc ?_ (by simp <;> omega) _)) : Below w4.heap.size w4 _) (Nat.le_refl _))).mono ?_
              rintro e w5 ⟨a1_R_f6, c1_R_f6, rfl, ho, hb5⟩
              as_aux_lemma =>
              go_wp2_with fail
              exact freePost _ rfl ⟨hb5, Exists.intro a1_R_f6 (Exists.intro c1_R_f6 (And.intro upd_self ho))⟩
            · intro V L H w4 hb4 hd
              clear hd
              have HB4 := Lib.hid (HB3.out.trans (hb4.mono HB3.out.size))
              clear sz3_paG bx3_paG_0 bx3_paG_1 sz3_paR bx3_paR_0 bx3_paR_1 bx3_paR_2 bx3_paR_3 bx3_paR_4 bx3_paR_5 sz3_paC bx3_paC_0 bx3_paC_1
              go_wp2_with fail
              refine freePost _ rfl ⟨Below.alloc (Below.refl _ _) (Nat.le_refl _) _, upd_self, ?_, ?_, ?_, ?_, ?_⟩
              · simp
              all_goals go_simp
            · intro V L H w4 hb4 hd
              obtain ⟨⟨hL7, hM7, hH7, hv7, hlt7, hc7_0, hf7_0, hc7_1, hf7_1⟩, ⟨hL6, hM6, hH6, a1_R_f6, c1_R_f6, hv6, ho6_⟩, -⟩ := hd
              rw [hv7, hv6]
              have HV7 := Lib.hid hv7
              have HV6 := Lib.hid hv6
              clear hv7 hv6
              have HB4 := Lib.hid (HB3.out.trans (hb4.mono HB3.out.size))
              clear sz3_paG bx3_paG_0 bx3_paG_1 sz3_paR bx3_paR_0 bx3_paR_1 bx3_paR_2 bx3_paR_3 bx3_paR_4 bx3_paR_5 sz3_paC bx3_paC_0 bx3_paC_1
              go_wp2_with fail
              refine freePost undef rfl ⟨(Touches.put (L := L 7) (H := H 7) (Touches.put (L := L 7) (H := H 7) Touches.refl (p := ⟨L 7, 0, none⟩) ⟨Nat.le_refl _, hlt7⟩ _) (p := ⟨L 7, 1, none⟩) ⟨Nat.le_refl _, hlt7⟩ _), fun x0 x1 h => ?_⟩
              cases (HV6.out.symm.trans ((upd_ne (by decide)).symm.trans h))
              refine ⟨hlt7, ?_, ?_⟩
              all_goals go_simp
            · intro V L H w4 hb4 hd hap hdead
              obtain ⟨⟨hL0, hM0, hH0, hv0⟩, ⟨hL1, hM1, hH1, a0_vG_f1, c0_vG_f1, a1_vG_f1, c1_vG_f1, hv1, ho1_⟩, ⟨hL2, hM2, hH2, hv2⟩, ⟨hL3, hM3, hH3, a2_vR_f3, c2_vR_f3, a4_vR_f3, c4_vR_f3, a5_vR_f3, c5_vR_f3, hv3, ho3_⟩, ⟨hL4, hM4, hH4, hv4⟩, ⟨hL5, hM5, hH5, a1_vC_f5, c1_vC_f5, hv5, ho5_⟩, ⟨hL6, hM6, hH6, a1_R_f6, c1_R_f6, hv6, ho6_⟩, ⟨hL8, hM8, hH8, hst8_⟩, -⟩ := hd
              obtain ⟨hLe, hHe, wo, hva, -⟩ := hdead 8 7 (by decide) rfl
              have hv6' := hv6
              obtain ⟨hlt, hc0, hc1⟩ := hst8_ _ _ hv6'
              rw [hv0, hv2, hv4, hv6', hva, hv1, hv3, hv5]
              clear hv0 hv2 hv4 hv6' hva hv1 hv3 hv5 hv6
              have hdis := hap 8 6 (by decide) (by decide) (by decide)
              clear hap hdead
              have HLe := Lib.hid hLe
              have HHe := Lib.hid hHe
              clear hLe hHe
              go_wp2_with fail
              go_meet
              have hLe := HLe.out
              have hHe := HHe.out
              refine ⟨L 7, L 6, H 6, a1_R_f6, c1_R_f6, rfl, ?_, ?_, ho6_, ?_, ?_, ?_, ?_, ?_, hb4⟩
              · rw [← hLe]; exact hc0
              · rw [← hLe]; exact hc1
              · omega
              · omega
              · omega
              · omega
              · omega
        case rest =>
          as_aux_lemma =>
          obtain ⟨bV7, lV7, hV7, a1_R_7, c1_R_7, rfl, bx7_w0_0, bx7_w0_1, ho7, sz7_w0, hB7, hL7, hH7, hD7, hb7⟩ := hcut
          obtain ⟨w7, rfl⟩ : ∃ w_ : World, w_ = wc := ⟨_, rfl⟩
          have hr7 : w3.heap.size ≤ w7.heap.size := hb7.size
          have hK7 : bV7 < w7.heap.size := sz7_w0
          have sz7_paG := Nat.lt_of_lt_of_le sz3_paG hb7.size
          have bx7_paG_0 := (hb7.cell (p := ⟨w.heap.size, 0, none⟩) sz3_paG).trans bx3_paG_0
          have bx7_paG_1 := (hb7.cell (p := ⟨w.heap.size, 1, none⟩) sz3_paG).trans bx3_paG_1
          have sz7_paR := Nat.lt_of_lt_of_le sz3_paR hb7.size
          have bx7_paR_0 := (hb7.cell (p := ⟨w.heap.size + 1, 0, none⟩) sz3_paR).trans bx3_paR_0
          have bx7_paR_1 := (hb7.cell (p := ⟨w.heap.size + 1, 1, none⟩) sz3_paR).trans bx3_paR_1
          have bx7_paR_2 := (hb7.cell (p := ⟨w.heap.size + 1, 2, none⟩) sz3_paR).trans bx3_paR_2
          have bx7_paR_3 := (hb7.cell (p := ⟨w.heap.size + 1, 3, none⟩) sz3_paR).trans bx3_paR_3
          have bx7_paR_4 := (hb7.cell (p := ⟨w.heap.size + 1, 4, none⟩) sz3_paR).trans bx3_paR_4
          have bx7_paR_5 := (hb7.cell (p := ⟨w.heap.size + 1, 5, none⟩) sz3_paR).trans bx3_paR_5
          have sz7_paC := Nat.lt_of_lt_of_le sz3_paC hb7.size
          have bx7_paC_0 := (hb7.cell (p := ⟨w.heap.size + 2, 0, none⟩) sz3_paC).trans bx3_paC_0
          have bx7_paC_1 := (hb7.cell (p := ⟨w.heap.size + 2, 1, none⟩) sz3_paC).trans bx3_paC_1
          have HO7_1_R_7 := Lib.hid ho7
          have HB7 := Lib.hid (HB3.out.trans (hb7.mono HB3.out.size))
          clear hb7 ho7 bx3_paG_0 bx3_paG_1 sz3_paG bx3_paR_0 bx3_paR_1 bx3_paR_2 bx3_paR_3 bx3_paR_4 bx3_paR_5 sz3_paR bx3_paC_0 bx3_paC_1 sz3_paC HB3
          go_wp2_with fail
          refine (laws_toGrammar (c0 := c0_vG) (c1 := c1_vG) vG hq_vG _ (Below.size (by repeat (first | (with_reducible exact Below.refl _ _) | (with_reducible apply Below.drew) | (with_reducible refine below_drewN ?_ _) | (refine Below.setCell ?_ (by simp <;> omega) _) | (refine Below.alloc ?_ (by simp <;> omega) _)) : Below w7.heap.size w7 _)) ((HS_0_vG.out.later (HB7.out.trans ((by repeat (first | (with_reducible exact Below.refl _ _) | (with_reducible apply Below.drew) | (with_reducible refine below_drewN ?_ _) | (refine Below.setCell ?_ (by simp <;> omega) _) | (refine Below.alloc ?_ (by simp <;> omega) _)) : Below w7.heap.size w7 _).mono HB7.out.size)) (Nat.le_refl _)).mono (Nat.le_refl _) HB7.out.size) ((HS_1_vG.out.later (HB7.out.trans ((by repeat (first | (with_reducible exact Below.refl _ _) | (with_reducible apply Below.drew) | (with_reducible refine below_drewN ?_ _) | (refine Below.setCell ?_ (by simp <;> omega) _) | (refine Below.alloc ?_ (by simp <;> omega) _)) : Below w7.heap.size w7 _).mono HB7.out.size)) (Nat.le_refl _)).mono (Nat.le_refl _) HB7.out.size)).mono ?_
          rintro e w8 ⟨a0_vG_8, c0_vG_8, a1_vG_8, c1_vG_8, rfl, ho8, hb8⟩
          as_aux_lemma =>
          have hst8 : Below w7.heap.size w7 w8 := Below.trans (by repeat (first | (with_reducible exact Below.refl _ _) | (with_reducible apply Below.drew) | (with_reducible refine below_drewN ?_ _) | (refine Below.setCell ?_ (by simp <;> omega) _) | (refine Below.alloc ?_ (by simp <;> omega) _)) : Below w7.heap.size w7 _) (hb8.mono (Below.size (by repeat (first | (with_reducible exact Below.refl _ _) | (with_reducible apply Below.drew) | (with_reducible refine below_drewN ?_ _) | (refine Below.setCell ?_ (by simp <;> omega) _) | (refine Below.alloc ?_ (by simp <;> omega) _)) : Below w7.heap.size w7 _)))
          have hr8 : w7.heap.size ≤ w8.heap.size := Nat.le_trans (by first | exact Nat.le_refl _ | (simp; done) | (simp; omega) | (simp [World.setCell]; done) | (simp [World.setCell]; omega)) hb8.size
          have sz8_paG := Nat.lt_of_lt_of_le sz7_paG hst8.size
          have bx8_paG_0 := (hst8.cell (p := ⟨w.heap.size, 0, none⟩) sz7_paG).trans bx7_paG_0
          have bx8_paG_1 := (hst8.cell (p := ⟨w.heap.size, 1, none⟩) sz7_paG).trans bx7_paG_1
          have sz8_paR := Nat.lt_of_lt_of_le sz7_paR hst8.size
          have bx8_paR_0 := (hst8.cell (p := ⟨w.heap.size + 1, 0, none⟩) sz7_paR).trans bx7_paR_0
          have bx8_paR_1 := (hst8.cell (p := ⟨w.heap.size + 1, 1, none⟩) sz7_paR).trans bx7_paR_1
          have bx8_paR_2 := (hst8.cell (p := ⟨w.heap.size + 1, 2, none⟩) sz7_paR).trans bx7_paR_2
          have bx8_paR_3 := (hst8.cell (p := ⟨w.heap.size + 1, 3, none⟩) sz7_paR).trans bx7_paR_3
          have bx8_paR_4 := (hst8.cell (p := ⟨w.heap.size + 1, 4, none⟩) sz7_paR).trans bx7_paR_4
          have bx8_paR_5 := (hst8.cell (p := ⟨w.heap.size + 1, 5, none⟩) sz7_paR).trans bx7_paR_5
          have sz8_paC := Nat.lt_of_lt_of_le sz7_paC hst8.size
          have bx8_paC_0 := (hst8.cell (p := ⟨w.heap.size + 2, 0, none⟩) sz7_paC).trans bx7_paC_0
          have bx8_paC_1 := (hst8.cell (p := ⟨w.heap.size + 2, 1, none⟩) sz7_paC).trans bx7_paC_1
          have sz8_w0 := Nat.lt_of_lt_of_le sz7_w0 hst8.size
          have bx8_w0_0 := (hst8.cell (p := ⟨bV7, 0, none⟩) sz7_w0).trans bx7_w0_0
          have bx8_w0_1 := (hst8.cell (p := ⟨bV7, 1, none⟩) sz7_w0).trans bx7_w0_1
          have HO8_1_R_7 := Lib.hid (HO7_1_R_7.out.kept (Kept.of_below_all hst8))
          have HR8_vG_8 := Lib.hid (OwnR.sub (F' := fun y => w7.heap.size ≤ y ∧ y < w8.heap.size) ho8 (fun y hy => ⟨Nat.le_trans (by first | exact Nat.le_refl _ | (simp; done) | (simp; omega) | (simp [World.setCell]; done) | (simp [World.setCell]; omega)) hy.1, hy.2⟩))
          have HO8_0_vG_8 := Lib.hid (show Own w8 (fun y => w7.heap.size ≤ y ∧ y < w8.heap.size) (.sl 2 vG.fSymbols.length (fun k => DSymbol.ct (vG.fSymbols.getD k default))) (.slice a0_vG_8 vG.fSymbols.length c0_vG_8) from Own.sub (F := fun y => _ ≤ y ∧ y < _) (OwnR.at ho8 0 (by decide)) (fun y hy => ⟨Nat.le_trans (by first | exact Nat.le_refl _ | (simp; done) | (simp; omega) | (simp [World.setCell]; done) | (simp [World.setCell]; omega)) hy.1, hy.2⟩))
          have HO8_1_vG_8 := Lib.hid (show Own w8 (fun y => w7.heap.size ≤ y ∧ y < w8.heap.size) (.sl 6 vG.fRules.length (fun k => DRule.ct (vG.fRules.getD k default))) (.slice a1_vG_8 vG.fRules.length c1_vG_8) from Own.sub (F := fun y => _ ≤ y ∧ y < _) (OwnR.at ho8 1 (by decide)) (fun y hy => ⟨Nat.le_trans (by first | exact Nat.le_refl _ | (simp; done) | (simp; omega) | (simp [World.setCell]; done) | (simp [World.setCell]; omega)) hy.1, hy.2⟩))
          have HB8 := Lib.hid (HB7.out.trans (hst8.mono HB7.out.size))
          clear bx7_paG_0 bx7_paG_1 sz7_paG bx7_paR_0 bx7_paR_1 bx7_paR_2 bx7_paR_3 bx7_paR_4 bx7_paR_5 sz7_paR bx7_paC_0 bx7_paC_1 sz7_paC bx7_w0_0 bx7_w0_1 sz7_w0 HO7_1_R_7 ho8 hb8 hst8 HB7
          go_wp2_with fail
          refine (laws_toRule (c2 := c2_vR) (c4 := c4_vR) (c5 := c5_vR) vR hq_vR _ (Below.size (by repeat (first | (with_reducible exact Below.refl _ _) | (with_reducible apply Below.drew) | (with_reducible refine below_drewN ?_ _) | (refine Below.setCell ?_ (by simp <;> omega) _) | (refine Below.alloc ?_ (by simp <;> omega) _)) : Below w8.heap.size w8 _)) ((HS_2_vR.out.later (HB8.out.trans ((by repeat (first | (with_reducible exact Below.refl _ _) | (with_reducible apply Below.drew) | (with_reducible refine below_drewN ?_ _) | (refine Below.setCell ?_ (by simp <;> omega) _) | (refine Below.alloc ?_ (by simp <;> omega) _)) : Below w8.heap.size w8 _).mono HB8.out.size)) (Nat.le_refl _)).mono (Nat.le_refl _) HB8.out.size) ((HS_4_vR.out.later (HB8.out.trans ((by repeat (first | (with_reducible exact Below.refl _ _) | (with_reducible apply Below.drew) | (with_reducible refine below_drewN ?_ _) | (refine Below.setCell ?_ (by simp <;> omega) _) | (refine Below.alloc ?_ (by simp <;> omega) _)) : Below w8.heap.size w8 _).mono HB8.out.size)) (Nat.le_refl _)).mono (Nat.le_refl _) HB8.out.size) ((HS_5_vR.out.later (HB8.out.trans ((by repeat (first | (with_reducible exact Below.refl _ _) | (with_reducible apply Below.drew) | (with_reducible refine below_drewN ?_ _) | (refine Below.setCell ?_ (by simp <;> omega) _) | (refine Below.alloc ?_ (by simp <;> omega) _)) : Below w8.heap.size w8 _).mono HB8.out.size)) (Nat.le_refl _)).mono (Nat.le_refl _) HB8.out.size)).mono ?_
          rintro e w9 ⟨a2_vR_9, c2_vR_9, a4_vR_9, c4_vR_9, a5_vR_9, c5_vR_9, rfl, ho9, hb9⟩
          as_aux_lemma =>
          have hst9 : Below w8.heap.size w8 w9 := Below.trans (by repeat (first | (with_reducible exact Below.refl _ _) | (with_reducible apply Below.drew) | (with_reducible refine below_drewN ?_ _) | (refine Below.setCell ?_ (by simp <;> omega) _) | (refine Below.alloc ?_ (by simp <;> omega) _)) : Below w8.heap.size w8 _) (hb9.mono (Below.size (by repeat (first | (with_reducible exact Below.refl _ _) | (with_reducible apply Below.drew) | (with_reducible refine below_drewN ?_ _) | (refine Below.setCell ?_ (by simp <;> omega) _) | (refine Below.alloc ?_ (by simp <;> omega) _)) : Below w8.heap.size w8 _)))
          have hr9 : w8.heap.size + 1 ≤ w9.heap.size := Nat.le_trans (by first | exact Nat.le_refl _ | (simp; done) | (simp; omega) | (simp [World.setCell]; done) | (simp [World.setCell]; omega)) hb9.size
          have sz9_paG := Nat.lt_of_lt_of_le sz8_paG hst9.size
          have bx9_paG_0 := (hst9.cell (p := ⟨w.heap.size, 0, none⟩) sz8_paG).trans bx8_paG_0
          have bx9_paG_1 := (hst9.cell (p := ⟨w.heap.size, 1, none⟩) sz8_paG).trans bx8_paG_1
          have sz9_paR := Nat.lt_of_lt_of_le sz8_paR hst9.size
          have bx9_paR_0 := (hst9.cell (p := ⟨w.heap.size + 1, 0, none⟩) sz8_paR).trans bx8_paR_0
          have bx9_paR_1 := (hst9.cell (p := ⟨w.heap.size + 1, 1, none⟩) sz8_paR).trans bx8_paR_1
          have bx9_paR_2 := (hst9.cell (p := ⟨w.heap.size + 1, 2, none⟩) sz8_paR).trans bx8_paR_2
          have bx9_paR_3 := (hst9.cell (p := ⟨w.heap.size + 1, 3, none⟩) sz8_paR).trans bx8_paR_3
          have bx9_paR_4 := (hst9.cell (p := ⟨w.heap.size + 1, 4, none⟩) sz8_paR).trans bx8_paR_4
          have bx9_paR_5 := (hst9.cell (p := ⟨w.heap.size + 1, 5, none⟩) sz8_paR).trans bx8_paR_5
          have sz9_paC := Nat.lt_of_lt_of_le sz8_paC hst9.size
          have bx9_paC_0 := (hst9.cell (p := ⟨w.heap.size + 2, 0, none⟩) sz8_paC).trans bx8_paC_0
          have bx9_paC_1 := (hst9.cell (p := ⟨w.heap.size + 2, 1, none⟩) sz8_paC).trans bx8_paC_1
          have sz9_w0 := Nat.lt_of_lt_of_le sz8_w0 hst9.size
          have bx9_w0_0 := (hst9.cell (p := ⟨bV7, 0, none⟩) sz8_w0).trans bx8_w0_0
          have bx9_w0_1 := (hst9.cell (p := ⟨bV7, 1, none⟩) sz8_w0).trans bx8_w0_1
          have sz9_x0 : w8.heap.size < w9.heap.size := Nat.lt_of_lt_of_le (by first | omega | (simp; done) | (simp; omega) | (simp [World.setCell]; omega)) hb9.size
          have bx9_x0_0 : w9.cell? ⟨w8.heap.size, 0, none⟩ = some (.slice a0_vG_8 vG.fSymbols.length c0_vG_8) := (hb9.cell (p := ⟨w8.heap.size, 0, none⟩) (by first | omega | (simp; done) | (simp; omega) | (simp [World.setCell]; omega))).trans (by go_simp)
          have bx9_x0_1 : w9.cell? ⟨w8.heap.size, 1, none⟩ = some (.slice a1_vG_8 vG.fRules.length c1_vG_8) := (hb9.cell (p := ⟨w8.heap.size, 1, none⟩) (by first | omega | (simp; done) | (simp; omega) | (simp [World.setCell]; omega))).trans (by go_simp)
          have HO9_1_R_7 := Lib.hid (HO8_1_R_7.out.kept (Kept.of_below_all hst9))
          have HO9_0_vG_8 := Lib.hid (HO8_0_vG_8.out.kept (Kept.of_below_all hst9))
          have HO9_1_vG_8 := Lib.hid (HO8_1_vG_8.out.kept (Kept.of_below_all hst9))
          have HR9_vG_8 := Lib.hid (HR8_vG_8.out.kept (Kept.of_below_all hst9))
          have HR9_vR_9 := Lib.hid (OwnR.sub (F' := fun y => w8.heap.size + 1 ≤ y ∧ y < w9.heap.size) ho9 (fun y hy => ⟨Nat.le_trans (by first | exact Nat.le_refl _ | (simp; done) | (simp; omega) | (simp [World.setCell]; done) | (simp [World.setCell]; omega)) hy.1, hy.2⟩))
          have HO9_2_vR_9 := Lib.hid (show Own w9 (fun y => w8.heap.size + 1 ≤ y ∧ y < w9.heap.size) (.sl 1 vR.fRight.length (fun k => ictS (vR.fRight.getD k default))) (.slice a2_vR_9 vR.fRight.length c2_vR_9) from Own.sub (F := fun y => _ ≤ y ∧ y < _) (OwnR.at ho9 2 (by decide)) (fun y hy => ⟨Nat.le_trans (by first | exact Nat.le_refl _ | (simp; done) | (simp; omega) | (simp [World.setCell]; done) | (simp [World.setCell]; omega)) hy.1, hy.2⟩))
          have HO9_4_vR_9 := Lib.hid (show Own w9 (fun y => w8.heap.size + 1 ≤ y ∧ y < w9.heap.size) (.sl 9 vR.fEquations.length (fun k => DEquation.ct (vR.fEquations.getD k default))) (.slice a4_vR_9 vR.fEquations.length c4_vR_9) from Own.sub (F := fun y => _ ≤ y ∧ y < _) (OwnR.at ho9 4 (by decide)) (fun y hy => ⟨Nat.le_trans (by first | exact Nat.le_refl _ | (simp; done) | (simp; omega) | (simp [World.setCell]; done) | (simp [World.setCell]; omega)) hy.1, hy.2⟩))
          have HO9_5_vR_9 := Lib.hid (show Own w9 (fun y => w8.heap.size + 1 ≤ y ∧ y < w9.heap.size) (.sl 16 vR.fContributions.length (fun k => DContribution.ct (vR.fContributions.getD k default))) (.slice a5_vR_9 vR.fContributions.length c5_vR_9) from Own.sub (F := fun y => _ ≤ y ∧ y < _) (OwnR.at ho9 5 (by decide)) (fun y hy => ⟨Nat.le_trans (by first | exact Nat.le_refl _ | (simp; done) | (simp; omega) | (simp [World.setCell]; done) | (simp [World.setCell]; omega)) hy.1, hy.2⟩))
          have HB9 := Lib.hid (HB8.out.trans (hst9.mono HB8.out.size))
          clear bx8_paG_0 bx8_paG_1 sz8_paG bx8_paR_0 bx8_paR_1 bx8_paR_2 bx8_paR_3 bx8_paR_4 bx8_paR_5 sz8_paR bx8_paC_0 bx8_paC_1 sz8_paC bx8_w0_0 bx8_w0_1 sz8_w0 HO8_1_R_7 HO8_0_vG_8 HO8_1_vG_8 HR8_vG_8 ho9 hb9 hst9 HB8
          go_wp2_with fail
          refine (laws_toRelation (c1 := c1_vC) vC hq_vC _ (Below.size (by repeat (first | (with_reducible exact Below.refl _ _) | (with_reducible apply Below.drew) | (with_reducible refine below_drewN ?_ _) | (refine Below.setCell ?_ (by simp <;> omega) _) | (refine Below.alloc ?_ (by simp <;> omega) _)) : Below w9.heap.size w9 _)) ((HS_1_vC.out.later (HB9.out.trans ((by repeat (first | (with_reducible exact Below.refl _ _) | (with_reducible apply Below.drew) | (with_reducible refine below_drewN ?_ _) | (refine Below.setCell ?_ (by simp <;> omega) _) | (refine Below.alloc ?_ (by simp <;> omega) _)) : Below w9.heap.size w9 _).mono HB9.out.size)) (Nat.le_refl _)).mono (Nat.le_refl _) HB9.out.size)).mono ?_
          rintro e w10 ⟨a1_vC_10, c1_vC_10, rfl, ho10, hb10⟩
          as_aux_lemma =>
          have hst10 : Below w9.heap.size w9 w10 := Below.trans (by repeat (first | (with_reducible exact Below.refl _ _) | (with_reducible apply Below.drew) | (with_reducible refine below_drewN ?_ _) | (refine Below.setCell ?_ (by simp <;> omega) _) | (refine Below.alloc ?_ (by simp <;> omega) _)) : Below w9.heap.size w9 _) (hb10.mono (Below.size (by repeat (first | (with_reducible exact Below.refl _ _) | (with_reducible apply Below.drew) | (with_reducible refine below_drewN ?_ _) | (refine Below.setCell ?_ (by simp <;> omega) _) | (refine Below.alloc ?_ (by simp <;> omega) _)) : Below w9.heap.size w9 _)))
          have hr10 : w9.heap.size + 1 ≤ w10.heap.size := Nat.le_trans (by first | exact Nat.le_refl _ | (simp; done) | (simp; omega) | (simp [World.setCell]; done) | (simp [World.setCell]; omega)) hb10.size
          have sz10_paG := Nat.lt_of_lt_of_le sz9_paG hst10.size
          have bx10_paG_0 := (hst10.cell (p := ⟨w.heap.size, 0, none⟩) sz9_paG).trans bx9_paG_0
          have bx10_paG_1 := (hst10.cell (p := ⟨w.heap.size, 1, none⟩) sz9_paG).trans bx9_paG_1
          have sz10_paR := Nat.lt_of_lt_of_le sz9_paR hst10.size
          have bx10_paR_0 := (hst10.cell (p := ⟨w.heap.size + 1, 0, none⟩) sz9_paR).trans bx9_paR_0
          have bx10_paR_1 := (hst10.cell (p := ⟨w.heap.size + 1, 1, none⟩) sz9_paR).trans bx9_paR_1
          have bx10_paR_2 := (hst10.cell (p := ⟨w.heap.size + 1, 2, none⟩) sz9_paR).trans bx9_paR_2
          have bx10_paR_3 := (hst10.cell (p := ⟨w.heap.size + 1, 3, none⟩) sz9_paR).trans bx9_paR_3
          have bx10_paR_4 := (hst10.cell (p := ⟨w.heap.size + 1, 4, none⟩) sz9_paR).trans bx9_paR_4
          have bx10_paR_5 := (hst10.cell (p := ⟨w.heap.size + 1, 5, none⟩) sz9_paR).trans bx9_paR_5
          have sz10_paC := Nat.lt_of_lt_of_le sz9_paC hst10.size
          have bx10_paC_0 := (hst10.cell (p := ⟨w.heap.size + 2, 0, none⟩) sz9_paC).trans bx9_paC_0
          have bx10_paC_1 := (hst10.cell (p := ⟨w.heap.size + 2, 1, none⟩) sz9_paC).trans bx9_paC_1
          have sz10_w0 := Nat.lt_of_lt_of_le sz9_w0 hst10.size
          have bx10_w0_0 := (hst10.cell (p := ⟨bV7, 0, none⟩) sz9_w0).trans bx9_w0_0
          have bx10_w0_1 := (hst10.cell (p := ⟨bV7, 1, none⟩) sz9_w0).trans bx9_w0_1
          have sz10_x0 := Nat.lt_of_lt_of_le sz9_x0 hst10.size
          have bx10_x0_0 := (hst10.cell (p := ⟨w8.heap.size, 0, none⟩) sz9_x0).trans bx9_x0_0
          have bx10_x0_1 := (hst10.cell (p := ⟨w8.heap.size, 1, none⟩) sz9_x0).trans bx9_x0_1
          have sz10_x1 : w9.heap.size < w10.heap.size := Nat.lt_of_lt_of_le (by first | omega | (simp; done) | (simp; omega) | (simp [World.setCell]; omega)) hb10.size
          have bx10_x1_0 : w10.cell? ⟨w9.heap.size, 0, none⟩ = some (.string vR.fName) := (hb10.cell (p := ⟨w9.heap.size, 0, none⟩) (by first | omega | (simp; done) | (simp; omega) | (simp [World.setCell]; omega))).trans (by go_simp)
          have bx10_x1_1 : w10.cell? ⟨w9.heap.size, 1, none⟩ = some (.string vR.fLeft) := (hb10.cell (p := ⟨w9.heap.size, 1, none⟩) (by first | omega | (simp; done) | (simp; omega) | (simp [World.setCell]; omega))).trans (by go_simp)
          have bx10_x1_2 : w10.cell? ⟨w9.heap.size, 2, none⟩ = some (.slice a2_vR_9 vR.fRight.length c2_vR_9) := (hb10.cell (p := ⟨w9.heap.size, 2, none⟩) (by first | omega | (simp; done) | (simp; omega) | (simp [World.setCell]; omega))).trans (by go_simp)
          have bx10_x1_3 : w10.cell? ⟨w9.heap.size, 3, none⟩ = some (.bool vR.fLiteral) := (hb10.cell (p := ⟨w9.heap.size, 3, none⟩) (by first | omega | (simp; done) | (simp; omega) | (simp [World.setCell]; omega))).trans (by go_simp)
          have bx10_x1_4 : w10.cell? ⟨w9.heap.size, 4, none⟩ = some (.slice a4_vR_9 vR.fEquations.length c4_vR_9) := (hb10.cell (p := ⟨w9.heap.size, 4, none⟩) (by first | omega | (simp; done) | (simp; omega) | (simp [World.setCell]; omega))).trans (by go_simp)
          have bx10_x1_5 : w10.cell? ⟨w9.heap.size, 5, none⟩ = some (.slice a5_vR_9 vR.fContributions.length c5_vR_9) := (hb10.cell (p := ⟨w9.heap.size, 5, none⟩) (by first | omega | (simp; done) | (simp; omega) | (simp [World.setCell]; omega))).trans (by go_simp)
          have HO10_1_R_7 := Lib.hid (HO9_1_R_7.out.kept (Kept.of_below_all hst10))
          have HO10_0_vG_8 := Lib.hid (HO9_0_vG_8.out.kept (Kept.of_below_all hst10))
          have HO10_1_vG_8 := Lib.hid (HO9_1_vG_8.out.kept (Kept.of_below_all hst10))
          have HO10_2_vR_9 := Lib.hid (HO9_2_vR_9.out.kept (Kept.of_below_all hst10))
          have HO10_4_vR_9 := Lib.hid (HO9_4_vR_9.out.kept (Kept.of_below_all hst10))
          have HO10_5_vR_9 := Lib.hid (HO9_5_vR_9.out.kept (Kept.of_below_all hst10))
          have HR10_vG_8 := Lib.hid (HR9_vG_8.out.kept (Kept.of_below_all hst10))
          have HR10_vR_9 := Lib.hid (HR9_vR_9.out.kept (Kept.of_below_all hst10))
          have HR10_vC_10 := Lib.hid (OwnR.sub (F' := fun y => w9.heap.size + 1 ≤ y ∧ y < w10.heap.size) ho10 (fun y hy => ⟨Nat.le_trans (by first | exact Nat.le_refl _ | (simp; done) | (simp; omega) | (simp [World.setCell]; done) | (simp [World.setCell]; omega)) hy.1, hy.2⟩))
          have HO10_1_vC_10 := Lib.hid (show Own w10 (fun y => w9.heap.size + 1 ≤ y ∧ y < w10.heap.size) (.sl 1 vC.fRows.length (fun k => ictI (vC.fRows.getD k default))) (.slice a1_vC_10 vC.fRows.length c1_vC_10) from Own.sub (F := fun y => _ ≤ y ∧ y < _) (OwnR.at ho10 1 (by decide)) (fun y hy => ⟨Nat.le_trans (by first | exact Nat.le_refl _ | (simp; done) | (simp; omega) | (simp [World.setCell]; done) | (simp [World.setCell]; omega)) hy.1, hy.2⟩))
          have HB10 := Lib.hid (HB9.out.trans (hst10.mono HB9.out.size))
          clear bx9_paG_0 bx9_paG_1 sz9_paG bx9_paR_0 bx9_paR_1 bx9_paR_2 bx9_paR_3 bx9_paR_4 bx9_paR_5 sz9_paR bx9_paC_0 bx9_paC_1 sz9_paC bx9_w0_0 bx9_w0_1 sz9_w0 bx9_x0_0 bx9_x0_1 sz9_x0 HO9_1_R_7 HO9_0_vG_8 HO9_1_vG_8 HO9_2_vR_9 HO9_4_vR_9 HO9_5_vR_9 HR9_vG_8 HR9_vR_9 ho10 hb10 hst10 HB9
          go_wp2_with fail
          refine (impl_SummaryOf (c0_0 := c0_vG_8) (c0_1 := c1_vG_8) (c1_0 := c2_vR_9) (c1_1 := c4_vR_9) (c1_2 := c5_vR_9) (c2_0 := c1_vC_10) vG OK_vG.out hq_vG vR OK_vR.out hq_vR vC OK_vC.out hq_vC _ (Below.size (by repeat (first | (with_reducible exact Below.refl _ _) | (with_reducible apply Below.drew) | (with_reducible refine below_drewN ?_ _) | (refine Below.setCell ?_ (by simp <;> omega) _) | (refine Below.alloc ?_ (by simp <;> omega) _)) : Below w10.heap.size w10 _)) ((Sl.of (HO10_0_vG_8.out.lies (lo := 0) (hi := w10.heap.size) (fun y hy => ⟨Nat.zero_le _, by have := hy.2; omega⟩))).later (by repeat (first | (with_reducible exact Below.refl _ _) | (with_reducible apply Below.drew) | (with_reducible refine below_drewN ?_ _) | (refine Below.setCell ?_ (by simp <;> omega) _) | (refine Below.alloc ?_ (by simp <;> omega) _)) : Below w10.heap.size w10 _) (Nat.le_refl _)) ((Sl.of (HO10_1_vG_8.out.lies (lo := 0) (hi := w10.heap.size) (fun y hy => ⟨Nat.zero_le _, by have := hy.2; omega⟩))).later (by repeat (first | (with_reducible exact Below.refl _ _) | (with_reducible apply Below.drew) | (with_reducible refine below_drewN ?_ _) | (refine Below.setCell ?_ (by simp <;> omega) _) | (refine Below.alloc ?_ (by simp <;> omega) _)) : Below w10.heap.size w10 _) (Nat.le_refl _)) ((Sl.of (HO10_2_vR_9.out.lies (lo := 0) (hi := w10.heap.size) (fun y hy => ⟨Nat.zero_le _, by have := hy.2; omega⟩))).later (by repeat (first | (with_reducible exact Below.refl _ _) | (with_reducible apply Below.drew) | (with_reducible refine below_drewN ?_ _) | (refine Below.setCell ?_ (by simp <;> omega) _) | (refine Below.alloc ?_ (by simp <;> omega) _)) : Below w10.heap.size w10 _) (Nat.le_refl _)) ((Sl.of (HO10_4_vR_9.out.lies (lo := 0) (hi := w10.heap.size) (fun y hy => ⟨Nat.zero_le _, by have := hy.2; omega⟩))).later (by repeat (first | (with_reducible exact Below.refl _ _) | (with_reducible apply Below.drew) | (with_reducible refine below_drewN ?_ _) | (refine Below.setCell ?_ (by simp <;> omega) _) | (refine Below.alloc ?_ (by simp <;> omega) _)) : Below w10.heap.size w10 _) (Nat.le_refl _)) ((Sl.of (HO10_5_vR_9.out.lies (lo := 0) (hi := w10.heap.size) (fun y hy => ⟨Nat.zero_le _, by have := hy.2; omega⟩))).later (by repeat (first | (with_reducible exact Below.refl _ _) | (with_reducible apply Below.drew) | (with_reducible refine below_drewN ?_ _) | (refine Below.setCell ?_ (by simp <;> omega) _) | (refine Below.alloc ?_ (by simp <;> omega) _)) : Below w10.heap.size w10 _) (Nat.le_refl _)) ((Sl.of (HO10_1_vC_10.out.lies (lo := 0) (hi := w10.heap.size) (fun y hy => ⟨Nat.zero_le _, by have := hy.2; omega⟩))).later (by repeat (first | (with_reducible exact Below.refl _ _) | (with_reducible apply Below.drew) | (with_reducible refine below_drewN ?_ _) | (refine Below.setCell ?_ (by simp <;> omega) _) | (refine Below.alloc ?_ (by simp <;> omega) _)) : Below w10.heap.size w10 _) (Nat.le_refl _))).mono ?_
          rintro e w11 ⟨a1_R_11, c1_R_11, rfl, ho11, hb11⟩
          as_aux_lemma =>
          have hst11 : Below w10.heap.size w10 w11 := Below.trans (by repeat (first | (with_reducible exact Below.refl _ _) | (with_reducible apply Below.drew) | (with_reducible refine below_drewN ?_ _) | (refine Below.setCell ?_ (by simp <;> omega) _) | (refine Below.alloc ?_ (by simp <;> omega) _)) : Below w10.heap.size w10 _) (hb11.mono (Below.size (by repeat (first | (with_reducible exact Below.refl _ _) | (with_reducible apply Below.drew) | (with_reducible refine below_drewN ?_ _) | (refine Below.setCell ?_ (by simp <;> omega) _) | (refine Below.alloc ?_ (by simp <;> omega) _)) : Below w10.heap.size w10 _)))
          have hr11 : w10.heap.size + 1 ≤ w11.heap.size := Nat.le_trans (by first | exact Nat.le_refl _ | (simp; done) | (simp; omega) | (simp [World.setCell]; done) | (simp [World.setCell]; omega)) hb11.size
          have sz11_paG := Nat.lt_of_lt_of_le sz10_paG hst11.size
          have bx11_paG_0 := (hst11.cell (p := ⟨w.heap.size, 0, none⟩) sz10_paG).trans bx10_paG_0
          have bx11_paG_1 := (hst11.cell (p := ⟨w.heap.size, 1, none⟩) sz10_paG).trans bx10_paG_1
          have sz11_paR := Nat.lt_of_lt_of_le sz10_paR hst11.size
          have bx11_paR_0 := (hst11.cell (p := ⟨w.heap.size + 1, 0, none⟩) sz10_paR).trans bx10_paR_0
          have bx11_paR_1 := (hst11.cell (p := ⟨w.heap.size + 1, 1, none⟩) sz10_paR).trans bx10_paR_1
          have bx11_paR_2 := (hst11.cell (p := ⟨w.heap.size + 1, 2, none⟩) sz10_paR).trans bx10_paR_2
          have bx11_paR_3 := (hst11.cell (p := ⟨w.heap.size + 1, 3, none⟩) sz10_paR).trans bx10_paR_3
          have bx11_paR_4 := (hst11.cell (p := ⟨w.heap.size + 1, 4, none⟩) sz10_paR).trans bx10_paR_4
          have bx11_paR_5 := (hst11.cell (p := ⟨w.heap.size + 1, 5, none⟩) sz10_paR).trans bx10_paR_5
          have sz11_paC := Nat.lt_of_lt_of_le sz10_paC hst11.size
          have bx11_paC_0 := (hst11.cell (p := ⟨w.heap.size + 2, 0, none⟩) sz10_paC).trans bx10_paC_0
          have bx11_paC_1 := (hst11.cell (p := ⟨w.heap.size + 2, 1, none⟩) sz10_paC).trans bx10_paC_1
          have sz11_w0 := Nat.lt_of_lt_of_le sz10_w0 hst11.size
          have bx11_w0_0 := (hst11.cell (p := ⟨bV7, 0, none⟩) sz10_w0).trans bx10_w0_0
          have bx11_w0_1 := (hst11.cell (p := ⟨bV7, 1, none⟩) sz10_w0).trans bx10_w0_1
          have sz11_x0 := Nat.lt_of_lt_of_le sz10_x0 hst11.size
          have bx11_x0_0 := (hst11.cell (p := ⟨w8.heap.size, 0, none⟩) sz10_x0).trans bx10_x0_0
          have bx11_x0_1 := (hst11.cell (p := ⟨w8.heap.size, 1, none⟩) sz10_x0).trans bx10_x0_1
          have sz11_x1 := Nat.lt_of_lt_of_le sz10_x1 hst11.size
          have bx11_x1_0 := (hst11.cell (p := ⟨w9.heap.size, 0, none⟩) sz10_x1).trans bx10_x1_0
          have bx11_x1_1 := (hst11.cell (p := ⟨w9.heap.size, 1, none⟩) sz10_x1).trans bx10_x1_1
          have bx11_x1_2 := (hst11.cell (p := ⟨w9.heap.size, 2, none⟩) sz10_x1).trans bx10_x1_2
          have bx11_x1_3 := (hst11.cell (p := ⟨w9.heap.size, 3, none⟩) sz10_x1).trans bx10_x1_3
          have bx11_x1_4 := (hst11.cell (p := ⟨w9.heap.size, 4, none⟩) sz10_x1).trans bx10_x1_4
          have bx11_x1_5 := (hst11.cell (p := ⟨w9.heap.size, 5, none⟩) sz10_x1).trans bx10_x1_5
          have sz11_x2 : w10.heap.size < w11.heap.size := Nat.lt_of_lt_of_le (by first | omega | (simp; done) | (simp; omega) | (simp [World.setCell]; omega)) hb11.size
          have bx11_x2_0 : w11.cell? ⟨w10.heap.size, 0, none⟩ = some (.int .i64 vC.fN) := (hb11.cell (p := ⟨w10.heap.size, 0, none⟩) (by first | omega | (simp; done) | (simp; omega) | (simp [World.setCell]; omega))).trans (by go_simp)
          have bx11_x2_1 : w11.cell? ⟨w10.heap.size, 1, none⟩ = some (.slice a1_vC_10 vC.fRows.length c1_vC_10) := (hb11.cell (p := ⟨w10.heap.size, 1, none⟩) (by first | omega | (simp; done) | (simp; omega) | (simp [World.setCell]; omega))).trans (by go_simp)
          have HO11_1_R_7 := Lib.hid (HO10_1_R_7.out.kept (Kept.of_below_all hst11))
          have HO11_0_vG_8 := Lib.hid (HO10_0_vG_8.out.kept (Kept.of_below_all hst11))
          have HO11_1_vG_8 := Lib.hid (HO10_1_vG_8.out.kept (Kept.of_below_all hst11))
          have HO11_2_vR_9 := Lib.hid (HO10_2_vR_9.out.kept (Kept.of_below_all hst11))
          have HO11_4_vR_9 := Lib.hid (HO10_4_vR_9.out.kept (Kept.of_below_all hst11))
          have HO11_5_vR_9 := Lib.hid (HO10_5_vR_9.out.kept (Kept.of_below_all hst11))
          have HO11_1_vC_10 := Lib.hid (HO10_1_vC_10.out.kept (Kept.of_below_all hst11))
          have HR11_vG_8 := Lib.hid (HR10_vG_8.out.kept (Kept.of_below_all hst11))
          have HR11_vR_9 := Lib.hid (HR10_vR_9.out.kept (Kept.of_below_all hst11))
          have HR11_vC_10 := Lib.hid (HR10_vC_10.out.kept (Kept.of_below_all hst11))
          have HO11_1_R_11 := Lib.hid (show Own w11 (fun y => w10.heap.size + 1 ≤ y ∧ y < w11.heap.size) (.sl 1 (summ vG vR vC).fRows.length (fun k => ictI ((summ vG vR vC).fRows.getD k default))) (.slice a1_R_11 (summ vG vR vC).fRows.length c1_R_11) from Own.sub (F := fun y => _ ≤ y ∧ y < _) ho11 (fun y hy => ⟨Nat.le_trans (by first | exact Nat.le_refl _ | (simp; done) | (simp; omega) | (simp [World.setCell]; done) | (simp [World.setCell]; omega)) hy.1, hy.2⟩))
          have HB11 := Lib.hid (HB10.out.trans (hst11.mono HB10.out.size))
          clear bx10_paG_0 bx10_paG_1 sz10_paG bx10_paR_0 bx10_paR_1 bx10_paR_2 bx10_paR_3 bx10_paR_4 bx10_paR_5 sz10_paR bx10_paC_0 bx10_paC_1 sz10_paC bx10_w0_0 bx10_w0_1 sz10_w0 bx10_x0_0 bx10_x0_1 sz10_x0 bx10_x1_0 bx10_x1_1 bx10_x1_2 bx10_x1_3 bx10_x1_4 bx10_x1_5 sz10_x1 HO10_1_R_7 HO10_0_vG_8 HO10_1_vG_8 HO10_2_vR_9 HO10_4_vR_9 HO10_5_vR_9 HO10_1_vC_10 HR10_vG_8 HR10_vR_9 HR10_vC_10 ho11 hb11 hst11 HB10
          go_wp2_with fail
          refine (laws_eqRelation (c1 := c1_R_11) (c1q := c1_R_7) (summ vG vR vC) hq_R _ (Below.size (by repeat (first | (with_reducible exact Below.refl _ _) | (with_reducible apply Below.drew) | (with_reducible refine below_drewN ?_ _) | (refine Below.setCell ?_ (by simp <;> omega) _) | (refine Below.alloc ?_ (by simp <;> omega) _)) : Below w11.heap.size w11 _)) (Below.size (by repeat (first | (with_reducible exact Below.refl _ _) | (with_reducible apply Below.drew) | (with_reducible refine below_drewN ?_ _) | (refine Below.setCell ?_ (by simp <;> omega) _) | (refine Below.alloc ?_ (by simp <;> omega) _)) : Below w11.heap.size w11 _)) ((Sl.of (HO11_1_R_11.out.lies (lo := 0) (hi := w11.heap.size) (fun y hy => ⟨Nat.zero_le _, by have := hy.2; omega⟩))).later (by repeat (first | (with_reducible exact Below.refl _ _) | (with_reducible apply Below.drew) | (with_reducible refine below_drewN ?_ _) | (refine Below.setCell ?_ (by simp <;> omega) _) | (refine Below.alloc ?_ (by simp <;> omega) _)) : Below w11.heap.size w11 _) (Nat.le_refl _)) ((Sl.of (HO11_1_R_7.out.lies (lo := 0) (hi := w11.heap.size) (fun y hy => ⟨Nat.zero_le _, by have := hy.2; omega⟩))).later (by repeat (first | (with_reducible exact Below.refl _ _) | (with_reducible apply Below.drew) | (with_reducible refine below_drewN ?_ _) | (refine Below.setCell ?_ (by simp <;> omega) _) | (refine Below.alloc ?_ (by simp <;> omega) _)) : Below w11.heap.size w11 _) (Nat.le_refl _))).mono ?_
          rintro e w12 ⟨rfl, hb12⟩
          as_aux_lemma =>
          have hst12 : Below w11.heap.size w11 w12 := Below.trans (by repeat (first | (with_reducible exact Below.refl _ _) | (with_reducible apply Below.drew) | (with_reducible refine below_drewN ?_ _) | (refine Below.setCell ?_ (by simp <;> omega) _) | (refine Below.alloc ?_ (by simp <;> omega) _)) : Below w11.heap.size w11 _) (hb12.mono (Below.size (by repeat (first | (with_reducible exact Below.refl _ _) | (with_reducible apply Below.drew) | (with_reducible refine below_drewN ?_ _) | (refine Below.setCell ?_ (by simp <;> omega) _) | (refine Below.alloc ?_ (by simp <;> omega) _)) : Below w11.heap.size w11 _)))
          have hr12 : w11.heap.size + 1 ≤ w12.heap.size := Nat.le_trans (by first | exact Nat.le_refl _ | (simp; done) | (simp; omega) | (simp [World.setCell]; done) | (simp [World.setCell]; omega)) hb12.size
          have sz12_paG := Nat.lt_of_lt_of_le sz11_paG hst12.size
          have bx12_paG_0 := (hst12.cell (p := ⟨w.heap.size, 0, none⟩) sz11_paG).trans bx11_paG_0
          have bx12_paG_1 := (hst12.cell (p := ⟨w.heap.size, 1, none⟩) sz11_paG).trans bx11_paG_1
          have sz12_paR := Nat.lt_of_lt_of_le sz11_paR hst12.size
          have bx12_paR_0 := (hst12.cell (p := ⟨w.heap.size + 1, 0, none⟩) sz11_paR).trans bx11_paR_0
          have bx12_paR_1 := (hst12.cell (p := ⟨w.heap.size + 1, 1, none⟩) sz11_paR).trans bx11_paR_1
          have bx12_paR_2 := (hst12.cell (p := ⟨w.heap.size + 1, 2, none⟩) sz11_paR).trans bx11_paR_2
          have bx12_paR_3 := (hst12.cell (p := ⟨w.heap.size + 1, 3, none⟩) sz11_paR).trans bx11_paR_3
          have bx12_paR_4 := (hst12.cell (p := ⟨w.heap.size + 1, 4, none⟩) sz11_paR).trans bx11_paR_4
          have bx12_paR_5 := (hst12.cell (p := ⟨w.heap.size + 1, 5, none⟩) sz11_paR).trans bx11_paR_5
          have sz12_paC := Nat.lt_of_lt_of_le sz11_paC hst12.size
          have bx12_paC_0 := (hst12.cell (p := ⟨w.heap.size + 2, 0, none⟩) sz11_paC).trans bx11_paC_0
          have bx12_paC_1 := (hst12.cell (p := ⟨w.heap.size + 2, 1, none⟩) sz11_paC).trans bx11_paC_1
          have sz12_w0 := Nat.lt_of_lt_of_le sz11_w0 hst12.size
          have bx12_w0_0 := (hst12.cell (p := ⟨bV7, 0, none⟩) sz11_w0).trans bx11_w0_0
          have bx12_w0_1 := (hst12.cell (p := ⟨bV7, 1, none⟩) sz11_w0).trans bx11_w0_1
          have sz12_x0 := Nat.lt_of_lt_of_le sz11_x0 hst12.size
          have bx12_x0_0 := (hst12.cell (p := ⟨w8.heap.size, 0, none⟩) sz11_x0).trans bx11_x0_0
          have bx12_x0_1 := (hst12.cell (p := ⟨w8.heap.size, 1, none⟩) sz11_x0).trans bx11_x0_1
          have sz12_x1 := Nat.lt_of_lt_of_le sz11_x1 hst12.size
          have bx12_x1_0 := (hst12.cell (p := ⟨w9.heap.size, 0, none⟩) sz11_x1).trans bx11_x1_0
          have bx12_x1_1 := (hst12.cell (p := ⟨w9.heap.size, 1, none⟩) sz11_x1).trans bx11_x1_1
          have bx12_x1_2 := (hst12.cell (p := ⟨w9.heap.size, 2, none⟩) sz11_x1).trans bx11_x1_2
          have bx12_x1_3 := (hst12.cell (p := ⟨w9.heap.size, 3, none⟩) sz11_x1).trans bx11_x1_3
          have bx12_x1_4 := (hst12.cell (p := ⟨w9.heap.size, 4, none⟩) sz11_x1).trans bx11_x1_4
          have bx12_x1_5 := (hst12.cell (p := ⟨w9.heap.size, 5, none⟩) sz11_x1).trans bx11_x1_5
          have sz12_x2 := Nat.lt_of_lt_of_le sz11_x2 hst12.size
          have bx12_x2_0 := (hst12.cell (p := ⟨w10.heap.size, 0, none⟩) sz11_x2).trans bx11_x2_0
          have bx12_x2_1 := (hst12.cell (p := ⟨w10.heap.size, 1, none⟩) sz11_x2).trans bx11_x2_1
          have sz12_g0 : w11.heap.size < w12.heap.size := Nat.lt_of_lt_of_le (by first | omega | (simp; done) | (simp; omega) | (simp [World.setCell]; omega)) hb12.size
          have bx12_g0_0 : w12.cell? ⟨w11.heap.size, 0, none⟩ = some (.int .i64 (summ vG vR vC).fN) := (hb12.cell (p := ⟨w11.heap.size, 0, none⟩) (by first | omega | (simp; done) | (simp; omega) | (simp [World.setCell]; omega))).trans (by go_simp)
          have bx12_g0_1 : w12.cell? ⟨w11.heap.size, 1, none⟩ = some (.slice a1_R_11 (summ vG vR vC).fRows.length c1_R_11) := (hb12.cell (p := ⟨w11.heap.size, 1, none⟩) (by first | omega | (simp; done) | (simp; omega) | (simp [World.setCell]; omega))).trans (by go_simp)
          have HO12_1_R_7 := Lib.hid (HO11_1_R_7.out.kept (Kept.of_below_all hst12))
          have HO12_0_vG_8 := Lib.hid (HO11_0_vG_8.out.kept (Kept.of_below_all hst12))
          have HO12_1_vG_8 := Lib.hid (HO11_1_vG_8.out.kept (Kept.of_below_all hst12))
          have HO12_2_vR_9 := Lib.hid (HO11_2_vR_9.out.kept (Kept.of_below_all hst12))
          have HO12_4_vR_9 := Lib.hid (HO11_4_vR_9.out.kept (Kept.of_below_all hst12))
          have HO12_5_vR_9 := Lib.hid (HO11_5_vR_9.out.kept (Kept.of_below_all hst12))
          have HO12_1_vC_10 := Lib.hid (HO11_1_vC_10.out.kept (Kept.of_below_all hst12))
          have HO12_1_R_11 := Lib.hid (HO11_1_R_11.out.kept (Kept.of_below_all hst12))
          have HR12_vG_8 := Lib.hid (HR11_vG_8.out.kept (Kept.of_below_all hst12))
          have HR12_vR_9 := Lib.hid (HR11_vR_9.out.kept (Kept.of_below_all hst12))
          have HR12_vC_10 := Lib.hid (HR11_vC_10.out.kept (Kept.of_below_all hst12))
          have HB12 := Lib.hid (HB11.out.trans (hst12.mono HB11.out.size))
          clear bx11_paG_0 bx11_paG_1 sz11_paG bx11_paR_0 bx11_paR_1 bx11_paR_2 bx11_paR_3 bx11_paR_4 bx11_paR_5 sz11_paR bx11_paC_0 bx11_paC_1 sz11_paC bx11_w0_0 bx11_w0_1 sz11_w0 bx11_x0_0 bx11_x0_1 sz11_x0 bx11_x1_0 bx11_x1_1 bx11_x1_2 bx11_x1_3 bx11_x1_4 bx11_x1_5 sz11_x1 bx11_x2_0 bx11_x2_1 sz11_x2 HO11_1_R_7 HO11_0_vG_8 HO11_1_vG_8 HO11_2_vR_9 HO11_4_vR_9 HO11_5_vR_9 HO11_1_vC_10 HO11_1_R_11 HR11_vG_8 HR11_vR_9 HR11_vC_10 hb12 hst12 HB11
          go_wp2_with fail
          go_region_with ((first | (go_at_call 8; refine (laws_toGrammar (c0 := c0_vG) (c1 := c1_vG) vG hq_vG _ (Below.size (by repeat (first | (with_reducible exact Below.refl _ _) | (with_reducible apply Below.drew) | (with_reducible refine below_drewN ?_ _) | (refine Below.setCell ?_ (by simp <;> omega) _) | (refine Below.alloc ?_ (by simp <;> omega) _)) : Below w12.heap.size w12 _)) ((HS_0_vG.out.later (HB12.out.trans ((by repeat (first | (with_reducible exact Below.refl _ _) | (with_reducible apply Below.drew) | (with_reducible refine below_drewN ?_ _) | (refine Below.setCell ?_ (by simp <;> omega) _) | (refine Below.alloc ?_ (by simp <;> omega) _)) : Below w12.heap.size w12 _).mono HB12.out.size)) (Nat.le_refl _)).mono (Nat.le_refl _) HB12.out.size) ((HS_1_vG.out.later (HB12.out.trans ((by repeat (first | (with_reducible exact Below.refl _ _) | (with_reducible apply Below.drew) | (with_reducible refine below_drewN ?_ _) | (refine Below.setCell ?_ (by simp <;> omega) _) | (refine Below.alloc ?_ (by simp <;> omega) _)) : Below w12.heap.size w12 _).mono HB12.out.size)) (Nat.le_refl _)).mono (Nat.le_refl _) HB12.out.size)).mono ?_; rintro e w13 ⟨a0_vG_13, c0_vG_13, a1_vG_13, c1_vG_13, rfl, ho13, hb13⟩; have hst13 : Below w12.heap.size w12 w13 := Below.trans (by repeat (first | (with_reducible exact Below.refl _ _) | (with_reducible apply Below.drew) | (with_reducible refine below_drewN ?_ _) | (refine Below.setCell ?_ (by simp <;> omega) _) | (refine Below.alloc ?_ (by simp <;> omega) _)) : Below w12.heap.size w12 _) (hb13.mono (Below.size (by repeat (first | (with_reducible exact Below.refl _ _) | (with_reducible apply Below.drew) | (with_reducible refine below_drewN ?_ _) | (refine Below.setCell ?_ (by simp <;> omega) _) | (refine Below.alloc ?_ (by simp <;> omega) _)) : Below w12.heap.size w12 _))); have hr13 : w12.heap.size ≤ w13.heap.size := Nat.le_trans (by first | exact Nat.le_refl _ | (simp; done) | (simp; omega) | (simp [World.setCell]; done) | (simp [World.setCell]; omega)) hb13.size; have sz13_paG : w.heap.size < w13.heap.size := Nat.lt_of_lt_of_le sz12_paG hst13.size; have bx13_paG_0 : w13.cell? ⟨w.heap.size, 0, none⟩ = some (.slice a0_vG vG.fSymbols.length c0_vG) := (hst13.cell (p := ⟨w.heap.size, 0, none⟩) sz12_paG).trans bx12_paG_0; have bx13_paG_1 : w13.cell? ⟨w.heap.size, 1, none⟩ = some (.slice a1_vG vG.fRules.length c1_vG) := (hst13.cell (p := ⟨w.heap.size, 1, none⟩) sz12_paG).trans bx12_paG_1; have sz13_paR : w.heap.size + 1 < w13.heap.size := Nat.lt_of_lt_of_le sz12_paR hst13.size; have bx13_paR_0 : w13.cell? ⟨w.heap.size + 1, 0, none⟩ = some (.string vR.fName) := (hst13.cell (p := ⟨w.heap.size + 1, 0, none⟩) sz12_paR).trans bx12_paR_0; have bx13_paR_1 : w13.cell? ⟨w.heap.size + 1, 1, none⟩ = some (.string vR.fLeft) := (hst13.cell (p := ⟨w.heap.size + 1, 1, none⟩) sz12_paR).trans bx12_paR_1; have bx13_paR_2 : w13.cell? ⟨w.heap.size + 1, 2, none⟩ = some (.slice a2_vR vR.fRight.length c2_vR) := (hst13.cell (p := ⟨w.heap.size + 1, 2, none⟩) sz12_paR).trans bx12_paR_2; have bx13_paR_3 : w13.cell? ⟨w.heap.size + 1, 3, none⟩ = some (.bool vR.fLiteral) := (hst13.cell (p := ⟨w.heap.size + 1, 3, none⟩) sz12_paR).trans bx12_paR_3; have bx13_paR_4 : w13.cell? ⟨w.heap.size + 1, 4, none⟩ = some (.slice a4_vR vR.fEquations.length c4_vR) := (hst13.cell (p := ⟨w.heap.size + 1, 4, none⟩) sz12_paR).trans bx12_paR_4; have bx13_paR_5 : w13.cell? ⟨w.heap.size + 1, 5, none⟩ = some (.slice a5_vR vR.fContributions.length c5_vR) := (hst13.cell (p := ⟨w.heap.size + 1, 5, none⟩) sz12_paR).trans bx12_paR_5; have sz13_paC : w.heap.size + 2 < w13.heap.size := Nat.lt_of_lt_of_le sz12_paC hst13.size; have bx13_paC_0 : w13.cell? ⟨w.heap.size + 2, 0, none⟩ = some (.int .i64 vC.fN) := (hst13.cell (p := ⟨w.heap.size + 2, 0, none⟩) sz12_paC).trans bx12_paC_0; have bx13_paC_1 : w13.cell? ⟨w.heap.size + 2, 1, none⟩ = some (.slice a1_vC vC.fRows.length c1_vC) := (hst13.cell (p := ⟨w.heap.size + 2, 1, none⟩) sz12_paC).trans bx12_paC_1; have sz13_w0 : bV7 < w13.heap.size := Nat.lt_of_lt_of_le sz12_w0 hst13.size; have bx13_w0_0 : w13.cell? ⟨bV7, 0, none⟩ = some (.int .i64 (summ vG vR vC).fN) := (hst13.cell (p := ⟨bV7, 0, none⟩) sz12_w0).trans bx12_w0_0; have bx13_w0_1 : w13.cell? ⟨bV7, 1, none⟩ = some (.slice a1_R_7 (summ vG vR vC).fRows.length c1_R_7) := (hst13.cell (p := ⟨bV7, 1, none⟩) sz12_w0).trans bx12_w0_1; have sz13_x0 : w8.heap.size < w13.heap.size := Nat.lt_of_lt_of_le sz12_x0 hst13.size; have bx13_x0_0 : w13.cell? ⟨w8.heap.size, 0, none⟩ = some (.slice a0_vG_8 vG.fSymbols.length c0_vG_8) := (hst13.cell (p := ⟨w8.heap.size, 0, none⟩) sz12_x0).trans bx12_x0_0; have bx13_x0_1 : w13.cell? ⟨w8.heap.size, 1, none⟩ = some (.slice a1_vG_8 vG.fRules.length c1_vG_8) := (hst13.cell (p := ⟨w8.heap.size, 1, none⟩) sz12_x0).trans bx12_x0_1; have sz13_x1 : w9.heap.size < w13.heap.size := Nat.lt_of_lt_of_le sz12_x1 hst13.size; have bx13_x1_0 : w13.cell? ⟨w9.heap.size, 0, none⟩ = some (.string vR.fName) := (hst13.cell (p := ⟨w9.heap.size, 0, none⟩) sz12_x1).trans bx12_x1_0; have bx13_x1_1 : w13.cell? ⟨w9.heap.size, 1, none⟩ = some (.string vR.fLeft) := (hst13.cell (p := ⟨w9.heap.size, 1, none⟩) sz12_x1).trans bx12_x1_1; have bx13_x1_2 : w13.cell? ⟨w9.heap.size, 2, none⟩ = some (.slice a2_vR_9 vR.fRight.length c2_vR_9) := (hst13.cell (p := ⟨w9.heap.size, 2, none⟩) sz12_x1).trans bx12_x1_2; have bx13_x1_3 : w13.cell? ⟨w9.heap.size, 3, none⟩ = some (.bool vR.fLiteral) := (hst13.cell (p := ⟨w9.heap.size, 3, none⟩) sz12_x1).trans bx12_x1_3; have bx13_x1_4 : w13.cell? ⟨w9.heap.size, 4, none⟩ = some (.slice a4_vR_9 vR.fEquations.length c4_vR_9) := (hst13.cell (p := ⟨w9.heap.size, 4, none⟩) sz12_x1).trans bx12_x1_4; have bx13_x1_5 : w13.cell? ⟨w9.heap.size, 5, none⟩ = some (.slice a5_vR_9 vR.fContributions.length c5_vR_9) := (hst13.cell (p := ⟨w9.heap.size, 5, none⟩) sz12_x1).trans bx12_x1_5; have sz13_x2 : w10.heap.size < w13.heap.size := Nat.lt_of_lt_of_le sz12_x2 hst13.size; have bx13_x2_0 : w13.cell? ⟨w10.heap.size, 0, none⟩ = some (.int .i64 vC.fN) := (hst13.cell (p := ⟨w10.heap.size, 0, none⟩) sz12_x2).trans bx12_x2_0; have bx13_x2_1 : w13.cell? ⟨w10.heap.size, 1, none⟩ = some (.slice a1_vC_10 vC.fRows.length c1_vC_10) := (hst13.cell (p := ⟨w10.heap.size, 1, none⟩) sz12_x2).trans bx12_x2_1; have sz13_g0 : w11.heap.size < w13.heap.size := Nat.lt_of_lt_of_le sz12_g0 hst13.size; have bx13_g0_0 : w13.cell? ⟨w11.heap.size, 0, none⟩ = some (.int .i64 (summ vG vR vC).fN) := (hst13.cell (p := ⟨w11.heap.size, 0, none⟩) sz12_g0).trans bx12_g0_0; have bx13_g0_1 : w13.cell? ⟨w11.heap.size, 1, none⟩ = some (.slice a1_R_11 (summ vG vR vC).fRows.length c1_R_11) := (hst13.cell (p := ⟨w11.heap.size, 1, none⟩) sz12_g0).trans bx12_g0_1; have HO13_1_R_7 := Lib.hid (HO12_1_R_7.out.kept (Kept.of_below_all hst13)); have HO13_0_vG_8 := Lib.hid (HO12_0_vG_8.out.kept (Kept.of_below_all hst13)); have HO13_1_vG_8 := Lib.hid (HO12_1_vG_8.out.kept (Kept.of_below_all hst13)); have HO13_2_vR_9 := Lib.hid (HO12_2_vR_9.out.kept (Kept.of_below_all hst13)); have HO13_4_vR_9 := Lib.hid (HO12_4_vR_9.out.kept (Kept.of_below_all hst13)); have HO13_5_vR_9 := Lib.hid (HO12_5_vR_9.out.kept (Kept.of_below_all hst13)); have HO13_1_vC_10 := Lib.hid (HO12_1_vC_10.out.kept (Kept.of_below_all hst13)); have HO13_1_R_11 := Lib.hid (HO12_1_R_11.out.kept (Kept.of_below_all hst13)); have HR13_vG_8 := Lib.hid (HR12_vG_8.out.kept (Kept.of_below_all hst13)); have HR13_vR_9 := Lib.hid (HR12_vR_9.out.kept (Kept.of_below_all hst13)); have HR13_vC_10 := Lib.hid (HR12_vC_10.out.kept (Kept.of_below_all hst13)); have HO13_0_vG_13 := Lib.hid (show Own w13 (fun y => w12.heap.size ≤ y ∧ y < w13.heap.size) (.sl 2 vG.fSymbols.length (fun k => DSymbol.ct (vG.fSymbols.getD k default))) (.slice a0_vG_13 vG.fSymbols.length c0_vG_13) from Own.sub (F := fun y => _ ≤ y ∧ y < _) (OwnR.at ho13 0 (by decide)) (fun y hy => ⟨Nat.le_trans (by first | exact Nat.le_refl _ | (simp; done) | (simp; omega) | (simp [World.setCell]; done) | (simp [World.setCell]; omega)) hy.1, hy.2⟩)); have HO13_1_vG_13 := Lib.hid (show Own w13 (fun y => w12.heap.size ≤ y ∧ y < w13.heap.size) (.sl 6 vG.fRules.length (fun k => DRule.ct (vG.fRules.getD k default))) (.slice a1_vG_13 vG.fRules.length c1_vG_13) from Own.sub (F := fun y => _ ≤ y ∧ y < _) (OwnR.at ho13 1 (by decide)) (fun y hy => ⟨Nat.le_trans (by first | exact Nat.le_refl _ | (simp; done) | (simp; omega) | (simp [World.setCell]; done) | (simp [World.setCell]; omega)) hy.1, hy.2⟩)); have HB13 := Lib.hid (HB12.out.trans (hst13.mono HB12.out.size)); clear bx12_paG_0 bx12_paG_1 sz12_paG bx12_paR_0 bx12_paR_1 bx12_paR_2 bx12_paR_3 bx12_paR_4 bx12_paR_5 sz12_paR bx12_paC_0 bx12_paC_1 sz12_paC bx12_w0_0 bx12_w0_1 sz12_w0 bx12_x0_0 bx12_x0_1 sz12_x0 bx12_x1_0 bx12_x1_1 bx12_x1_2 bx12_x1_3 bx12_x1_4 bx12_x1_5 sz12_x1 bx12_x2_0 bx12_x2_1 sz12_x2 bx12_g0_0 bx12_g0_1 sz12_g0 HO12_1_R_7 HO12_0_vG_8 HO12_1_vG_8 HO12_2_vR_9 HO12_4_vR_9 HO12_5_vR_9 HO12_1_vC_10 HO12_1_R_11 HR12_vG_8 HR12_vR_9 HR12_vC_10 ho13 hb13 hst13 HB12) | (go_at_call 13; refine (laws_eqGrammar (c0 := c0_vG_8) (c1 := c1_vG_8) (c0q := c0_vG_13) (c1q := c1_vG_13) vG hq_vG _ (Below.size (by repeat (first | (with_reducible exact Below.refl _ _) | (with_reducible apply Below.drew) | (with_reducible refine below_drewN ?_ _) | (refine Below.setCell ?_ (by simp <;> omega) _) | (refine Below.alloc ?_ (by simp <;> omega) _)) : Below w13.heap.size w13 _)) (Below.size (by repeat (first | (with_reducible exact Below.refl _ _) | (with_reducible apply Below.drew) | (with_reducible refine below_drewN ?_ _) | (refine Below.setCell ?_ (by simp <;> omega) _) | (refine Below.alloc ?_ (by simp <;> omega) _)) : Below w13.heap.size w13 _)) ((Sl.of (HO13_0_vG_8.out.lies (lo := 0) (hi := w13.heap.size) (fun y hy => ⟨Nat.zero_le _, by have := hy.2; omega⟩))).later (by repeat (first | (with_reducible exact Below.refl _ _) | (with_reducible apply Below.drew) | (with_reducible refine below_drewN ?_ _) | (refine Below.setCell ?_ (by simp <;> omega) _) | (refine Below.alloc ?_ (by simp <;> omega) _)) : Below w13.heap.size w13 _) (Nat.le_refl _)) ((Sl.of (HO13_1_vG_8.out.lies (lo := 0) (hi := w13.heap.size) (fun y hy => ⟨Nat.zero_le _, by have := hy.2; omega⟩))).later (by repeat (first | (with_reducible exact Below.refl _ _) | (with_reducible apply Below.drew) | (with_reducible refine below_drewN ?_ _) | (refine Below.setCell ?_ (by simp <;> omega) _) | (refine Below.alloc ?_ (by simp <;> omega) _)) : Below w13.heap.size w13 _) (Nat.le_refl _)) ((Sl.of (HO13_0_vG_13.out.lies (lo := 0) (hi := w13.heap.size) (fun y hy => ⟨Nat.zero_le _, by have := hy.2; omega⟩))).later (by repeat (first | (with_reducible exact Below.refl _ _) | (with_reducible apply Below.drew) | (with_reducible refine below_drewN ?_ _) | (refine Below.setCell ?_ (by simp <;> omega) _) | (refine Below.alloc ?_ (by simp <;> omega) _)) : Below w13.heap.size w13 _) (Nat.le_refl _)) ((Sl.of (HO13_1_vG_13.out.lies (lo := 0) (hi := w13.heap.size) (fun y hy => ⟨Nat.zero_le _, by have := hy.2; omega⟩))).later (by repeat (first | (with_reducible exact Below.refl _ _) | (with_reducible apply Below.drew) | (with_reducible refine below_drewN ?_ _) | (refine Below.setCell ?_ (by simp <;> omega) _) | (refine Below.alloc ?_ (by simp <;> omega) _)) : Below w13.heap.size w13 _) (Nat.le_refl _))).mono ?_; rintro e w14 ⟨rfl, hb14⟩; have hst14 : Below w13.heap.size w13 w14 := Below.trans (by repeat (first | (with_reducible exact Below.refl _ _) | (with_reducible apply Below.drew) | (with_reducible refine below_drewN ?_ _) | (refine Below.setCell ?_ (by simp <;> omega) _) | (refine Below.alloc ?_ (by simp <;> omega) _)) : Below w13.heap.size w13 _) (hb14.mono (Below.size (by repeat (first | (with_reducible exact Below.refl _ _) | (with_reducible apply Below.drew) | (with_reducible refine below_drewN ?_ _) | (refine Below.setCell ?_ (by simp <;> omega) _) | (refine Below.alloc ?_ (by simp <;> omega) _)) : Below w13.heap.size w13 _))); have hr14 : w13.heap.size ≤ w14.heap.size := Nat.le_trans (by first | exact Nat.le_refl _ | (simp; done) | (simp; omega) | (simp [World.setCell]; done) | (simp [World.setCell]; omega)) hb14.size; have sz14_paG : w.heap.size < w14.heap.size := Nat.lt_of_lt_of_le sz13_paG hst14.size; have bx14_paG_0 : w14.cell? ⟨w.heap.size, 0, none⟩ = some (.slice a0_vG vG.fSymbols.length c0_vG) := (hst14.cell (p := ⟨w.heap.size, 0, none⟩) sz13_paG).trans bx13_paG_0; have bx14_paG_1 : w14.cell? ⟨w.heap.size, 1, none⟩ = some (.slice a1_vG vG.fRules.length c1_vG) := (hst14.cell (p := ⟨w.heap.size, 1, none⟩) sz13_paG).trans bx13_paG_1; have sz14_paR : w.heap.size + 1 < w14.heap.size := Nat.lt_of_lt_of_le sz13_paR hst14.size; have bx14_paR_0 : w14.cell? ⟨w.heap.size + 1, 0, none⟩ = some (.string vR.fName) := (hst14.cell (p := ⟨w.heap.size + 1, 0, none⟩) sz13_paR).trans bx13_paR_0; have bx14_paR_1 : w14.cell? ⟨w.heap.size + 1, 1, none⟩ = some (.string vR.fLeft) := (hst14.cell (p := ⟨w.heap.size + 1, 1, none⟩) sz13_paR).trans bx13_paR_1; have bx14_paR_2 : w14.cell? ⟨w.heap.size + 1, 2, none⟩ = some (.slice a2_vR vR.fRight.length c2_vR) := (hst14.cell (p := ⟨w.heap.size + 1, 2, none⟩) sz13_paR).trans bx13_paR_2; have bx14_paR_3 : w14.cell? ⟨w.heap.size + 1, 3, none⟩ = some (.bool vR.fLiteral) := (hst14.cell (p := ⟨w.heap.size + 1, 3, none⟩) sz13_paR).trans bx13_paR_3; have bx14_paR_4 : w14.cell? ⟨w.heap.size + 1, 4, none⟩ = some (.slice a4_vR vR.fEquations.length c4_vR) := (hst14.cell (p := ⟨w.heap.size + 1, 4, none⟩) sz13_paR).trans bx13_paR_4; have bx14_paR_5 : w14.cell? ⟨w.heap.size + 1, 5, none⟩ = some (.slice a5_vR vR.fContributions.length c5_vR) := (hst14.cell (p := ⟨w.heap.size + 1, 5, none⟩) sz13_paR).trans bx13_paR_5; have sz14_paC : w.heap.size + 2 < w14.heap.size := Nat.lt_of_lt_of_le sz13_paC hst14.size; have bx14_paC_0 : w14.cell? ⟨w.heap.size + 2, 0, none⟩ = some (.int .i64 vC.fN) := (hst14.cell (p := ⟨w.heap.size + 2, 0, none⟩) sz13_paC).trans bx13_paC_0; have bx14_paC_1 : w14.cell? ⟨w.heap.size + 2, 1, none⟩ = some (.slice a1_vC vC.fRows.length c1_vC) := (hst14.cell (p := ⟨w.heap.size + 2, 1, none⟩) sz13_paC).trans bx13_paC_1; have sz14_w0 : bV7 < w14.heap.size := Nat.lt_of_lt_of_le sz13_w0 hst14.size; have bx14_w0_0 : w14.cell? ⟨bV7, 0, none⟩ = some (.int .i64 (summ vG vR vC).fN) := (hst14.cell (p := ⟨bV7, 0, none⟩) sz13_w0).trans bx13_w0_0; have bx14_w0_1 : w14.cell? ⟨bV7, 1, none⟩ = some (.slice a1_R_7 (summ vG vR vC).fRows.length c1_R_7) := (hst14.cell (p := ⟨bV7, 1, none⟩) sz13_w0).trans bx13_w0_1; have sz14_x0 : w8.heap.size < w14.heap.size := Nat.lt_of_lt_of_le sz13_x0 hst14.size; have bx14_x0_0 : w14.cell? ⟨w8.heap.size, 0, none⟩ = some (.slice a0_vG_8 vG.fSymbols.length c0_vG_8) := (hst14.cell (p := ⟨w8.heap.size, 0, none⟩) sz13_x0).trans bx13_x0_0; have bx14_x0_1 : w14.cell? ⟨w8.heap.size, 1, none⟩ = some (.slice a1_vG_8 vG.fRules.length c1_vG_8) := (hst14.cell (p := ⟨w8.heap.size, 1, none⟩) sz13_x0).trans bx13_x0_1; have sz14_x1 : w9.heap.size < w14.heap.size := Nat.lt_of_lt_of_le sz13_x1 hst14.size; have bx14_x1_0 : w14.cell? ⟨w9.heap.size, 0, none⟩ = some (.string vR.fName) := (hst14.cell (p := ⟨w9.heap.size, 0, none⟩) sz13_x1).trans bx13_x1_0; have bx14_x1_1 : w14.cell? ⟨w9.heap.size, 1, none⟩ = some (.string vR.fLeft) := (hst14.cell (p := ⟨w9.heap.size, 1, none⟩) sz13_x1).trans bx13_x1_1; have bx14_x1_2 : w14.cell? ⟨w9.heap.size, 2, none⟩ = some (.slice a2_vR_9 vR.fRight.length c2_vR_9) := (hst14.cell (p := ⟨w9.heap.size, 2, none⟩) sz13_x1).trans bx13_x1_2; have bx14_x1_3 : w14.cell? ⟨w9.heap.size, 3, none⟩ = some (.bool vR.fLiteral) := (hst14.cell (p := ⟨w9.heap.size, 3, none⟩) sz13_x1).trans bx13_x1_3; have bx14_x1_4 : w14.cell? ⟨w9.heap.size, 4, none⟩ = some (.slice a4_vR_9 vR.fEquations.length c4_vR_9) := (hst14.cell (p := ⟨w9.heap.size, 4, none⟩) sz13_x1).trans bx13_x1_4; have bx14_x1_5 : w14.cell? ⟨w9.heap.size, 5, none⟩ = some (.slice a5_vR_9 vR.fContributions.length c5_vR_9) := (hst14.cell (p := ⟨w9.heap.size, 5, none⟩) sz13_x1).trans bx13_x1_5; have sz14_x2 : w10.heap.size < w14.heap.size := Nat.lt_of_lt_of_le sz13_x2 hst14.size; have bx14_x2_0 : w14.cell? ⟨w10.heap.size, 0, none⟩ = some (.int .i64 vC.fN) := (hst14.cell (p := ⟨w10.heap.size, 0, none⟩) sz13_x2).trans bx13_x2_0; have bx14_x2_1 : w14.cell? ⟨w10.heap.size, 1, none⟩ = some (.slice a1_vC_10 vC.fRows.length c1_vC_10) := (hst14.cell (p := ⟨w10.heap.size, 1, none⟩) sz13_x2).trans bx13_x2_1; have sz14_g0 : w11.heap.size < w14.heap.size := Nat.lt_of_lt_of_le sz13_g0 hst14.size; have bx14_g0_0 : w14.cell? ⟨w11.heap.size, 0, none⟩ = some (.int .i64 (summ vG vR vC).fN) := (hst14.cell (p := ⟨w11.heap.size, 0, none⟩) sz13_g0).trans bx13_g0_0; have bx14_g0_1 : w14.cell? ⟨w11.heap.size, 1, none⟩ = some (.slice a1_R_11 (summ vG vR vC).fRows.length c1_R_11) := (hst14.cell (p := ⟨w11.heap.size, 1, none⟩) sz13_g0).trans bx13_g0_1; have HO14_1_R_7 := Lib.hid (HO13_1_R_7.out.kept (Kept.of_below_all hst14)); have HO14_0_vG_8 := Lib.hid (HO13_0_vG_8.out.kept (Kept.of_below_all hst14)); have HO14_1_vG_8 := Lib.hid (HO13_1_vG_8.out.kept (Kept.of_below_all hst14)); have HO14_2_vR_9 := Lib.hid (HO13_2_vR_9.out.kept (Kept.of_below_all hst14)); have HO14_4_vR_9 := Lib.hid (HO13_4_vR_9.out.kept (Kept.of_below_all hst14)); have HO14_5_vR_9 := Lib.hid (HO13_5_vR_9.out.kept (Kept.of_below_all hst14)); have HO14_1_vC_10 := Lib.hid (HO13_1_vC_10.out.kept (Kept.of_below_all hst14)); have HO14_1_R_11 := Lib.hid (HO13_1_R_11.out.kept (Kept.of_below_all hst14)); have HO14_0_vG_13 := Lib.hid (HO13_0_vG_13.out.kept (Kept.of_below_all hst14)); have HO14_1_vG_13 := Lib.hid (HO13_1_vG_13.out.kept (Kept.of_below_all hst14)); have HR14_vG_8 := Lib.hid (HR13_vG_8.out.kept (Kept.of_below_all hst14)); have HR14_vR_9 := Lib.hid (HR13_vR_9.out.kept (Kept.of_below_all hst14)); have HR14_vC_10 := Lib.hid (HR13_vC_10.out.kept (Kept.of_below_all hst14)); have HB14 := Lib.hid (HB13.out.trans (hst14.mono HB13.out.size)); clear bx13_paG_0 bx13_paG_1 sz13_paG bx13_paR_0 bx13_paR_1 bx13_paR_2 bx13_paR_3 bx13_paR_4 bx13_paR_5 sz13_paR bx13_paC_0 bx13_paC_1 sz13_paC bx13_w0_0 bx13_w0_1 sz13_w0 bx13_x0_0 bx13_x0_1 sz13_x0 bx13_x1_0 bx13_x1_1 bx13_x1_2 bx13_x1_3 bx13_x1_4 bx13_x1_5 sz13_x1 bx13_x2_0 bx13_x2_1 sz13_x2 bx13_g0_0 bx13_g0_1 sz13_g0 HO13_1_R_7 HO13_0_vG_8 HO13_1_vG_8 HO13_2_vR_9 HO13_4_vR_9 HO13_5_vR_9 HO13_1_vC_10 HO13_1_R_11 HO13_0_vG_13 HO13_1_vG_13 HR13_vG_8 HR13_vR_9 HR13_vC_10 hb14 hst14 HB13)))
          all_goals
            go_wp2_with fail
            go_region_with ((first | (go_at_call 9; refine (laws_toRule (c2 := c2_vR) (c4 := c4_vR) (c5 := c5_vR) vR hq_vR _ (Below.size (by repeat (first | (with_reducible exact Below.refl _ _) | (with_reducible apply Below.drew) | (with_reducible refine below_drewN ?_ _) | (refine Below.setCell ?_ (by simp <;> omega) _) | (refine Below.alloc ?_ (by simp <;> omega) _)) : Below w14.heap.size w14 _)) ((HS_2_vR.out.later (HB14.out.trans ((by repeat (first | (with_reducible exact Below.refl _ _) | (with_reducible apply Below.drew) | (with_reducible refine below_drewN ?_ _) | (refine Below.setCell ?_ (by simp <;> omega) _) | (refine Below.alloc ?_ (by simp <;> omega) _)) : Below w14.heap.size w14 _).mono HB14.out.size)) (Nat.le_refl _)).mono (Nat.le_refl _) HB14.out.size) ((HS_4_vR.out.later (HB14.out.trans ((by repeat (first | (with_reducible exact Below.refl _ _) | (with_reducible apply Below.drew) | (with_reducible refine below_drewN ?_ _) | (refine Below.setCell ?_ (by simp <;> omega) _) | (refine Below.alloc ?_ (by simp <;> omega) _)) : Below w14.heap.size w14 _).mono HB14.out.size)) (Nat.le_refl _)).mono (Nat.le_refl _) HB14.out.size) ((HS_5_vR.out.later (HB14.out.trans ((by repeat (first | (with_reducible exact Below.refl _ _) | (with_reducible apply Below.drew) | (with_reducible refine below_drewN ?_ _) | (refine Below.setCell ?_ (by simp <;> omega) _) | (refine Below.alloc ?_ (by simp <;> omega) _)) : Below w14.heap.size w14 _).mono HB14.out.size)) (Nat.le_refl _)).mono (Nat.le_refl _) HB14.out.size)).mono ?_; rintro e w15 ⟨a2_vR_15, c2_vR_15, a4_vR_15, c4_vR_15, a5_vR_15, c5_vR_15, rfl, ho15, hb15⟩; have hst15 : Below w14.heap.size w14 w15 := Below.trans (by repeat (first | (with_reducible exact Below.refl _ _) | (with_reducible apply Below.drew) | (with_reducible refine below_drewN ?_ _) | (refine Below.setCell ?_ (by simp <;> omega) _) | (refine Below.alloc ?_ (by simp <;> omega) _)) : Below w14.heap.size w14 _) (hb15.mono (Below.size (by repeat (first | (with_reducible exact Below.refl _ _) | (with_reducible apply Below.drew) | (with_reducible refine below_drewN ?_ _) | (refine Below.setCell ?_ (by simp <;> omega) _) | (refine Below.alloc ?_ (by simp <;> omega) _)) : Below w14.heap.size w14 _))); have hr15 : w14.heap.size ≤ w15.heap.size := Nat.le_trans (by first | exact Nat.le_refl _ | (simp; done) | (simp; omega) | (simp [World.setCell]; done) | (simp [World.setCell]; omega)) hb15.size; have sz15_paG : w.heap.size < w15.heap.size := Nat.lt_of_lt_of_le sz14_paG hst15.size; have bx15_paG_0 : w15.cell? ⟨w.heap.size, 0, none⟩ = some (.slice a0_vG vG.fSymbols.length c0_vG) := (hst15.cell (p := ⟨w.heap.size, 0, none⟩) sz14_paG).trans bx14_paG_0; have bx15_paG_1 : w15.cell? ⟨w.heap.size, 1, none⟩ = some (.slice a1_vG vG.fRules.length c1_vG) := (hst15.cell (p := ⟨w.heap.size, 1, none⟩) sz14_paG).trans bx14_paG_1; have sz15_paR : w.heap.size + 1 < w15.heap.size := Nat.lt_of_lt_of_le sz14_paR hst15.size; have bx15_paR_0 : w15.cell? ⟨w.heap.size + 1, 0, none⟩ = some (.string vR.fName) := (hst15.cell (p := ⟨w.heap.size + 1, 0, none⟩) sz14_paR).trans bx14_paR_0; have bx15_paR_1 : w15.cell? ⟨w.heap.size + 1, 1, none⟩ = some (.string vR.fLeft) := (hst15.cell (p := ⟨w.heap.size + 1, 1, none⟩) sz14_paR).trans bx14_paR_1; have bx15_paR_2 : w15.cell? ⟨w.heap.size + 1, 2, none⟩ = some (.slice a2_vR vR.fRight.length c2_vR) := (hst15.cell (p := ⟨w.heap.size + 1, 2, none⟩) sz14_paR).trans bx14_paR_2; have bx15_paR_3 : w15.cell? ⟨w.heap.size + 1, 3, none⟩ = some (.bool vR.fLiteral) := (hst15.cell (p := ⟨w.heap.size + 1, 3, none⟩) sz14_paR).trans bx14_paR_3; have bx15_paR_4 : w15.cell? ⟨w.heap.size + 1, 4, none⟩ = some (.slice a4_vR vR.fEquations.length c4_vR) := (hst15.cell (p := ⟨w.heap.size + 1, 4, none⟩) sz14_paR).trans bx14_paR_4; have bx15_paR_5 : w15.cell? ⟨w.heap.size + 1, 5, none⟩ = some (.slice a5_vR vR.fContributions.length c5_vR) := (hst15.cell (p := ⟨w.heap.size + 1, 5, none⟩) sz14_paR).trans bx14_paR_5; have sz15_paC : w.heap.size + 2 < w15.heap.size := Nat.lt_of_lt_of_le sz14_paC hst15.size; have bx15_paC_0 : w15.cell? ⟨w.heap.size + 2, 0, none⟩ = some (.int .i64 vC.fN) := (hst15.cell (p := ⟨w.heap.size + 2, 0, none⟩) sz14_paC).trans bx14_paC_0; have bx15_paC_1 : w15.cell? ⟨w.heap.size + 2, 1, none⟩ = some (.slice a1_vC vC.fRows.length c1_vC) := (hst15.cell (p := ⟨w.heap.size + 2, 1, none⟩) sz14_paC).trans bx14_paC_1; have sz15_w0 : bV7 < w15.heap.size := Nat.lt_of_lt_of_le sz14_w0 hst15.size; have bx15_w0_0 : w15.cell? ⟨bV7, 0, none⟩ = some (.int .i64 (summ vG vR vC).fN) := (hst15.cell (p := ⟨bV7, 0, none⟩) sz14_w0).trans bx14_w0_0; have bx15_w0_1 : w15.cell? ⟨bV7, 1, none⟩ = some (.slice a1_R_7 (summ vG vR vC).fRows.length c1_R_7) := (hst15.cell (p := ⟨bV7, 1, none⟩) sz14_w0).trans bx14_w0_1; have sz15_x0 : w8.heap.size < w15.heap.size := Nat.lt_of_lt_of_le sz14_x0 hst15.size; have bx15_x0_0 : w15.cell? ⟨w8.heap.size, 0, none⟩ = some (.slice a0_vG_8 vG.fSymbols.length c0_vG_8) := (hst15.cell (p := ⟨w8.heap.size, 0, none⟩) sz14_x0).trans bx14_x0_0; have bx15_x0_1 : w15.cell? ⟨w8.heap.size, 1, none⟩ = some (.slice a1_vG_8 vG.fRules.length c1_vG_8) := (hst15.cell (p := ⟨w8.heap.size, 1, none⟩) sz14_x0).trans bx14_x0_1; have sz15_x1 : w9.heap.size < w15.heap.size := Nat.lt_of_lt_of_le sz14_x1 hst15.size; have bx15_x1_0 : w15.cell? ⟨w9.heap.size, 0, none⟩ = some (.string vR.fName) := (hst15.cell (p := ⟨w9.heap.size, 0, none⟩) sz14_x1).trans bx14_x1_0; have bx15_x1_1 : w15.cell? ⟨w9.heap.size, 1, none⟩ = some (.string vR.fLeft) := (hst15.cell (p := ⟨w9.heap.size, 1, none⟩) sz14_x1).trans bx14_x1_1; have bx15_x1_2 : w15.cell? ⟨w9.heap.size, 2, none⟩ = some (.slice a2_vR_9 vR.fRight.length c2_vR_9) := (hst15.cell (p := ⟨w9.heap.size, 2, none⟩) sz14_x1).trans bx14_x1_2; have bx15_x1_3 : w15.cell? ⟨w9.heap.size, 3, none⟩ = some (.bool vR.fLiteral) := (hst15.cell (p := ⟨w9.heap.size, 3, none⟩) sz14_x1).trans bx14_x1_3; have bx15_x1_4 : w15.cell? ⟨w9.heap.size, 4, none⟩ = some (.slice a4_vR_9 vR.fEquations.length c4_vR_9) := (hst15.cell (p := ⟨w9.heap.size, 4, none⟩) sz14_x1).trans bx14_x1_4; have bx15_x1_5 : w15.cell? ⟨w9.heap.size, 5, none⟩ = some (.slice a5_vR_9 vR.fContributions.length c5_vR_9) := (hst15.cell (p := ⟨w9.heap.size, 5, none⟩) sz14_x1).trans bx14_x1_5; have sz15_x2 : w10.heap.size < w15.heap.size := Nat.lt_of_lt_of_le sz14_x2 hst15.size; have bx15_x2_0 : w15.cell? ⟨w10.heap.size, 0, none⟩ = some (.int .i64 vC.fN) := (hst15.cell (p := ⟨w10.heap.size, 0, none⟩) sz14_x2).trans bx14_x2_0; have bx15_x2_1 : w15.cell? ⟨w10.heap.size, 1, none⟩ = some (.slice a1_vC_10 vC.fRows.length c1_vC_10) := (hst15.cell (p := ⟨w10.heap.size, 1, none⟩) sz14_x2).trans bx14_x2_1; have sz15_g0 : w11.heap.size < w15.heap.size := Nat.lt_of_lt_of_le sz14_g0 hst15.size; have bx15_g0_0 : w15.cell? ⟨w11.heap.size, 0, none⟩ = some (.int .i64 (summ vG vR vC).fN) := (hst15.cell (p := ⟨w11.heap.size, 0, none⟩) sz14_g0).trans bx14_g0_0; have bx15_g0_1 : w15.cell? ⟨w11.heap.size, 1, none⟩ = some (.slice a1_R_11 (summ vG vR vC).fRows.length c1_R_11) := (hst15.cell (p := ⟨w11.heap.size, 1, none⟩) sz14_g0).trans bx14_g0_1; have HO15_1_R_7 := Lib.hid (HO14_1_R_7.out.kept (Kept.of_below_all hst15)); have HO15_0_vG_8 := Lib.hid (HO14_0_vG_8.out.kept (Kept.of_below_all hst15)); have HO15_1_vG_8 := Lib.hid (HO14_1_vG_8.out.kept (Kept.of_below_all hst15)); have HO15_2_vR_9 := Lib.hid (HO14_2_vR_9.out.kept (Kept.of_below_all hst15)); have HO15_4_vR_9 := Lib.hid (HO14_4_vR_9.out.kept (Kept.of_below_all hst15)); have HO15_5_vR_9 := Lib.hid (HO14_5_vR_9.out.kept (Kept.of_below_all hst15)); have HO15_1_vC_10 := Lib.hid (HO14_1_vC_10.out.kept (Kept.of_below_all hst15)); have HO15_1_R_11 := Lib.hid (HO14_1_R_11.out.kept (Kept.of_below_all hst15)); have HO15_0_vG_13 := Lib.hid (HO14_0_vG_13.out.kept (Kept.of_below_all hst15)); have HO15_1_vG_13 := Lib.hid (HO14_1_vG_13.out.kept (Kept.of_below_all hst15)); have HR15_vG_8 := Lib.hid (HR14_vG_8.out.kept (Kept.of_below_all hst15)); have HR15_vR_9 := Lib.hid (HR14_vR_9.out.kept (Kept.of_below_all hst15)); have HR15_vC_10 := Lib.hid (HR14_vC_10.out.kept (Kept.of_below_all hst15)); have HO15_2_vR_15 := Lib.hid (show Own w15 (fun y => w14.heap.size ≤ y ∧ y < w15.heap.size) (.sl 1 vR.fRight.length (fun k => ictS (vR.fRight.getD k default))) (.slice a2_vR_15 vR.fRight.length c2_vR_15) from Own.sub (F := fun y => _ ≤ y ∧ y < _) (OwnR.at ho15 2 (by decide)) (fun y hy => ⟨Nat.le_trans (by first | exact Nat.le_refl _ | (simp; done) | (simp; omega) | (simp [World.setCell]; done) | (simp [World.setCell]; omega)) hy.1, hy.2⟩)); have HO15_4_vR_15 := Lib.hid (show Own w15 (fun y => w14.heap.size ≤ y ∧ y < w15.heap.size) (.sl 9 vR.fEquations.length (fun k => DEquation.ct (vR.fEquations.getD k default))) (.slice a4_vR_15 vR.fEquations.length c4_vR_15) from Own.sub (F := fun y => _ ≤ y ∧ y < _) (OwnR.at ho15 4 (by decide)) (fun y hy => ⟨Nat.le_trans (by first | exact Nat.le_refl _ | (simp; done) | (simp; omega) | (simp [World.setCell]; done) | (simp [World.setCell]; omega)) hy.1, hy.2⟩)); have HO15_5_vR_15 := Lib.hid (show Own w15 (fun y => w14.heap.size ≤ y ∧ y < w15.heap.size) (.sl 16 vR.fContributions.length (fun k => DContribution.ct (vR.fContributions.getD k default))) (.slice a5_vR_15 vR.fContributions.length c5_vR_15) from Own.sub (F := fun y => _ ≤ y ∧ y < _) (OwnR.at ho15 5 (by decide)) (fun y hy => ⟨Nat.le_trans (by first | exact Nat.le_refl _ | (simp; done) | (simp; omega) | (simp [World.setCell]; done) | (simp [World.setCell]; omega)) hy.1, hy.2⟩)); have HB15 := Lib.hid (HB14.out.trans (hst15.mono HB14.out.size)); clear bx14_paG_0 bx14_paG_1 sz14_paG bx14_paR_0 bx14_paR_1 bx14_paR_2 bx14_paR_3 bx14_paR_4 bx14_paR_5 sz14_paR bx14_paC_0 bx14_paC_1 sz14_paC bx14_w0_0 bx14_w0_1 sz14_w0 bx14_x0_0 bx14_x0_1 sz14_x0 bx14_x1_0 bx14_x1_1 bx14_x1_2 bx14_x1_3 bx14_x1_4 bx14_x1_5 sz14_x1 bx14_x2_0 bx14_x2_1 sz14_x2 bx14_g0_0 bx14_g0_1 sz14_g0 HO14_1_R_7 HO14_0_vG_8 HO14_1_vG_8 HO14_2_vR_9 HO14_4_vR_9 HO14_5_vR_9 HO14_1_vC_10 HO14_1_R_11 HO14_0_vG_13 HO14_1_vG_13 HR14_vG_8 HR14_vR_9 HR14_vC_10 ho15 hb15 hst15 HB14) | (go_at_call 14; refine (laws_eqRule (c2 := c2_vR_9) (c4 := c4_vR_9) (c5 := c5_vR_9) (c2q := c2_vR_15) (c4q := c4_vR_15) (c5q := c5_vR_15) vR hq_vR _ (Below.size (by repeat (first | (with_reducible exact Below.refl _ _) | (with_reducible apply Below.drew) | (with_reducible refine below_drewN ?_ _) | (refine Below.setCell ?_ (by simp <;> omega) _) | (refine Below.alloc ?_ (by simp <;> omega) _)) : Below w15.heap.size w15 _)) (Below.size (by repeat (first | (with_reducible exact Below.refl _ _) | (with_reducible apply Below.drew) | (with_reducible refine below_drewN ?_ _) | (refine Below.setCell ?_ (by simp <;> omega) _) | (refine Below.alloc ?_ (by simp <;> omega) _)) : Below w15.heap.size w15 _)) ((Sl.of (HO15_2_vR_9.out.lies (lo := 0) (hi := w15.heap.size) (fun y hy => ⟨Nat.zero_le _, by have := hy.2; omega⟩))).later (by repeat (first | (with_reducible exact Below.refl _ _) | (with_reducible apply Below.drew) | (with_reducible refine below_drewN ?_ _) | (refine Below.setCell ?_ (by simp <;> omega) _) | (refine Below.alloc ?_ (by simp <;> omega) _)) : Below w15.heap.size w15 _) (Nat.le_refl _)) ((Sl.of (HO15_4_vR_9.out.lies (lo := 0) (hi := w15.heap.size) (fun y hy => ⟨Nat.zero_le _, by have := hy.2; omega⟩))).later (by repeat (first | (with_reducible exact Below.refl _ _) | (with_reducible apply Below.drew) | (with_reducible refine below_drewN ?_ _) | (refine Below.setCell ?_ (by simp <;> omega) _) | (refine Below.alloc ?_ (by simp <;> omega) _)) : Below w15.heap.size w15 _) (Nat.le_refl _)) ((Sl.of (HO15_5_vR_9.out.lies (lo := 0) (hi := w15.heap.size) (fun y hy => ⟨Nat.zero_le _, by have := hy.2; omega⟩))).later (by repeat (first | (with_reducible exact Below.refl _ _) | (with_reducible apply Below.drew) | (with_reducible refine below_drewN ?_ _) | (refine Below.setCell ?_ (by simp <;> omega) _) | (refine Below.alloc ?_ (by simp <;> omega) _)) : Below w15.heap.size w15 _) (Nat.le_refl _)) ((Sl.of (HO15_2_vR_15.out.lies (lo := 0) (hi := w15.heap.size) (fun y hy => ⟨Nat.zero_le _, by have := hy.2; omega⟩))).later (by repeat (first | (with_reducible exact Below.refl _ _) | (with_reducible apply Below.drew) | (with_reducible refine below_drewN ?_ _) | (refine Below.setCell ?_ (by simp <;> omega) _) | (refine Below.alloc ?_ (by simp <;> omega) _)) : Below w15.heap.size w15 _) (Nat.le_refl _)) ((Sl.of (HO15_4_vR_15.out.lies (lo := 0) (hi := w15.heap.size) (fun y hy => ⟨Nat.zero_le _, by have := hy.2; omega⟩))).later (by repeat (first | (with_reducible exact Below.refl _ _) | (with_reducible apply Below.drew) | (with_reducible refine below_drewN ?_ _) | (refine Below.setCell ?_ (by simp <;> omega) _) | (refine Below.alloc ?_ (by simp <;> omega) _)) : Below w15.heap.size w15 _) (Nat.le_refl _)) ((Sl.of (HO15_5_vR_15.out.lies (lo := 0) (hi := w15.heap.size) (fun y hy => ⟨Nat.zero_le _, by have := hy.2; omega⟩))).later (by repeat (first | (with_reducible exact Below.refl _ _) | (with_reducible apply Below.drew) | (with_reducible refine below_drewN ?_ _) | (refine Below.setCell ?_ (by simp <;> omega) _) | (refine Below.alloc ?_ (by simp <;> omega) _)) : Below w15.heap.size w15 _) (Nat.le_refl _))).mono ?_; rintro e w16 ⟨rfl, hb16⟩; have hst16 : Below w15.heap.size w15 w16 := Below.trans (by repeat (first | (with_reducible exact Below.refl _ _) | (with_reducible apply Below.drew) | (with_reducible refine below_drewN ?_ _) | (refine Below.setCell ?_ (by simp <;> omega) _) | (refine Below.alloc ?_ (by simp <;> omega) _)) : Below w15.heap.size w15 _) (hb16.mono (Below.size (by repeat (first | (with_reducible exact Below.refl _ _) | (with_reducible apply Below.drew) | (with_reducible refine below_drewN ?_ _) | (refine Below.setCell ?_ (by simp <;> omega) _) | (refine Below.alloc ?_ (by simp <;> omega) _)) : Below w15.heap.size w15 _))); have hr16 : w15.heap.size ≤ w16.heap.size := Nat.le_trans (by first | exact Nat.le_refl _ | (simp; done) | (simp; omega) | (simp [World.setCell]; done) | (simp [World.setCell]; omega)) hb16.size; have sz16_paG : w.heap.size < w16.heap.size := Nat.lt_of_lt_of_le sz15_paG hst16.size; have bx16_paG_0 : w16.cell? ⟨w.heap.size, 0, none⟩ = some (.slice a0_vG vG.fSymbols.length c0_vG) := (hst16.cell (p := ⟨w.heap.size, 0, none⟩) sz15_paG).trans bx15_paG_0; have bx16_paG_1 : w16.cell? ⟨w.heap.size, 1, none⟩ = some (.slice a1_vG vG.fRules.length c1_vG) := (hst16.cell (p := ⟨w.heap.size, 1, none⟩) sz15_paG).trans bx15_paG_1; have sz16_paR : w.heap.size + 1 < w16.heap.size := Nat.lt_of_lt_of_le sz15_paR hst16.size; have bx16_paR_0 : w16.cell? ⟨w.heap.size + 1, 0, none⟩ = some (.string vR.fName) := (hst16.cell (p := ⟨w.heap.size + 1, 0, none⟩) sz15_paR).trans bx15_paR_0; have bx16_paR_1 : w16.cell? ⟨w.heap.size + 1, 1, none⟩ = some (.string vR.fLeft) := (hst16.cell (p := ⟨w.heap.size + 1, 1, none⟩) sz15_paR).trans bx15_paR_1; have bx16_paR_2 : w16.cell? ⟨w.heap.size + 1, 2, none⟩ = some (.slice a2_vR vR.fRight.length c2_vR) := (hst16.cell (p := ⟨w.heap.size + 1, 2, none⟩) sz15_paR).trans bx15_paR_2; have bx16_paR_3 : w16.cell? ⟨w.heap.size + 1, 3, none⟩ = some (.bool vR.fLiteral) := (hst16.cell (p := ⟨w.heap.size + 1, 3, none⟩) sz15_paR).trans bx15_paR_3; have bx16_paR_4 : w16.cell? ⟨w.heap.size + 1, 4, none⟩ = some (.slice a4_vR vR.fEquations.length c4_vR) := (hst16.cell (p := ⟨w.heap.size + 1, 4, none⟩) sz15_paR).trans bx15_paR_4; have bx16_paR_5 : w16.cell? ⟨w.heap.size + 1, 5, none⟩ = some (.slice a5_vR vR.fContributions.length c5_vR) := (hst16.cell (p := ⟨w.heap.size + 1, 5, none⟩) sz15_paR).trans bx15_paR_5; have sz16_paC : w.heap.size + 2 < w16.heap.size := Nat.lt_of_lt_of_le sz15_paC hst16.size; have bx16_paC_0 : w16.cell? ⟨w.heap.size + 2, 0, none⟩ = some (.int .i64 vC.fN) := (hst16.cell (p := ⟨w.heap.size + 2, 0, none⟩) sz15_paC).trans bx15_paC_0; have bx16_paC_1 : w16.cell? ⟨w.heap.size + 2, 1, none⟩ = some (.slice a1_vC vC.fRows.length c1_vC) := (hst16.cell (p := ⟨w.heap.size + 2, 1, none⟩) sz15_paC).trans bx15_paC_1; have sz16_w0 : bV7 < w16.heap.size := Nat.lt_of_lt_of_le sz15_w0 hst16.size; have bx16_w0_0 : w16.cell? ⟨bV7, 0, none⟩ = some (.int .i64 (summ vG vR vC).fN) := (hst16.cell (p := ⟨bV7, 0, none⟩) sz15_w0).trans bx15_w0_0; have bx16_w0_1 : w16.cell? ⟨bV7, 1, none⟩ = some (.slice a1_R_7 (summ vG vR vC).fRows.length c1_R_7) := (hst16.cell (p := ⟨bV7, 1, none⟩) sz15_w0).trans bx15_w0_1; have sz16_x0 : w8.heap.size < w16.heap.size := Nat.lt_of_lt_of_le sz15_x0 hst16.size; have bx16_x0_0 : w16.cell? ⟨w8.heap.size, 0, none⟩ = some (.slice a0_vG_8 vG.fSymbols.length c0_vG_8) := (hst16.cell (p := ⟨w8.heap.size, 0, none⟩) sz15_x0).trans bx15_x0_0; have bx16_x0_1 : w16.cell? ⟨w8.heap.size, 1, none⟩ = some (.slice a1_vG_8 vG.fRules.length c1_vG_8) := (hst16.cell (p := ⟨w8.heap.size, 1, none⟩) sz15_x0).trans bx15_x0_1; have sz16_x1 : w9.heap.size < w16.heap.size := Nat.lt_of_lt_of_le sz15_x1 hst16.size; have bx16_x1_0 : w16.cell? ⟨w9.heap.size, 0, none⟩ = some (.string vR.fName) := (hst16.cell (p := ⟨w9.heap.size, 0, none⟩) sz15_x1).trans bx15_x1_0; have bx16_x1_1 : w16.cell? ⟨w9.heap.size, 1, none⟩ = some (.string vR.fLeft) := (hst16.cell (p := ⟨w9.heap.size, 1, none⟩) sz15_x1).trans bx15_x1_1; have bx16_x1_2 : w16.cell? ⟨w9.heap.size, 2, none⟩ = some (.slice a2_vR_9 vR.fRight.length c2_vR_9) := (hst16.cell (p := ⟨w9.heap.size, 2, none⟩) sz15_x1).trans bx15_x1_2; have bx16_x1_3 : w16.cell? ⟨w9.heap.size, 3, none⟩ = some (.bool vR.fLiteral) := (hst16.cell (p := ⟨w9.heap.size, 3, none⟩) sz15_x1).trans bx15_x1_3; have bx16_x1_4 : w16.cell? ⟨w9.heap.size, 4, none⟩ = some (.slice a4_vR_9 vR.fEquations.length c4_vR_9) := (hst16.cell (p := ⟨w9.heap.size, 4, none⟩) sz15_x1).trans bx15_x1_4; have bx16_x1_5 : w16.cell? ⟨w9.heap.size, 5, none⟩ = some (.slice a5_vR_9 vR.fContributions.length c5_vR_9) := (hst16.cell (p := ⟨w9.heap.size, 5, none⟩) sz15_x1).trans bx15_x1_5; have sz16_x2 : w10.heap.size < w16.heap.size := Nat.lt_of_lt_of_le sz15_x2 hst16.size; have bx16_x2_0 : w16.cell? ⟨w10.heap.size, 0, none⟩ = some (.int .i64 vC.fN) := (hst16.cell (p := ⟨w10.heap.size, 0, none⟩) sz15_x2).trans bx15_x2_0; have bx16_x2_1 : w16.cell? ⟨w10.heap.size, 1, none⟩ = some (.slice a1_vC_10 vC.fRows.length c1_vC_10) := (hst16.cell (p := ⟨w10.heap.size, 1, none⟩) sz15_x2).trans bx15_x2_1; have sz16_g0 : w11.heap.size < w16.heap.size := Nat.lt_of_lt_of_le sz15_g0 hst16.size; have bx16_g0_0 : w16.cell? ⟨w11.heap.size, 0, none⟩ = some (.int .i64 (summ vG vR vC).fN) := (hst16.cell (p := ⟨w11.heap.size, 0, none⟩) sz15_g0).trans bx15_g0_0; have bx16_g0_1 : w16.cell? ⟨w11.heap.size, 1, none⟩ = some (.slice a1_R_11 (summ vG vR vC).fRows.length c1_R_11) := (hst16.cell (p := ⟨w11.heap.size, 1, none⟩) sz15_g0).trans bx15_g0_1; have HO16_1_R_7 := Lib.hid (HO15_1_R_7.out.kept (Kept.of_below_all hst16)); have HO16_0_vG_8 := Lib.hid (HO15_0_vG_8.out.kept (Kept.of_below_all hst16)); have HO16_1_vG_8 := Lib.hid (HO15_1_vG_8.out.kept (Kept.of_below_all hst16)); have HO16_2_vR_9 := Lib.hid (HO15_2_vR_9.out.kept (Kept.of_below_all hst16)); have HO16_4_vR_9 := Lib.hid (HO15_4_vR_9.out.kept (Kept.of_below_all hst16)); have HO16_5_vR_9 := Lib.hid (HO15_5_vR_9.out.kept (Kept.of_below_all hst16)); have HO16_1_vC_10 := Lib.hid (HO15_1_vC_10.out.kept (Kept.of_below_all hst16)); have HO16_1_R_11 := Lib.hid (HO15_1_R_11.out.kept (Kept.of_below_all hst16)); have HO16_0_vG_13 := Lib.hid (HO15_0_vG_13.out.kept (Kept.of_below_all hst16)); have HO16_1_vG_13 := Lib.hid (HO15_1_vG_13.out.kept (Kept.of_below_all hst16)); have HO16_2_vR_15 := Lib.hid (HO15_2_vR_15.out.kept (Kept.of_below_all hst16)); have HO16_4_vR_15 := Lib.hid (HO15_4_vR_15.out.kept (Kept.of_below_all hst16)); have HO16_5_vR_15 := Lib.hid (HO15_5_vR_15.out.kept (Kept.of_below_all hst16)); have HR16_vG_8 := Lib.hid (HR15_vG_8.out.kept (Kept.of_below_all hst16)); have HR16_vR_9 := Lib.hid (HR15_vR_9.out.kept (Kept.of_below_all hst16)); have HR16_vC_10 := Lib.hid (HR15_vC_10.out.kept (Kept.of_below_all hst16)); have HB16 := Lib.hid (HB15.out.trans (hst16.mono HB15.out.size)); clear bx15_paG_0 bx15_paG_1 sz15_paG bx15_paR_0 bx15_paR_1 bx15_paR_2 bx15_paR_3 bx15_paR_4 bx15_paR_5 sz15_paR bx15_paC_0 bx15_paC_1 sz15_paC bx15_w0_0 bx15_w0_1 sz15_w0 bx15_x0_0 bx15_x0_1 sz15_x0 bx15_x1_0 bx15_x1_1 bx15_x1_2 bx15_x1_3 bx15_x1_4 bx15_x1_5 sz15_x1 bx15_x2_0 bx15_x2_1 sz15_x2 bx15_g0_0 bx15_g0_1 sz15_g0 HO15_1_R_7 HO15_0_vG_8 HO15_1_vG_8 HO15_2_vR_9 HO15_4_vR_9 HO15_5_vR_9 HO15_1_vC_10 HO15_1_R_11 HO15_0_vG_13 HO15_1_vG_13 HO15_2_vR_15 HO15_4_vR_15 HO15_5_vR_15 HR15_vG_8 HR15_vR_9 HR15_vC_10 hb16 hst16 HB15)))
            all_goals
              go_wp2_with fail
              go_region_with ((first | (go_at_call 10; refine (laws_toRelation (c1 := c1_vC) vC hq_vC _ (Below.size (by repeat (first | (with_reducible exact Below.refl _ _) | (with_reducible apply Below.drew) | (with_reducible refine below_drewN ?_ _) | (refine Below.setCell ?_ (by simp <;> omega) _) | (refine Below.alloc ?_ (by simp <;> omega) _)) : Below w16.heap.size w16 _)) ((HS_1_vC.out.later (HB16.out.trans ((by repeat (first | (with_reducible exact Below.refl _ _) | (with_reducible apply Below.drew) | (with_reducible refine below_drewN ?_ _) | (refine Below.setCell ?_ (by simp <;> omega) _) | (refine Below.alloc ?_ (by simp <;> omega) _)) : Below w16.heap.size w16 _).mono HB16.out.size)) (Nat.le_refl _)).mono (Nat.le_refl _) HB16.out.size)).mono ?_; rintro e w17 ⟨a1_vC_17, c1_vC_17, rfl, ho17, hb17⟩; have hst17 : Below w16.heap.size w16 w17 := Below.trans (by repeat (first | (with_reducible exact Below.refl _ _) | (with_reducible apply Below.drew) | (with_reducible refine below_drewN ?_ _) | (refine Below.setCell ?_ (by simp <;> omega) _) | (refine Below.alloc ?_ (by simp <;> omega) _)) : Below w16.heap.size w16 _) (hb17.mono (Below.size (by repeat (first | (with_reducible exact Below.refl _ _) | (with_reducible apply Below.drew) | (with_reducible refine below_drewN ?_ _) | (refine Below.setCell ?_ (by simp <;> omega) _) | (refine Below.alloc ?_ (by simp <;> omega) _)) : Below w16.heap.size w16 _))); have hr17 : w16.heap.size ≤ w17.heap.size := Nat.le_trans (by first | exact Nat.le_refl _ | (simp; done) | (simp; omega) | (simp [World.setCell]; done) | (simp [World.setCell]; omega)) hb17.size; have sz17_paG : w.heap.size < w17.heap.size := Nat.lt_of_lt_of_le sz16_paG hst17.size; have bx17_paG_0 : w17.cell? ⟨w.heap.size, 0, none⟩ = some (.slice a0_vG vG.fSymbols.length c0_vG) := (hst17.cell (p := ⟨w.heap.size, 0, none⟩) sz16_paG).trans bx16_paG_0; have bx17_paG_1 : w17.cell? ⟨w.heap.size, 1, none⟩ = some (.slice a1_vG vG.fRules.length c1_vG) := (hst17.cell (p := ⟨w.heap.size, 1, none⟩) sz16_paG).trans bx16_paG_1; have sz17_paR : w.heap.size + 1 < w17.heap.size := Nat.lt_of_lt_of_le sz16_paR hst17.size; have bx17_paR_0 : w17.cell? ⟨w.heap.size + 1, 0, none⟩ = some (.string vR.fName) := (hst17.cell (p := ⟨w.heap.size + 1, 0, none⟩) sz16_paR).trans bx16_paR_0; have bx17_paR_1 : w17.cell? ⟨w.heap.size + 1, 1, none⟩ = some (.string vR.fLeft) := (hst17.cell (p := ⟨w.heap.size + 1, 1, none⟩) sz16_paR).trans bx16_paR_1; have bx17_paR_2 : w17.cell? ⟨w.heap.size + 1, 2, none⟩ = some (.slice a2_vR vR.fRight.length c2_vR) := (hst17.cell (p := ⟨w.heap.size + 1, 2, none⟩) sz16_paR).trans bx16_paR_2; have bx17_paR_3 : w17.cell? ⟨w.heap.size + 1, 3, none⟩ = some (.bool vR.fLiteral) := (hst17.cell (p := ⟨w.heap.size + 1, 3, none⟩) sz16_paR).trans bx16_paR_3; have bx17_paR_4 : w17.cell? ⟨w.heap.size + 1, 4, none⟩ = some (.slice a4_vR vR.fEquations.length c4_vR) := (hst17.cell (p := ⟨w.heap.size + 1, 4, none⟩) sz16_paR).trans bx16_paR_4; have bx17_paR_5 : w17.cell? ⟨w.heap.size + 1, 5, none⟩ = some (.slice a5_vR vR.fContributions.length c5_vR) := (hst17.cell (p := ⟨w.heap.size + 1, 5, none⟩) sz16_paR).trans bx16_paR_5; have sz17_paC : w.heap.size + 2 < w17.heap.size := Nat.lt_of_lt_of_le sz16_paC hst17.size; have bx17_paC_0 : w17.cell? ⟨w.heap.size + 2, 0, none⟩ = some (.int .i64 vC.fN) := (hst17.cell (p := ⟨w.heap.size + 2, 0, none⟩) sz16_paC).trans bx16_paC_0; have bx17_paC_1 : w17.cell? ⟨w.heap.size + 2, 1, none⟩ = some (.slice a1_vC vC.fRows.length c1_vC) := (hst17.cell (p := ⟨w.heap.size + 2, 1, none⟩) sz16_paC).trans bx16_paC_1; have sz17_w0 : bV7 < w17.heap.size := Nat.lt_of_lt_of_le sz16_w0 hst17.size; have bx17_w0_0 : w17.cell? ⟨bV7, 0, none⟩ = some (.int .i64 (summ vG vR vC).fN) := (hst17.cell (p := ⟨bV7, 0, none⟩) sz16_w0).trans bx16_w0_0; have bx17_w0_1 : w17.cell? ⟨bV7, 1, none⟩ = some (.slice a1_R_7 (summ vG vR vC).fRows.length c1_R_7) := (hst17.cell (p := ⟨bV7, 1, none⟩) sz16_w0).trans bx16_w0_1; have sz17_x0 : w8.heap.size < w17.heap.size := Nat.lt_of_lt_of_le sz16_x0 hst17.size; have bx17_x0_0 : w17.cell? ⟨w8.heap.size, 0, none⟩ = some (.slice a0_vG_8 vG.fSymbols.length c0_vG_8) := (hst17.cell (p := ⟨w8.heap.size, 0, none⟩) sz16_x0).trans bx16_x0_0; have bx17_x0_1 : w17.cell? ⟨w8.heap.size, 1, none⟩ = some (.slice a1_vG_8 vG.fRules.length c1_vG_8) := (hst17.cell (p := ⟨w8.heap.size, 1, none⟩) sz16_x0).trans bx16_x0_1; have sz17_x1 : w9.heap.size < w17.heap.size := Nat.lt_of_lt_of_le sz16_x1 hst17.size; have bx17_x1_0 : w17.cell? ⟨w9.heap.size, 0, none⟩ = some (.string vR.fName) := (hst17.cell (p := ⟨w9.heap.size, 0, none⟩) sz16_x1).trans bx16_x1_0; have bx17_x1_1 : w17.cell? ⟨w9.heap.size, 1, none⟩ = some (.string vR.fLeft) := (hst17.cell (p := ⟨w9.heap.size, 1, none⟩) sz16_x1).trans bx16_x1_1; have bx17_x1_2 : w17.cell? ⟨w9.heap.size, 2, none⟩ = some (.slice a2_vR_9 vR.fRight.length c2_vR_9) := (hst17.cell (p := ⟨w9.heap.size, 2, none⟩) sz16_x1).trans bx16_x1_2; have bx17_x1_3 : w17.cell? ⟨w9.heap.size, 3, none⟩ = some (.bool vR.fLiteral) := (hst17.cell (p := ⟨w9.heap.size, 3, none⟩) sz16_x1).trans bx16_x1_3; have bx17_x1_4 : w17.cell? ⟨w9.heap.size, 4, none⟩ = some (.slice a4_vR_9 vR.fEquations.length c4_vR_9) := (hst17.cell (p := ⟨w9.heap.size, 4, none⟩) sz16_x1).trans bx16_x1_4; have bx17_x1_5 : w17.cell? ⟨w9.heap.size, 5, none⟩ = some (.slice a5_vR_9 vR.fContributions.length c5_vR_9) := (hst17.cell (p := ⟨w9.heap.size, 5, none⟩) sz16_x1).trans bx16_x1_5; have sz17_x2 : w10.heap.size < w17.heap.size := Nat.lt_of_lt_of_le sz16_x2 hst17.size; have bx17_x2_0 : w17.cell? ⟨w10.heap.size, 0, none⟩ = some (.int .i64 vC.fN) := (hst17.cell (p := ⟨w10.heap.size, 0, none⟩) sz16_x2).trans bx16_x2_0; have bx17_x2_1 : w17.cell? ⟨w10.heap.size, 1, none⟩ = some (.slice a1_vC_10 vC.fRows.length c1_vC_10) := (hst17.cell (p := ⟨w10.heap.size, 1, none⟩) sz16_x2).trans bx16_x2_1; have sz17_g0 : w11.heap.size < w17.heap.size := Nat.lt_of_lt_of_le sz16_g0 hst17.size; have bx17_g0_0 : w17.cell? ⟨w11.heap.size, 0, none⟩ = some (.int .i64 (summ vG vR vC).fN) := (hst17.cell (p := ⟨w11.heap.size, 0, none⟩) sz16_g0).trans bx16_g0_0; have bx17_g0_1 : w17.cell? ⟨w11.heap.size, 1, none⟩ = some (.slice a1_R_11 (summ vG vR vC).fRows.length c1_R_11) := (hst17.cell (p := ⟨w11.heap.size, 1, none⟩) sz16_g0).trans bx16_g0_1; have HO17_1_R_7 := Lib.hid (HO16_1_R_7.out.kept (Kept.of_below_all hst17)); have HO17_0_vG_8 := Lib.hid (HO16_0_vG_8.out.kept (Kept.of_below_all hst17)); have HO17_1_vG_8 := Lib.hid (HO16_1_vG_8.out.kept (Kept.of_below_all hst17)); have HO17_2_vR_9 := Lib.hid (HO16_2_vR_9.out.kept (Kept.of_below_all hst17)); have HO17_4_vR_9 := Lib.hid (HO16_4_vR_9.out.kept (Kept.of_below_all hst17)); have HO17_5_vR_9 := Lib.hid (HO16_5_vR_9.out.kept (Kept.of_below_all hst17)); have HO17_1_vC_10 := Lib.hid (HO16_1_vC_10.out.kept (Kept.of_below_all hst17)); have HO17_1_R_11 := Lib.hid (HO16_1_R_11.out.kept (Kept.of_below_all hst17)); have HO17_0_vG_13 := Lib.hid (HO16_0_vG_13.out.kept (Kept.of_below_all hst17)); have HO17_1_vG_13 := Lib.hid (HO16_1_vG_13.out.kept (Kept.of_below_all hst17)); have HO17_2_vR_15 := Lib.hid (HO16_2_vR_15.out.kept (Kept.of_below_all hst17)); have HO17_4_vR_15 := Lib.hid (HO16_4_vR_15.out.kept (Kept.of_below_all hst17)); have HO17_5_vR_15 := Lib.hid (HO16_5_vR_15.out.kept (Kept.of_below_all hst17)); have HR17_vG_8 := Lib.hid (HR16_vG_8.out.kept (Kept.of_below_all hst17)); have HR17_vR_9 := Lib.hid (HR16_vR_9.out.kept (Kept.of_below_all hst17)); have HR17_vC_10 := Lib.hid (HR16_vC_10.out.kept (Kept.of_below_all hst17)); have HO17_1_vC_17 := Lib.hid (show Own w17 (fun y => w16.heap.size ≤ y ∧ y < w17.heap.size) (.sl 1 vC.fRows.length (fun k => ictI (vC.fRows.getD k default))) (.slice a1_vC_17 vC.fRows.length c1_vC_17) from Own.sub (F := fun y => _ ≤ y ∧ y < _) (OwnR.at ho17 1 (by decide)) (fun y hy => ⟨Nat.le_trans (by first | exact Nat.le_refl _ | (simp; done) | (simp; omega) | (simp [World.setCell]; done) | (simp [World.setCell]; omega)) hy.1, hy.2⟩)); have HB17 := Lib.hid (HB16.out.trans (hst17.mono HB16.out.size)); clear bx16_paG_0 bx16_paG_1 sz16_paG bx16_paR_0 bx16_paR_1 bx16_paR_2 bx16_paR_3 bx16_paR_4 bx16_paR_5 sz16_paR bx16_paC_0 bx16_paC_1 sz16_paC bx16_w0_0 bx16_w0_1 sz16_w0 bx16_x0_0 bx16_x0_1 sz16_x0 bx16_x1_0 bx16_x1_1 bx16_x1_2 bx16_x1_3 bx16_x1_4 bx16_x1_5 sz16_x1 bx16_x2_0 bx16_x2_1 sz16_x2 bx16_g0_0 bx16_g0_1 sz16_g0 HO16_1_R_7 HO16_0_vG_8 HO16_1_vG_8 HO16_2_vR_9 HO16_4_vR_9 HO16_5_vR_9 HO16_1_vC_10 HO16_1_R_11 HO16_0_vG_13 HO16_1_vG_13 HO16_2_vR_15 HO16_4_vR_15 HO16_5_vR_15 HR16_vG_8 HR16_vR_9 HR16_vC_10 ho17 hb17 hst17 HB16) | (go_at_call 12; refine (laws_eqRelation (c1 := c1_vC_10) (c1q := c1_vC_17) vC hq_vC _ (Below.size (by repeat (first | (with_reducible exact Below.refl _ _) | (with_reducible apply Below.drew) | (with_reducible refine below_drewN ?_ _) | (refine Below.setCell ?_ (by simp <;> omega) _) | (refine Below.alloc ?_ (by simp <;> omega) _)) : Below w17.heap.size w17 _)) (Below.size (by repeat (first | (with_reducible exact Below.refl _ _) | (with_reducible apply Below.drew) | (with_reducible refine below_drewN ?_ _) | (refine Below.setCell ?_ (by simp <;> omega) _) | (refine Below.alloc ?_ (by simp <;> omega) _)) : Below w17.heap.size w17 _)) ((Sl.of (HO17_1_vC_10.out.lies (lo := 0) (hi := w17.heap.size) (fun y hy => ⟨Nat.zero_le _, by have := hy.2; omega⟩))).later (by repeat (first | (with_reducible exact Below.refl _ _) | (with_reducible apply Below.drew) | (with_reducible refine below_drewN ?_ _) | (refine Below.setCell ?_ (by simp <;> omega) _) | (refine Below.alloc ?_ (by simp <;> omega) _)) : Below w17.heap.size w17 _) (Nat.le_refl _)) ((Sl.of (HO17_1_vC_17.out.lies (lo := 0) (hi := w17.heap.size) (fun y hy => ⟨Nat.zero_le _, by have := hy.2; omega⟩))).later (by repeat (first | (with_reducible exact Below.refl _ _) | (with_reducible apply Below.drew) | (with_reducible refine below_drewN ?_ _) | (refine Below.setCell ?_ (by simp <;> omega) _) | (refine Below.alloc ?_ (by simp <;> omega) _)) : Below w17.heap.size w17 _) (Nat.le_refl _))).mono ?_; rintro e w18 ⟨rfl, hb18⟩; have hst18 : Below w17.heap.size w17 w18 := Below.trans (by repeat (first | (with_reducible exact Below.refl _ _) | (with_reducible apply Below.drew) | (with_reducible refine below_drewN ?_ _) | (refine Below.setCell ?_ (by simp <;> omega) _) | (refine Below.alloc ?_ (by simp <;> omega) _)) : Below w17.heap.size w17 _) (hb18.mono (Below.size (by repeat (first | (with_reducible exact Below.refl _ _) | (with_reducible apply Below.drew) | (with_reducible refine below_drewN ?_ _) | (refine Below.setCell ?_ (by simp <;> omega) _) | (refine Below.alloc ?_ (by simp <;> omega) _)) : Below w17.heap.size w17 _))); have hr18 : w17.heap.size ≤ w18.heap.size := Nat.le_trans (by first | exact Nat.le_refl _ | (simp; done) | (simp; omega) | (simp [World.setCell]; done) | (simp [World.setCell]; omega)) hb18.size; have sz18_paG : w.heap.size < w18.heap.size := Nat.lt_of_lt_of_le sz17_paG hst18.size; have bx18_paG_0 : w18.cell? ⟨w.heap.size, 0, none⟩ = some (.slice a0_vG vG.fSymbols.length c0_vG) := (hst18.cell (p := ⟨w.heap.size, 0, none⟩) sz17_paG).trans bx17_paG_0; have bx18_paG_1 : w18.cell? ⟨w.heap.size, 1, none⟩ = some (.slice a1_vG vG.fRules.length c1_vG) := (hst18.cell (p := ⟨w.heap.size, 1, none⟩) sz17_paG).trans bx17_paG_1; have sz18_paR : w.heap.size + 1 < w18.heap.size := Nat.lt_of_lt_of_le sz17_paR hst18.size; have bx18_paR_0 : w18.cell? ⟨w.heap.size + 1, 0, none⟩ = some (.string vR.fName) := (hst18.cell (p := ⟨w.heap.size + 1, 0, none⟩) sz17_paR).trans bx17_paR_0; have bx18_paR_1 : w18.cell? ⟨w.heap.size + 1, 1, none⟩ = some (.string vR.fLeft) := (hst18.cell (p := ⟨w.heap.size + 1, 1, none⟩) sz17_paR).trans bx17_paR_1; have bx18_paR_2 : w18.cell? ⟨w.heap.size + 1, 2, none⟩ = some (.slice a2_vR vR.fRight.length c2_vR) := (hst18.cell (p := ⟨w.heap.size + 1, 2, none⟩) sz17_paR).trans bx17_paR_2; have bx18_paR_3 : w18.cell? ⟨w.heap.size + 1, 3, none⟩ = some (.bool vR.fLiteral) := (hst18.cell (p := ⟨w.heap.size + 1, 3, none⟩) sz17_paR).trans bx17_paR_3; have bx18_paR_4 : w18.cell? ⟨w.heap.size + 1, 4, none⟩ = some (.slice a4_vR vR.fEquations.length c4_vR) := (hst18.cell (p := ⟨w.heap.size + 1, 4, none⟩) sz17_paR).trans bx17_paR_4; have bx18_paR_5 : w18.cell? ⟨w.heap.size + 1, 5, none⟩ = some (.slice a5_vR vR.fContributions.length c5_vR) := (hst18.cell (p := ⟨w.heap.size + 1, 5, none⟩) sz17_paR).trans bx17_paR_5; have sz18_paC : w.heap.size + 2 < w18.heap.size := Nat.lt_of_lt_of_le sz17_paC hst18.size; have bx18_paC_0 : w18.cell? ⟨w.heap.size + 2, 0, none⟩ = some (.int .i64 vC.fN) := (hst18.cell (p := ⟨w.heap.size + 2, 0, none⟩) sz17_paC).trans bx17_paC_0; have bx18_paC_1 : w18.cell? ⟨w.heap.size + 2, 1, none⟩ = some (.slice a1_vC vC.fRows.length c1_vC) := (hst18.cell (p := ⟨w.heap.size + 2, 1, none⟩) sz17_paC).trans bx17_paC_1; have sz18_w0 : bV7 < w18.heap.size := Nat.lt_of_lt_of_le sz17_w0 hst18.size; have bx18_w0_0 : w18.cell? ⟨bV7, 0, none⟩ = some (.int .i64 (summ vG vR vC).fN) := (hst18.cell (p := ⟨bV7, 0, none⟩) sz17_w0).trans bx17_w0_0; have bx18_w0_1 : w18.cell? ⟨bV7, 1, none⟩ = some (.slice a1_R_7 (summ vG vR vC).fRows.length c1_R_7) := (hst18.cell (p := ⟨bV7, 1, none⟩) sz17_w0).trans bx17_w0_1; have sz18_x0 : w8.heap.size < w18.heap.size := Nat.lt_of_lt_of_le sz17_x0 hst18.size; have bx18_x0_0 : w18.cell? ⟨w8.heap.size, 0, none⟩ = some (.slice a0_vG_8 vG.fSymbols.length c0_vG_8) := (hst18.cell (p := ⟨w8.heap.size, 0, none⟩) sz17_x0).trans bx17_x0_0; have bx18_x0_1 : w18.cell? ⟨w8.heap.size, 1, none⟩ = some (.slice a1_vG_8 vG.fRules.length c1_vG_8) := (hst18.cell (p := ⟨w8.heap.size, 1, none⟩) sz17_x0).trans bx17_x0_1; have sz18_x1 : w9.heap.size < w18.heap.size := Nat.lt_of_lt_of_le sz17_x1 hst18.size; have bx18_x1_0 : w18.cell? ⟨w9.heap.size, 0, none⟩ = some (.string vR.fName) := (hst18.cell (p := ⟨w9.heap.size, 0, none⟩) sz17_x1).trans bx17_x1_0; have bx18_x1_1 : w18.cell? ⟨w9.heap.size, 1, none⟩ = some (.string vR.fLeft) := (hst18.cell (p := ⟨w9.heap.size, 1, none⟩) sz17_x1).trans bx17_x1_1; have bx18_x1_2 : w18.cell? ⟨w9.heap.size, 2, none⟩ = some (.slice a2_vR_9 vR.fRight.length c2_vR_9) := (hst18.cell (p := ⟨w9.heap.size, 2, none⟩) sz17_x1).trans bx17_x1_2; have bx18_x1_3 : w18.cell? ⟨w9.heap.size, 3, none⟩ = some (.bool vR.fLiteral) := (hst18.cell (p := ⟨w9.heap.size, 3, none⟩) sz17_x1).trans bx17_x1_3; have bx18_x1_4 : w18.cell? ⟨w9.heap.size, 4, none⟩ = some (.slice a4_vR_9 vR.fEquations.length c4_vR_9) := (hst18.cell (p := ⟨w9.heap.size, 4, none⟩) sz17_x1).trans bx17_x1_4; have bx18_x1_5 : w18.cell? ⟨w9.heap.size, 5, none⟩ = some (.slice a5_vR_9 vR.fContributions.length c5_vR_9) := (hst18.cell (p := ⟨w9.heap.size, 5, none⟩) sz17_x1).trans bx17_x1_5; have sz18_x2 : w10.heap.size < w18.heap.size := Nat.lt_of_lt_of_le sz17_x2 hst18.size; have bx18_x2_0 : w18.cell? ⟨w10.heap.size, 0, none⟩ = some (.int .i64 vC.fN) := (hst18.cell (p := ⟨w10.heap.size, 0, none⟩) sz17_x2).trans bx17_x2_0; have bx18_x2_1 : w18.cell? ⟨w10.heap.size, 1, none⟩ = some (.slice a1_vC_10 vC.fRows.length c1_vC_10) := (hst18.cell (p := ⟨w10.heap.size, 1, none⟩) sz17_x2).trans bx17_x2_1; have sz18_g0 : w11.heap.size < w18.heap.size := Nat.lt_of_lt_of_le sz17_g0 hst18.size; have bx18_g0_0 : w18.cell? ⟨w11.heap.size, 0, none⟩ = some (.int .i64 (summ vG vR vC).fN) := (hst18.cell (p := ⟨w11.heap.size, 0, none⟩) sz17_g0).trans bx17_g0_0; have bx18_g0_1 : w18.cell? ⟨w11.heap.size, 1, none⟩ = some (.slice a1_R_11 (summ vG vR vC).fRows.length c1_R_11) := (hst18.cell (p := ⟨w11.heap.size, 1, none⟩) sz17_g0).trans bx17_g0_1; have HO18_1_R_7 := Lib.hid (HO17_1_R_7.out.kept (Kept.of_below_all hst18)); have HO18_0_vG_8 := Lib.hid (HO17_0_vG_8.out.kept (Kept.of_below_all hst18)); have HO18_1_vG_8 := Lib.hid (HO17_1_vG_8.out.kept (Kept.of_below_all hst18)); have HO18_2_vR_9 := Lib.hid (HO17_2_vR_9.out.kept (Kept.of_below_all hst18)); have HO18_4_vR_9 := Lib.hid (HO17_4_vR_9.out.kept (Kept.of_below_all hst18)); have HO18_5_vR_9 := Lib.hid (HO17_5_vR_9.out.kept (Kept.of_below_all hst18)); have HO18_1_vC_10 := Lib.hid (HO17_1_vC_10.out.kept (Kept.of_below_all hst18)); have HO18_1_R_11 := Lib.hid (HO17_1_R_11.out.kept (Kept.of_below_all hst18)); have HO18_0_vG_13 := Lib.hid (HO17_0_vG_13.out.kept (Kept.of_below_all hst18)); have HO18_1_vG_13 := Lib.hid (HO17_1_vG_13.out.kept (Kept.of_below_all hst18)); have HO18_2_vR_15 := Lib.hid (HO17_2_vR_15.out.kept (Kept.of_below_all hst18)); have HO18_4_vR_15 := Lib.hid (HO17_4_vR_15.out.kept (Kept.of_below_all hst18)); have HO18_5_vR_15 := Lib.hid (HO17_5_vR_15.out.kept (Kept.of_below_all hst18)); have HO18_1_vC_17 := Lib.hid (HO17_1_vC_17.out.kept (Kept.of_below_all hst18)); have HR18_vG_8 := Lib.hid (HR17_vG_8.out.kept (Kept.of_below_all hst18)); have HR18_vR_9 := Lib.hid (HR17_vR_9.out.kept (Kept.of_below_all hst18)); have HR18_vC_10 := Lib.hid (HR17_vC_10.out.kept (Kept.of_below_all hst18)); have HB18 := Lib.hid (HB17.out.trans (hst18.mono HB17.out.size)); clear bx17_paG_0 bx17_paG_1 sz17_paG bx17_paR_0 bx17_paR_1 bx17_paR_2 bx17_paR_3 bx17_paR_4 bx17_paR_5 sz17_paR bx17_paC_0 bx17_paC_1 sz17_paC bx17_w0_0 bx17_w0_1 sz17_w0 bx17_x0_0 bx17_x0_1 sz17_x0 bx17_x1_0 bx17_x1_1 bx17_x1_2 bx17_x1_3 bx17_x1_4 bx17_x1_5 sz17_x1 bx17_x2_0 bx17_x2_1 sz17_x2 bx17_g0_0 bx17_g0_1 sz17_g0 HO17_1_R_7 HO17_0_vG_8 HO17_1_vG_8 HO17_2_vR_9 HO17_4_vR_9 HO17_5_vR_9 HO17_1_vC_10 HO17_1_R_11 HO17_0_vG_13 HO17_1_vG_13 HO17_2_vR_15 HO17_4_vR_15 HO17_5_vR_15 HO17_1_vC_17 HR17_vG_8 HR17_vR_9 HR17_vC_10 hb18 hst18 HB17)))
              all_goals
                go_wp2_with fail
                refine (wmark_Grammar (c0 := c0_vG_8) (c1 := c1_vG_8) vG hq_vG 1 (by omega) (by omega) _ (fun y hy => Nat.lt_of_lt_of_le (show y < w18.heap.size by have := hy.2; omega) (Below.size (by repeat (first | (with_reducible exact Below.refl _ _) | (with_reducible apply Below.drew) | (with_reducible refine below_drewN ?_ _) | (refine Below.setCell ?_ (by simp <;> omega) _) | (refine Below.alloc ?_ (by simp <;> omega) _)) : Below w18.heap.size w18 _))) (HR18_vG_8.out.kept (Kept.of_below (by repeat (first | (with_reducible exact Below.refl _ _) | (with_reducible apply Below.drew) | (with_reducible refine below_drewN ?_ _) | (refine Below.setCell ?_ (by simp <;> omega) _) | (refine Below.alloc ?_ (by simp <;> omega) _)) : Below w18.heap.size w18 _) (fun y hy => by have := hy.2; omega)))).mono ?_
                rintro e w19 ⟨k19, rfl, hka19, hkb19, hw19⟩
                as_aux_lemma =>
                have hkz19 : 1 ≤ k19 ∧ k19 ≤ 4294967296 := by omega
                have hst19 : WritesF (fun y => w7.heap.size ≤ y ∧ y < w8.heap.size) w18 w19 := hw19.of_below (by repeat (first | (with_reducible exact Below.refl _ _) | (with_reducible apply Below.drew) | (with_reducible refine below_drewN ?_ _) | (refine Below.setCell ?_ (by simp <;> omega) _) | (refine Below.alloc ?_ (by simp <;> omega) _)) : Below w18.heap.size w18 _)
                have hr19 : w18.heap.size ≤ w19.heap.size := Nat.le_trans (by first | exact Nat.le_refl _ | (simp; done) | (simp; omega) | (simp [World.setCell]; done) | (simp [World.setCell]; omega)) hw19.size
                have sz19_paG := Nat.lt_of_lt_of_le sz18_paG hst19.size
                have bx19_paG_0 := (World.cell?_of_block (a := ⟨w.heap.size, 0, none⟩) (hst19.block (w.heap.size) sz18_paG (fun hf => by have h1 := hf.1; have h2 := hf.2; omega))).trans bx18_paG_0
                have bx19_paG_1 := (World.cell?_of_block (a := ⟨w.heap.size, 1, none⟩) (hst19.block (w.heap.size) sz18_paG (fun hf => by have h1 := hf.1; have h2 := hf.2; omega))).trans bx18_paG_1
                have sz19_paR := Nat.lt_of_lt_of_le sz18_paR hst19.size
                have bx19_paR_0 := (World.cell?_of_block (a := ⟨w.heap.size + 1, 0, none⟩) (hst19.block (w.heap.size + 1) sz18_paR (fun hf => by have h1 := hf.1; have h2 := hf.2; omega))).trans bx18_paR_0
                have bx19_paR_1 := (World.cell?_of_block (a := ⟨w.heap.size + 1, 1, none⟩) (hst19.block (w.heap.size + 1) sz18_paR (fun hf => by have h1 := hf.1; have h2 := hf.2; omega))).trans bx18_paR_1
                have bx19_paR_2 := (World.cell?_of_block (a := ⟨w.heap.size + 1, 2, none⟩) (hst19.block (w.heap.size + 1) sz18_paR (fun hf => by have h1 := hf.1; have h2 := hf.2; omega))).trans bx18_paR_2
                have bx19_paR_3 := (World.cell?_of_block (a := ⟨w.heap.size + 1, 3, none⟩) (hst19.block (w.heap.size + 1) sz18_paR (fun hf => by have h1 := hf.1; have h2 := hf.2; omega))).trans bx18_paR_3
                have bx19_paR_4 := (World.cell?_of_block (a := ⟨w.heap.size + 1, 4, none⟩) (hst19.block (w.heap.size + 1) sz18_paR (fun hf => by have h1 := hf.1; have h2 := hf.2; omega))).trans bx18_paR_4
                have bx19_paR_5 := (World.cell?_of_block (a := ⟨w.heap.size + 1, 5, none⟩) (hst19.block (w.heap.size + 1) sz18_paR (fun hf => by have h1 := hf.1; have h2 := hf.2; omega))).trans bx18_paR_5
                have sz19_paC := Nat.lt_of_lt_of_le sz18_paC hst19.size
                have bx19_paC_0 := (World.cell?_of_block (a := ⟨w.heap.size + 2, 0, none⟩) (hst19.block (w.heap.size + 2) sz18_paC (fun hf => by have h1 := hf.1; have h2 := hf.2; omega))).trans bx18_paC_0
                have bx19_paC_1 := (World.cell?_of_block (a := ⟨w.heap.size + 2, 1, none⟩) (hst19.block (w.heap.size + 2) sz18_paC (fun hf => by have h1 := hf.1; have h2 := hf.2; omega))).trans bx18_paC_1
                have sz19_w0 := Nat.lt_of_lt_of_le sz18_w0 hst19.size
                have bx19_w0_0 := (World.cell?_of_block (a := ⟨bV7, 0, none⟩) (hst19.block (bV7) sz18_w0 (fun hf => by have h1 := hf.1; have h2 := hf.2; omega))).trans bx18_w0_0
                have bx19_w0_1 := (World.cell?_of_block (a := ⟨bV7, 1, none⟩) (hst19.block (bV7) sz18_w0 (fun hf => by have h1 := hf.1; have h2 := hf.2; omega))).trans bx18_w0_1
                have sz19_x0 := Nat.lt_of_lt_of_le sz18_x0 hst19.size
                have bx19_x0_0 := (World.cell?_of_block (a := ⟨w8.heap.size, 0, none⟩) (hst19.block (w8.heap.size) sz18_x0 (fun hf => by have h1 := hf.1; have h2 := hf.2; omega))).trans bx18_x0_0
                have bx19_x0_1 := (World.cell?_of_block (a := ⟨w8.heap.size, 1, none⟩) (hst19.block (w8.heap.size) sz18_x0 (fun hf => by have h1 := hf.1; have h2 := hf.2; omega))).trans bx18_x0_1
                have sz19_x1 := Nat.lt_of_lt_of_le sz18_x1 hst19.size
                have bx19_x1_0 := (World.cell?_of_block (a := ⟨w9.heap.size, 0, none⟩) (hst19.block (w9.heap.size) sz18_x1 (fun hf => by have h1 := hf.1; have h2 := hf.2; omega))).trans bx18_x1_0
                have bx19_x1_1 := (World.cell?_of_block (a := ⟨w9.heap.size, 1, none⟩) (hst19.block (w9.heap.size) sz18_x1 (fun hf => by have h1 := hf.1; have h2 := hf.2; omega))).trans bx18_x1_1
                have bx19_x1_2 := (World.cell?_of_block (a := ⟨w9.heap.size, 2, none⟩) (hst19.block (w9.heap.size) sz18_x1 (fun hf => by have h1 := hf.1; have h2 := hf.2; omega))).trans bx18_x1_2
                have bx19_x1_3 := (World.cell?_of_block (a := ⟨w9.heap.size, 3, none⟩) (hst19.block (w9.heap.size) sz18_x1 (fun hf => by have h1 := hf.1; have h2 := hf.2; omega))).trans bx18_x1_3
                have bx19_x1_4 := (World.cell?_of_block (a := ⟨w9.heap.size, 4, none⟩) (hst19.block (w9.heap.size) sz18_x1 (fun hf => by have h1 := hf.1; have h2 := hf.2; omega))).trans bx18_x1_4
                have bx19_x1_5 := (World.cell?_of_block (a := ⟨w9.heap.size, 5, none⟩) (hst19.block (w9.heap.size) sz18_x1 (fun hf => by have h1 := hf.1; have h2 := hf.2; omega))).trans bx18_x1_5
                have sz19_x2 := Nat.lt_of_lt_of_le sz18_x2 hst19.size
                have bx19_x2_0 := (World.cell?_of_block (a := ⟨w10.heap.size, 0, none⟩) (hst19.block (w10.heap.size) sz18_x2 (fun hf => by have h1 := hf.1; have h2 := hf.2; omega))).trans bx18_x2_0
                have bx19_x2_1 := (World.cell?_of_block (a := ⟨w10.heap.size, 1, none⟩) (hst19.block (w10.heap.size) sz18_x2 (fun hf => by have h1 := hf.1; have h2 := hf.2; omega))).trans bx18_x2_1
                have sz19_g0 := Nat.lt_of_lt_of_le sz18_g0 hst19.size
                have bx19_g0_0 := (World.cell?_of_block (a := ⟨w11.heap.size, 0, none⟩) (hst19.block (w11.heap.size) sz18_g0 (fun hf => by have h1 := hf.1; have h2 := hf.2; omega))).trans bx18_g0_0
                have bx19_g0_1 := (World.cell?_of_block (a := ⟨w11.heap.size, 1, none⟩) (hst19.block (w11.heap.size) sz18_g0 (fun hf => by have h1 := hf.1; have h2 := hf.2; omega))).trans bx18_g0_1
                have HO19_1_R_7 := Lib.hid (HO18_1_R_7.out.kept (hst19.kept (fun y hy hf => by have h1 := hy.1; have h2 := hy.2; have h3 := hf.1; have h4 := hf.2; omega)))
                have HO19_2_vR_9 := Lib.hid (HO18_2_vR_9.out.kept (hst19.kept (fun y hy hf => by have h1 := hy.1; have h2 := hy.2; have h3 := hf.1; have h4 := hf.2; omega)))
                have HO19_4_vR_9 := Lib.hid (HO18_4_vR_9.out.kept (hst19.kept (fun y hy hf => by have h1 := hy.1; have h2 := hy.2; have h3 := hf.1; have h4 := hf.2; omega)))
                have HO19_5_vR_9 := Lib.hid (HO18_5_vR_9.out.kept (hst19.kept (fun y hy hf => by have h1 := hy.1; have h2 := hy.2; have h3 := hf.1; have h4 := hf.2; omega)))
                have HO19_1_vC_10 := Lib.hid (HO18_1_vC_10.out.kept (hst19.kept (fun y hy hf => by have h1 := hy.1; have h2 := hy.2; have h3 := hf.1; have h4 := hf.2; omega)))
                have HO19_1_R_11 := Lib.hid (HO18_1_R_11.out.kept (hst19.kept (fun y hy hf => by have h1 := hy.1; have h2 := hy.2; have h3 := hf.1; have h4 := hf.2; omega)))
                have HO19_0_vG_13 := Lib.hid (HO18_0_vG_13.out.kept (hst19.kept (fun y hy hf => by have h1 := hy.1; have h2 := hy.2; have h3 := hf.1; have h4 := hf.2; omega)))
                have HO19_1_vG_13 := Lib.hid (HO18_1_vG_13.out.kept (hst19.kept (fun y hy hf => by have h1 := hy.1; have h2 := hy.2; have h3 := hf.1; have h4 := hf.2; omega)))
                have HO19_2_vR_15 := Lib.hid (HO18_2_vR_15.out.kept (hst19.kept (fun y hy hf => by have h1 := hy.1; have h2 := hy.2; have h3 := hf.1; have h4 := hf.2; omega)))
                have HO19_4_vR_15 := Lib.hid (HO18_4_vR_15.out.kept (hst19.kept (fun y hy hf => by have h1 := hy.1; have h2 := hy.2; have h3 := hf.1; have h4 := hf.2; omega)))
                have HO19_5_vR_15 := Lib.hid (HO18_5_vR_15.out.kept (hst19.kept (fun y hy hf => by have h1 := hy.1; have h2 := hy.2; have h3 := hf.1; have h4 := hf.2; omega)))
                have HO19_1_vC_17 := Lib.hid (HO18_1_vC_17.out.kept (hst19.kept (fun y hy hf => by have h1 := hy.1; have h2 := hy.2; have h3 := hf.1; have h4 := hf.2; omega)))
                have HR19_vR_9 := Lib.hid (HR18_vR_9.out.kept (hst19.kept (fun y hy hf => by have h1 := hy.1; have h2 := hy.2; have h3 := hf.1; have h4 := hf.2; omega)))
                have HR19_vC_10 := Lib.hid (HR18_vC_10.out.kept (hst19.kept (fun y hy hf => by have h1 := hy.1; have h2 := hy.2; have h3 := hf.1; have h4 := hf.2; omega)))
                have HB19 := Lib.hid (HB18.out.trans (hst19.below (fun y hy => by have := hy.1; omega) HB18.out.size))
                clear bx18_paG_0 bx18_paG_1 sz18_paG bx18_paR_0 bx18_paR_1 bx18_paR_2 bx18_paR_3 bx18_paR_4 bx18_paR_5 sz18_paR bx18_paC_0 bx18_paC_1 sz18_paC bx18_w0_0 bx18_w0_1 sz18_w0 bx18_x0_0 bx18_x0_1 sz18_x0 bx18_x1_0 bx18_x1_1 bx18_x1_2 bx18_x1_3 bx18_x1_4 bx18_x1_5 sz18_x1 bx18_x2_0 bx18_x2_1 sz18_x2 bx18_g0_0 bx18_g0_1 sz18_g0 HO18_0_vG_8 HO18_1_vG_8 HO18_1_R_7 HO18_2_vR_9 HO18_4_vR_9 HO18_5_vR_9 HO18_1_vC_10 HO18_1_R_11 HO18_0_vG_13 HO18_1_vG_13 HO18_2_vR_15 HO18_4_vR_15 HO18_5_vR_15 HO18_1_vC_17 HR18_vG_8 HR18_vR_9 HR18_vC_10 hw19 hst19 HB18
                go_wp2_with fail
                refine (wmark_Rule (c2 := c2_vR_9) (c4 := c4_vR_9) (c5 := c5_vR_9) vR hq_vR k19 (by omega) (by omega) _ (fun y hy => Nat.lt_of_lt_of_le (show y < w19.heap.size by have := hy.2; omega) (Below.size (by repeat (first | (with_reducible exact Below.refl _ _) | (with_reducible apply Below.drew) | (with_reducible refine below_drewN ?_ _) | (refine Below.setCell ?_ (by simp <;> omega) _) | (refine Below.alloc ?_ (by simp <;> omega) _)) : Below w19.heap.size w19 _))) (HR19_vR_9.out.kept (Kept.of_below (by repeat (first | (with_reducible exact Below.refl _ _) | (with_reducible apply Below.drew) | (with_reducible refine below_drewN ?_ _) | (refine Below.setCell ?_ (by simp <;> omega) _) | (refine Below.alloc ?_ (by simp <;> omega) _)) : Below w19.heap.size w19 _) (fun y hy => by have := hy.2; omega)))).mono ?_
                rintro e w20 ⟨k20, rfl, hka20, hkb20, hw20⟩
                as_aux_lemma =>
                have hkz20 : 1 ≤ k20 ∧ k20 ≤ 4294967296 := by omega
                have hst20 : WritesF (fun y => w8.heap.size + 1 ≤ y ∧ y < w9.heap.size) w19 w20 := hw20.of_below (by repeat (first | (with_reducible exact Below.refl _ _) | (with_reducible apply Below.drew) | (with_reducible refine below_drewN ?_ _) | (refine Below.setCell ?_ (by simp <;> omega) _) | (refine Below.alloc ?_ (by simp <;> omega) _)) : Below w19.heap.size w19 _)
                have hr20 : w19.heap.size ≤ w20.heap.size := Nat.le_trans (by first | exact Nat.le_refl _ | (simp; done) | (simp; omega) | (simp [World.setCell]; done) | (simp [World.setCell]; omega)) hw20.size
                have sz20_paG := Nat.lt_of_lt_of_le sz19_paG hst20.size
                have bx20_paG_0 := (World.cell?_of_block (a := ⟨w.heap.size, 0, none⟩) (hst20.block (w.heap.size) sz19_paG (fun hf => by have h1 := hf.1; have h2 := hf.2; omega))).trans bx19_paG_0
                have bx20_paG_1 := (World.cell?_of_block (a := ⟨w.heap.size, 1, none⟩) (hst20.block (w.heap.size) sz19_paG (fun hf => by have h1 := hf.1; have h2 := hf.2; omega))).trans bx19_paG_1
                have sz20_paR := Nat.lt_of_lt_of_le sz19_paR hst20.size
                have bx20_paR_0 := (World.cell?_of_block (a := ⟨w.heap.size + 1, 0, none⟩) (hst20.block (w.heap.size + 1) sz19_paR (fun hf => by have h1 := hf.1; have h2 := hf.2; omega))).trans bx19_paR_0
                have bx20_paR_1 := (World.cell?_of_block (a := ⟨w.heap.size + 1, 1, none⟩) (hst20.block (w.heap.size + 1) sz19_paR (fun hf => by have h1 := hf.1; have h2 := hf.2; omega))).trans bx19_paR_1
                have bx20_paR_2 := (World.cell?_of_block (a := ⟨w.heap.size + 1, 2, none⟩) (hst20.block (w.heap.size + 1) sz19_paR (fun hf => by have h1 := hf.1; have h2 := hf.2; omega))).trans bx19_paR_2
                have bx20_paR_3 := (World.cell?_of_block (a := ⟨w.heap.size + 1, 3, none⟩) (hst20.block (w.heap.size + 1) sz19_paR (fun hf => by have h1 := hf.1; have h2 := hf.2; omega))).trans bx19_paR_3
                have bx20_paR_4 := (World.cell?_of_block (a := ⟨w.heap.size + 1, 4, none⟩) (hst20.block (w.heap.size + 1) sz19_paR (fun hf => by have h1 := hf.1; have h2 := hf.2; omega))).trans bx19_paR_4
                have bx20_paR_5 := (World.cell?_of_block (a := ⟨w.heap.size + 1, 5, none⟩) (hst20.block (w.heap.size + 1) sz19_paR (fun hf => by have h1 := hf.1; have h2 := hf.2; omega))).trans bx19_paR_5
                have sz20_paC := Nat.lt_of_lt_of_le sz19_paC hst20.size
                have bx20_paC_0 := (World.cell?_of_block (a := ⟨w.heap.size + 2, 0, none⟩) (hst20.block (w.heap.size + 2) sz19_paC (fun hf => by have h1 := hf.1; have h2 := hf.2; omega))).trans bx19_paC_0
                have bx20_paC_1 := (World.cell?_of_block (a := ⟨w.heap.size + 2, 1, none⟩) (hst20.block (w.heap.size + 2) sz19_paC (fun hf => by have h1 := hf.1; have h2 := hf.2; omega))).trans bx19_paC_1
                have sz20_w0 := Nat.lt_of_lt_of_le sz19_w0 hst20.size
                have bx20_w0_0 := (World.cell?_of_block (a := ⟨bV7, 0, none⟩) (hst20.block (bV7) sz19_w0 (fun hf => by have h1 := hf.1; have h2 := hf.2; omega))).trans bx19_w0_0
                have bx20_w0_1 := (World.cell?_of_block (a := ⟨bV7, 1, none⟩) (hst20.block (bV7) sz19_w0 (fun hf => by have h1 := hf.1; have h2 := hf.2; omega))).trans bx19_w0_1
                have sz20_x0 := Nat.lt_of_lt_of_le sz19_x0 hst20.size
                have bx20_x0_0 := (World.cell?_of_block (a := ⟨w8.heap.size, 0, none⟩) (hst20.block (w8.heap.size) sz19_x0 (fun hf => by have h1 := hf.1; have h2 := hf.2; omega))).trans bx19_x0_0
                have bx20_x0_1 := (World.cell?_of_block (a := ⟨w8.heap.size, 1, none⟩) (hst20.block (w8.heap.size) sz19_x0 (fun hf => by have h1 := hf.1; have h2 := hf.2; omega))).trans bx19_x0_1
                have sz20_x1 := Nat.lt_of_lt_of_le sz19_x1 hst20.size
                have bx20_x1_0 := (World.cell?_of_block (a := ⟨w9.heap.size, 0, none⟩) (hst20.block (w9.heap.size) sz19_x1 (fun hf => by have h1 := hf.1; have h2 := hf.2; omega))).trans bx19_x1_0
                have bx20_x1_1 := (World.cell?_of_block (a := ⟨w9.heap.size, 1, none⟩) (hst20.block (w9.heap.size) sz19_x1 (fun hf => by have h1 := hf.1; have h2 := hf.2; omega))).trans bx19_x1_1
                have bx20_x1_2 := (World.cell?_of_block (a := ⟨w9.heap.size, 2, none⟩) (hst20.block (w9.heap.size) sz19_x1 (fun hf => by have h1 := hf.1; have h2 := hf.2; omega))).trans bx19_x1_2
                have bx20_x1_3 := (World.cell?_of_block (a := ⟨w9.heap.size, 3, none⟩) (hst20.block (w9.heap.size) sz19_x1 (fun hf => by have h1 := hf.1; have h2 := hf.2; omega))).trans bx19_x1_3
                have bx20_x1_4 := (World.cell?_of_block (a := ⟨w9.heap.size, 4, none⟩) (hst20.block (w9.heap.size) sz19_x1 (fun hf => by have h1 := hf.1; have h2 := hf.2; omega))).trans bx19_x1_4
                have bx20_x1_5 := (World.cell?_of_block (a := ⟨w9.heap.size, 5, none⟩) (hst20.block (w9.heap.size) sz19_x1 (fun hf => by have h1 := hf.1; have h2 := hf.2; omega))).trans bx19_x1_5
                have sz20_x2 := Nat.lt_of_lt_of_le sz19_x2 hst20.size
                have bx20_x2_0 := (World.cell?_of_block (a := ⟨w10.heap.size, 0, none⟩) (hst20.block (w10.heap.size) sz19_x2 (fun hf => by have h1 := hf.1; have h2 := hf.2; omega))).trans bx19_x2_0
                have bx20_x2_1 := (World.cell?_of_block (a := ⟨w10.heap.size, 1, none⟩) (hst20.block (w10.heap.size) sz19_x2 (fun hf => by have h1 := hf.1; have h2 := hf.2; omega))).trans bx19_x2_1
                have sz20_g0 := Nat.lt_of_lt_of_le sz19_g0 hst20.size
                have bx20_g0_0 := (World.cell?_of_block (a := ⟨w11.heap.size, 0, none⟩) (hst20.block (w11.heap.size) sz19_g0 (fun hf => by have h1 := hf.1; have h2 := hf.2; omega))).trans bx19_g0_0
                have bx20_g0_1 := (World.cell?_of_block (a := ⟨w11.heap.size, 1, none⟩) (hst20.block (w11.heap.size) sz19_g0 (fun hf => by have h1 := hf.1; have h2 := hf.2; omega))).trans bx19_g0_1
                have HO20_1_R_7 := Lib.hid (HO19_1_R_7.out.kept (hst20.kept (fun y hy hf => by have h1 := hy.1; have h2 := hy.2; have h3 := hf.1; have h4 := hf.2; omega)))
                have HO20_1_vC_10 := Lib.hid (HO19_1_vC_10.out.kept (hst20.kept (fun y hy hf => by have h1 := hy.1; have h2 := hy.2; have h3 := hf.1; have h4 := hf.2; omega)))
                have HO20_1_R_11 := Lib.hid (HO19_1_R_11.out.kept (hst20.kept (fun y hy hf => by have h1 := hy.1; have h2 := hy.2; have h3 := hf.1; have h4 := hf.2; omega)))
                have HO20_0_vG_13 := Lib.hid (HO19_0_vG_13.out.kept (hst20.kept (fun y hy hf => by have h1 := hy.1; have h2 := hy.2; have h3 := hf.1; have h4 := hf.2; omega)))
                have HO20_1_vG_13 := Lib.hid (HO19_1_vG_13.out.kept (hst20.kept (fun y hy hf => by have h1 := hy.1; have h2 := hy.2; have h3 := hf.1; have h4 := hf.2; omega)))
                have HO20_2_vR_15 := Lib.hid (HO19_2_vR_15.out.kept (hst20.kept (fun y hy hf => by have h1 := hy.1; have h2 := hy.2; have h3 := hf.1; have h4 := hf.2; omega)))
                have HO20_4_vR_15 := Lib.hid (HO19_4_vR_15.out.kept (hst20.kept (fun y hy hf => by have h1 := hy.1; have h2 := hy.2; have h3 := hf.1; have h4 := hf.2; omega)))
                have HO20_5_vR_15 := Lib.hid (HO19_5_vR_15.out.kept (hst20.kept (fun y hy hf => by have h1 := hy.1; have h2 := hy.2; have h3 := hf.1; have h4 := hf.2; omega)))
                have HO20_1_vC_17 := Lib.hid (HO19_1_vC_17.out.kept (hst20.kept (fun y hy hf => by have h1 := hy.1; have h2 := hy.2; have h3 := hf.1; have h4 := hf.2; omega)))
                have HR20_vC_10 := Lib.hid (HR19_vC_10.out.kept (hst20.kept (fun y hy hf => by have h1 := hy.1; have h2 := hy.2; have h3 := hf.1; have h4 := hf.2; omega)))
                have HB20 := Lib.hid (HB19.out.trans (hst20.below (fun y hy => by have := hy.1; omega) HB19.out.size))
                clear bx19_paG_0 bx19_paG_1 sz19_paG bx19_paR_0 bx19_paR_1 bx19_paR_2 bx19_paR_3 bx19_paR_4 bx19_paR_5 sz19_paR bx19_paC_0 bx19_paC_1 sz19_paC bx19_w0_0 bx19_w0_1 sz19_w0 bx19_x0_0 bx19_x0_1 sz19_x0 bx19_x1_0 bx19_x1_1 bx19_x1_2 bx19_x1_3 bx19_x1_4 bx19_x1_5 sz19_x1 bx19_x2_0 bx19_x2_1 sz19_x2 bx19_g0_0 bx19_g0_1 sz19_g0 HO19_2_vR_9 HO19_4_vR_9 HO19_5_vR_9 HO19_1_R_7 HO19_1_vC_10 HO19_1_R_11 HO19_0_vG_13 HO19_1_vG_13 HO19_2_vR_15 HO19_4_vR_15 HO19_5_vR_15 HO19_1_vC_17 HR19_vR_9 HR19_vC_10 hw20 hst20 HB19
                go_wp2_with fail
                refine (wmark_Relation (c1 := c1_vC_10) vC hq_vC k20 (by omega) (by omega) _ (fun y hy => Nat.lt_of_lt_of_le (show y < w20.heap.size by have := hy.2; omega) (Below.size (by repeat (first | (with_reducible exact Below.refl _ _) | (with_reducible apply Below.drew) | (with_reducible refine below_drewN ?_ _) | (refine Below.setCell ?_ (by simp <;> omega) _) | (refine Below.alloc ?_ (by simp <;> omega) _)) : Below w20.heap.size w20 _))) (HR20_vC_10.out.kept (Kept.of_below (by repeat (first | (with_reducible exact Below.refl _ _) | (with_reducible apply Below.drew) | (with_reducible refine below_drewN ?_ _) | (refine Below.setCell ?_ (by simp <;> omega) _) | (refine Below.alloc ?_ (by simp <;> omega) _)) : Below w20.heap.size w20 _) (fun y hy => by have := hy.2; omega)))).mono ?_
                rintro e w21 ⟨k21, rfl, hka21, hkb21, hw21⟩
                as_aux_lemma =>
                have hkz21 : 1 ≤ k21 ∧ k21 ≤ 4294967296 := by omega
                have hst21 : WritesF (fun y => w9.heap.size + 1 ≤ y ∧ y < w10.heap.size) w20 w21 := hw21.of_below (by repeat (first | (with_reducible exact Below.refl _ _) | (with_reducible apply Below.drew) | (with_reducible refine below_drewN ?_ _) | (refine Below.setCell ?_ (by simp <;> omega) _) | (refine Below.alloc ?_ (by simp <;> omega) _)) : Below w20.heap.size w20 _)
                have hr21 : w20.heap.size ≤ w21.heap.size := Nat.le_trans (by first | exact Nat.le_refl _ | (simp; done) | (simp; omega) | (simp [World.setCell]; done) | (simp [World.setCell]; omega)) hw21.size
                have sz21_paG := Nat.lt_of_lt_of_le sz20_paG hst21.size
                have bx21_paG_0 := (World.cell?_of_block (a := ⟨w.heap.size, 0, none⟩) (hst21.block (w.heap.size) sz20_paG (fun hf => by have h1 := hf.1; have h2 := hf.2; omega))).trans bx20_paG_0
                have bx21_paG_1 := (World.cell?_of_block (a := ⟨w.heap.size, 1, none⟩) (hst21.block (w.heap.size) sz20_paG (fun hf => by have h1 := hf.1; have h2 := hf.2; omega))).trans bx20_paG_1
                have sz21_paR := Nat.lt_of_lt_of_le sz20_paR hst21.size
                have bx21_paR_0 := (World.cell?_of_block (a := ⟨w.heap.size + 1, 0, none⟩) (hst21.block (w.heap.size + 1) sz20_paR (fun hf => by have h1 := hf.1; have h2 := hf.2; omega))).trans bx20_paR_0
                have bx21_paR_1 := (World.cell?_of_block (a := ⟨w.heap.size + 1, 1, none⟩) (hst21.block (w.heap.size + 1) sz20_paR (fun hf => by have h1 := hf.1; have h2 := hf.2; omega))).trans bx20_paR_1
                have bx21_paR_2 := (World.cell?_of_block (a := ⟨w.heap.size + 1, 2, none⟩) (hst21.block (w.heap.size + 1) sz20_paR (fun hf => by have h1 := hf.1; have h2 := hf.2; omega))).trans bx20_paR_2
                have bx21_paR_3 := (World.cell?_of_block (a := ⟨w.heap.size + 1, 3, none⟩) (hst21.block (w.heap.size + 1) sz20_paR (fun hf => by have h1 := hf.1; have h2 := hf.2; omega))).trans bx20_paR_3
                have bx21_paR_4 := (World.cell?_of_block (a := ⟨w.heap.size + 1, 4, none⟩) (hst21.block (w.heap.size + 1) sz20_paR (fun hf => by have h1 := hf.1; have h2 := hf.2; omega))).trans bx20_paR_4
                have bx21_paR_5 := (World.cell?_of_block (a := ⟨w.heap.size + 1, 5, none⟩) (hst21.block (w.heap.size + 1) sz20_paR (fun hf => by have h1 := hf.1; have h2 := hf.2; omega))).trans bx20_paR_5
                have sz21_paC := Nat.lt_of_lt_of_le sz20_paC hst21.size
                have bx21_paC_0 := (World.cell?_of_block (a := ⟨w.heap.size + 2, 0, none⟩) (hst21.block (w.heap.size + 2) sz20_paC (fun hf => by have h1 := hf.1; have h2 := hf.2; omega))).trans bx20_paC_0
                have bx21_paC_1 := (World.cell?_of_block (a := ⟨w.heap.size + 2, 1, none⟩) (hst21.block (w.heap.size + 2) sz20_paC (fun hf => by have h1 := hf.1; have h2 := hf.2; omega))).trans bx20_paC_1
                have sz21_w0 := Nat.lt_of_lt_of_le sz20_w0 hst21.size
                have bx21_w0_0 := (World.cell?_of_block (a := ⟨bV7, 0, none⟩) (hst21.block (bV7) sz20_w0 (fun hf => by have h1 := hf.1; have h2 := hf.2; omega))).trans bx20_w0_0
                have bx21_w0_1 := (World.cell?_of_block (a := ⟨bV7, 1, none⟩) (hst21.block (bV7) sz20_w0 (fun hf => by have h1 := hf.1; have h2 := hf.2; omega))).trans bx20_w0_1
                have sz21_x0 := Nat.lt_of_lt_of_le sz20_x0 hst21.size
                have bx21_x0_0 := (World.cell?_of_block (a := ⟨w8.heap.size, 0, none⟩) (hst21.block (w8.heap.size) sz20_x0 (fun hf => by have h1 := hf.1; have h2 := hf.2; omega))).trans bx20_x0_0
                have bx21_x0_1 := (World.cell?_of_block (a := ⟨w8.heap.size, 1, none⟩) (hst21.block (w8.heap.size) sz20_x0 (fun hf => by have h1 := hf.1; have h2 := hf.2; omega))).trans bx20_x0_1
                have sz21_x1 := Nat.lt_of_lt_of_le sz20_x1 hst21.size
                have bx21_x1_0 := (World.cell?_of_block (a := ⟨w9.heap.size, 0, none⟩) (hst21.block (w9.heap.size) sz20_x1 (fun hf => by have h1 := hf.1; have h2 := hf.2; omega))).trans bx20_x1_0
                have bx21_x1_1 := (World.cell?_of_block (a := ⟨w9.heap.size, 1, none⟩) (hst21.block (w9.heap.size) sz20_x1 (fun hf => by have h1 := hf.1; have h2 := hf.2; omega))).trans bx20_x1_1
                have bx21_x1_2 := (World.cell?_of_block (a := ⟨w9.heap.size, 2, none⟩) (hst21.block (w9.heap.size) sz20_x1 (fun hf => by have h1 := hf.1; have h2 := hf.2; omega))).trans bx20_x1_2
                have bx21_x1_3 := (World.cell?_of_block (a := ⟨w9.heap.size, 3, none⟩) (hst21.block (w9.heap.size) sz20_x1 (fun hf => by have h1 := hf.1; have h2 := hf.2; omega))).trans bx20_x1_3
                have bx21_x1_4 := (World.cell?_of_block (a := ⟨w9.heap.size, 4, none⟩) (hst21.block (w9.heap.size) sz20_x1 (fun hf => by have h1 := hf.1; have h2 := hf.2; omega))).trans bx20_x1_4
                have bx21_x1_5 := (World.cell?_of_block (a := ⟨w9.heap.size, 5, none⟩) (hst21.block (w9.heap.size) sz20_x1 (fun hf => by have h1 := hf.1; have h2 := hf.2; omega))).trans bx20_x1_5
                have sz21_x2 := Nat.lt_of_lt_of_le sz20_x2 hst21.size
                have bx21_x2_0 := (World.cell?_of_block (a := ⟨w10.heap.size, 0, none⟩) (hst21.block (w10.heap.size) sz20_x2 (fun hf => by have h1 := hf.1; have h2 := hf.2; omega))).trans bx20_x2_0
                have bx21_x2_1 := (World.cell?_of_block (a := ⟨w10.heap.size, 1, none⟩) (hst21.block (w10.heap.size) sz20_x2 (fun hf => by have h1 := hf.1; have h2 := hf.2; omega))).trans bx20_x2_1
                have sz21_g0 := Nat.lt_of_lt_of_le sz20_g0 hst21.size
                have bx21_g0_0 := (World.cell?_of_block (a := ⟨w11.heap.size, 0, none⟩) (hst21.block (w11.heap.size) sz20_g0 (fun hf => by have h1 := hf.1; have h2 := hf.2; omega))).trans bx20_g0_0
                have bx21_g0_1 := (World.cell?_of_block (a := ⟨w11.heap.size, 1, none⟩) (hst21.block (w11.heap.size) sz20_g0 (fun hf => by have h1 := hf.1; have h2 := hf.2; omega))).trans bx20_g0_1
                have HO21_1_R_7 := Lib.hid (HO20_1_R_7.out.kept (hst21.kept (fun y hy hf => by have h1 := hy.1; have h2 := hy.2; have h3 := hf.1; have h4 := hf.2; omega)))
                have HO21_1_R_11 := Lib.hid (HO20_1_R_11.out.kept (hst21.kept (fun y hy hf => by have h1 := hy.1; have h2 := hy.2; have h3 := hf.1; have h4 := hf.2; omega)))
                have HO21_0_vG_13 := Lib.hid (HO20_0_vG_13.out.kept (hst21.kept (fun y hy hf => by have h1 := hy.1; have h2 := hy.2; have h3 := hf.1; have h4 := hf.2; omega)))
                have HO21_1_vG_13 := Lib.hid (HO20_1_vG_13.out.kept (hst21.kept (fun y hy hf => by have h1 := hy.1; have h2 := hy.2; have h3 := hf.1; have h4 := hf.2; omega)))
                have HO21_2_vR_15 := Lib.hid (HO20_2_vR_15.out.kept (hst21.kept (fun y hy hf => by have h1 := hy.1; have h2 := hy.2; have h3 := hf.1; have h4 := hf.2; omega)))
                have HO21_4_vR_15 := Lib.hid (HO20_4_vR_15.out.kept (hst21.kept (fun y hy hf => by have h1 := hy.1; have h2 := hy.2; have h3 := hf.1; have h4 := hf.2; omega)))
                have HO21_5_vR_15 := Lib.hid (HO20_5_vR_15.out.kept (hst21.kept (fun y hy hf => by have h1 := hy.1; have h2 := hy.2; have h3 := hf.1; have h4 := hf.2; omega)))
                have HO21_1_vC_17 := Lib.hid (HO20_1_vC_17.out.kept (hst21.kept (fun y hy hf => by have h1 := hy.1; have h2 := hy.2; have h3 := hf.1; have h4 := hf.2; omega)))
                have HB21 := Lib.hid (HB20.out.trans (hst21.below (fun y hy => by have := hy.1; omega) HB20.out.size))
                clear bx20_paG_0 bx20_paG_1 sz20_paG bx20_paR_0 bx20_paR_1 bx20_paR_2 bx20_paR_3 bx20_paR_4 bx20_paR_5 sz20_paR bx20_paC_0 bx20_paC_1 sz20_paC bx20_w0_0 bx20_w0_1 sz20_w0 bx20_x0_0 bx20_x0_1 sz20_x0 bx20_x1_0 bx20_x1_1 bx20_x1_2 bx20_x1_3 bx20_x1_4 bx20_x1_5 sz20_x1 bx20_x2_0 bx20_x2_1 sz20_x2 bx20_g0_0 bx20_g0_1 sz20_g0 HO20_1_vC_10 HO20_1_R_7 HO20_1_R_11 HO20_0_vG_13 HO20_1_vG_13 HO20_2_vR_15 HO20_4_vR_15 HO20_5_vR_15 HO20_1_vC_17 HR20_vC_10 hw21 hst21 HB20
                go_wp2_with fail
                refine (laws_eqRelation (c1 := c1_R_11) (c1q := c1_R_7) (summ vG vR vC) hq_R _ (Below.size (by repeat (first | (with_reducible exact Below.refl _ _) | (with_reducible apply Below.drew) | (with_reducible refine below_drewN ?_ _) | (refine Below.setCell ?_ (by simp <;> omega) _) | (refine Below.alloc ?_ (by simp <;> omega) _)) : Below w21.heap.size w21 _)) (Below.size (by repeat (first | (with_reducible exact Below.refl _ _) | (with_reducible apply Below.drew) | (with_reducible refine below_drewN ?_ _) | (refine Below.setCell ?_ (by simp <;> omega) _) | (refine Below.alloc ?_ (by simp <;> omega) _)) : Below w21.heap.size w21 _)) ((Sl.of (HO21_1_R_11.out.lies (lo := 0) (hi := w21.heap.size) (fun y hy => ⟨Nat.zero_le _, by have := hy.2; omega⟩))).later (by repeat (first | (with_reducible exact Below.refl _ _) | (with_reducible apply Below.drew) | (with_reducible refine below_drewN ?_ _) | (refine Below.setCell ?_ (by simp <;> omega) _) | (refine Below.alloc ?_ (by simp <;> omega) _)) : Below w21.heap.size w21 _) (Nat.le_refl _)) ((Sl.of (HO21_1_R_7.out.lies (lo := 0) (hi := w21.heap.size) (fun y hy => ⟨Nat.zero_le _, by have := hy.2; omega⟩))).later (by repeat (first | (with_reducible exact Below.refl _ _) | (with_reducible apply Below.drew) | (with_reducible refine below_drewN ?_ _) | (refine Below.setCell ?_ (by simp <;> omega) _) | (refine Below.alloc ?_ (by simp <;> omega) _)) : Below w21.heap.size w21 _) (Nat.le_refl _))).mono ?_
                rintro e w22 ⟨rfl, hb22⟩
                as_aux_lemma =>
                have hst22 : Below w21.heap.size w21 w22 := Below.trans (by repeat (first | (with_reducible exact Below.refl _ _) | (with_reducible apply Below.drew) | (with_reducible refine below_drewN ?_ _) | (refine Below.setCell ?_ (by simp <;> omega) _) | (refine Below.alloc ?_ (by simp <;> omega) _)) : Below w21.heap.size w21 _) (hb22.mono (Below.size (by repeat (first | (with_reducible exact Below.refl _ _) | (with_reducible apply Below.drew) | (with_reducible refine below_drewN ?_ _) | (refine Below.setCell ?_ (by simp <;> omega) _) | (refine Below.alloc ?_ (by simp <;> omega) _)) : Below w21.heap.size w21 _)))
                have hr22 : w21.heap.size ≤ w22.heap.size := Nat.le_trans (by first | exact Nat.le_refl _ | (simp; done) | (simp; omega) | (simp [World.setCell]; done) | (simp [World.setCell]; omega)) hb22.size
                have sz22_paG := Nat.lt_of_lt_of_le sz21_paG hst22.size
                have bx22_paG_0 := (hst22.cell (p := ⟨w.heap.size, 0, none⟩) sz21_paG).trans bx21_paG_0
                have bx22_paG_1 := (hst22.cell (p := ⟨w.heap.size, 1, none⟩) sz21_paG).trans bx21_paG_1
                have sz22_paR := Nat.lt_of_lt_of_le sz21_paR hst22.size
                have bx22_paR_0 := (hst22.cell (p := ⟨w.heap.size + 1, 0, none⟩) sz21_paR).trans bx21_paR_0
                have bx22_paR_1 := (hst22.cell (p := ⟨w.heap.size + 1, 1, none⟩) sz21_paR).trans bx21_paR_1
                have bx22_paR_2 := (hst22.cell (p := ⟨w.heap.size + 1, 2, none⟩) sz21_paR).trans bx21_paR_2
                have bx22_paR_3 := (hst22.cell (p := ⟨w.heap.size + 1, 3, none⟩) sz21_paR).trans bx21_paR_3
                have bx22_paR_4 := (hst22.cell (p := ⟨w.heap.size + 1, 4, none⟩) sz21_paR).trans bx21_paR_4
                have bx22_paR_5 := (hst22.cell (p := ⟨w.heap.size + 1, 5, none⟩) sz21_paR).trans bx21_paR_5
                have sz22_paC := Nat.lt_of_lt_of_le sz21_paC hst22.size
                have bx22_paC_0 := (hst22.cell (p := ⟨w.heap.size + 2, 0, none⟩) sz21_paC).trans bx21_paC_0
                have bx22_paC_1 := (hst22.cell (p := ⟨w.heap.size + 2, 1, none⟩) sz21_paC).trans bx21_paC_1
                have sz22_w0 := Nat.lt_of_lt_of_le sz21_w0 hst22.size
                have bx22_w0_0 := (hst22.cell (p := ⟨bV7, 0, none⟩) sz21_w0).trans bx21_w0_0
                have bx22_w0_1 := (hst22.cell (p := ⟨bV7, 1, none⟩) sz21_w0).trans bx21_w0_1
                have sz22_x0 := Nat.lt_of_lt_of_le sz21_x0 hst22.size
                have bx22_x0_0 := (hst22.cell (p := ⟨w8.heap.size, 0, none⟩) sz21_x0).trans bx21_x0_0
                have bx22_x0_1 := (hst22.cell (p := ⟨w8.heap.size, 1, none⟩) sz21_x0).trans bx21_x0_1
                have sz22_x1 := Nat.lt_of_lt_of_le sz21_x1 hst22.size
                have bx22_x1_0 := (hst22.cell (p := ⟨w9.heap.size, 0, none⟩) sz21_x1).trans bx21_x1_0
                have bx22_x1_1 := (hst22.cell (p := ⟨w9.heap.size, 1, none⟩) sz21_x1).trans bx21_x1_1
                have bx22_x1_2 := (hst22.cell (p := ⟨w9.heap.size, 2, none⟩) sz21_x1).trans bx21_x1_2
                have bx22_x1_3 := (hst22.cell (p := ⟨w9.heap.size, 3, none⟩) sz21_x1).trans bx21_x1_3
                have bx22_x1_4 := (hst22.cell (p := ⟨w9.heap.size, 4, none⟩) sz21_x1).trans bx21_x1_4
                have bx22_x1_5 := (hst22.cell (p := ⟨w9.heap.size, 5, none⟩) sz21_x1).trans bx21_x1_5
                have sz22_x2 := Nat.lt_of_lt_of_le sz21_x2 hst22.size
                have bx22_x2_0 := (hst22.cell (p := ⟨w10.heap.size, 0, none⟩) sz21_x2).trans bx21_x2_0
                have bx22_x2_1 := (hst22.cell (p := ⟨w10.heap.size, 1, none⟩) sz21_x2).trans bx21_x2_1
                have sz22_g0 := Nat.lt_of_lt_of_le sz21_g0 hst22.size
                have bx22_g0_0 := (hst22.cell (p := ⟨w11.heap.size, 0, none⟩) sz21_g0).trans bx21_g0_0
                have bx22_g0_1 := (hst22.cell (p := ⟨w11.heap.size, 1, none⟩) sz21_g0).trans bx21_g0_1
                have HO22_1_R_7 := Lib.hid (HO21_1_R_7.out.kept (Kept.of_below_all hst22))
                have HO22_1_R_11 := Lib.hid (HO21_1_R_11.out.kept (Kept.of_below_all hst22))
                have HO22_0_vG_13 := Lib.hid (HO21_0_vG_13.out.kept (Kept.of_below_all hst22))
                have HO22_1_vG_13 := Lib.hid (HO21_1_vG_13.out.kept (Kept.of_below_all hst22))
                have HO22_2_vR_15 := Lib.hid (HO21_2_vR_15.out.kept (Kept.of_below_all hst22))
                have HO22_4_vR_15 := Lib.hid (HO21_4_vR_15.out.kept (Kept.of_below_all hst22))
                have HO22_5_vR_15 := Lib.hid (HO21_5_vR_15.out.kept (Kept.of_below_all hst22))
                have HO22_1_vC_17 := Lib.hid (HO21_1_vC_17.out.kept (Kept.of_below_all hst22))
                have HB22 := Lib.hid (HB21.out.trans (hst22.mono HB21.out.size))
                clear bx21_paG_0 bx21_paG_1 sz21_paG bx21_paR_0 bx21_paR_1 bx21_paR_2 bx21_paR_3 bx21_paR_4 bx21_paR_5 sz21_paR bx21_paC_0 bx21_paC_1 sz21_paC bx21_w0_0 bx21_w0_1 sz21_w0 bx21_x0_0 bx21_x0_1 sz21_x0 bx21_x1_0 bx21_x1_1 bx21_x1_2 bx21_x1_3 bx21_x1_4 bx21_x1_5 sz21_x1 bx21_x2_0 bx21_x2_1 sz21_x2 bx21_g0_0 bx21_g0_1 sz21_g0 HO21_1_R_7 HO21_1_R_11 HO21_0_vG_13 HO21_1_vG_13 HO21_2_vR_15 HO21_4_vR_15 HO21_5_vR_15 HO21_1_vC_17 hb22 hst22 HB21
                go_wp2_with fail
                refine (laws_markRelation (c1 := c1_R_11) (summ vG vR vC) (by have h1 := (summ_small vG vR vC).len; omega) 1 (by have h1 := (summ_small vG vR vC).len; omega) _ (fun y hy => Nat.lt_of_lt_of_le (show y < w22.heap.size by have := hy.2; omega) (Below.size (by repeat (first | (with_reducible exact Below.refl _ _) | (with_reducible apply Below.drew) | (with_reducible refine below_drewN ?_ _) | (refine Below.setCell ?_ (by simp <;> omega) _) | (refine Below.alloc ?_ (by simp <;> omega) _)) : Below w22.heap.size w22 _))) (HO22_1_R_11.out.kept (Kept.of_below (by repeat (first | (with_reducible exact Below.refl _ _) | (with_reducible apply Below.drew) | (with_reducible refine below_drewN ?_ _) | (refine Below.setCell ?_ (by simp <;> omega) _) | (refine Below.alloc ?_ (by simp <;> omega) _)) : Below w22.heap.size w22 _) (fun y hy => by have := hy.2; omega)))).mono ?_
                rintro e w23 ⟨rfl, ho23, hw23⟩
                as_aux_lemma =>
                have hst23 : WritesF (fun y => w10.heap.size + 1 ≤ y ∧ y < w11.heap.size) w22 w23 := hw23.of_below (by repeat (first | (with_reducible exact Below.refl _ _) | (with_reducible apply Below.drew) | (with_reducible refine below_drewN ?_ _) | (refine Below.setCell ?_ (by simp <;> omega) _) | (refine Below.alloc ?_ (by simp <;> omega) _)) : Below w22.heap.size w22 _)
                have hr23 : w22.heap.size ≤ w23.heap.size := Nat.le_trans (by first | exact Nat.le_refl _ | (simp; done) | (simp; omega) | (simp [World.setCell]; done) | (simp [World.setCell]; omega)) hw23.size
                have sz23_paG := Nat.lt_of_lt_of_le sz22_paG hst23.size
                have bx23_paG_0 := (World.cell?_of_block (a := ⟨w.heap.size, 0, none⟩) (hst23.block (w.heap.size) sz22_paG (fun hf => by have h1 := hf.1; have h2 := hf.2; omega))).trans bx22_paG_0
                have bx23_paG_1 := (World.cell?_of_block (a := ⟨w.heap.size, 1, none⟩) (hst23.block (w.heap.size) sz22_paG (fun hf => by have h1 := hf.1; have h2 := hf.2; omega))).trans bx22_paG_1
                have sz23_paR := Nat.lt_of_lt_of_le sz22_paR hst23.size
                have bx23_paR_0 := (World.cell?_of_block (a := ⟨w.heap.size + 1, 0, none⟩) (hst23.block (w.heap.size + 1) sz22_paR (fun hf => by have h1 := hf.1; have h2 := hf.2; omega))).trans bx22_paR_0
                have bx23_paR_1 := (World.cell?_of_block (a := ⟨w.heap.size + 1, 1, none⟩) (hst23.block (w.heap.size + 1) sz22_paR (fun hf => by have h1 := hf.1; have h2 := hf.2; omega))).trans bx22_paR_1
                have bx23_paR_2 := (World.cell?_of_block (a := ⟨w.heap.size + 1, 2, none⟩) (hst23.block (w.heap.size + 1) sz22_paR (fun hf => by have h1 := hf.1; have h2 := hf.2; omega))).trans bx22_paR_2
                have bx23_paR_3 := (World.cell?_of_block (a := ⟨w.heap.size + 1, 3, none⟩) (hst23.block (w.heap.size + 1) sz22_paR (fun hf => by have h1 := hf.1; have h2 := hf.2; omega))).trans bx22_paR_3
                have bx23_paR_4 := (World.cell?_of_block (a := ⟨w.heap.size + 1, 4, none⟩) (hst23.block (w.heap.size + 1) sz22_paR (fun hf => by have h1 := hf.1; have h2 := hf.2; omega))).trans bx22_paR_4
                have bx23_paR_5 := (World.cell?_of_block (a := ⟨w.heap.size + 1, 5, none⟩) (hst23.block (w.heap.size + 1) sz22_paR (fun hf => by have h1 := hf.1; have h2 := hf.2; omega))).trans bx22_paR_5
                have sz23_paC := Nat.lt_of_lt_of_le sz22_paC hst23.size
                have bx23_paC_0 := (World.cell?_of_block (a := ⟨w.heap.size + 2, 0, none⟩) (hst23.block (w.heap.size + 2) sz22_paC (fun hf => by have h1 := hf.1; have h2 := hf.2; omega))).trans bx22_paC_0
                have bx23_paC_1 := (World.cell?_of_block (a := ⟨w.heap.size + 2, 1, none⟩) (hst23.block (w.heap.size + 2) sz22_paC (fun hf => by have h1 := hf.1; have h2 := hf.2; omega))).trans bx22_paC_1
                have sz23_w0 := Nat.lt_of_lt_of_le sz22_w0 hst23.size
                have bx23_w0_0 := (World.cell?_of_block (a := ⟨bV7, 0, none⟩) (hst23.block (bV7) sz22_w0 (fun hf => by have h1 := hf.1; have h2 := hf.2; omega))).trans bx22_w0_0
                have bx23_w0_1 := (World.cell?_of_block (a := ⟨bV7, 1, none⟩) (hst23.block (bV7) sz22_w0 (fun hf => by have h1 := hf.1; have h2 := hf.2; omega))).trans bx22_w0_1
                have sz23_x0 := Nat.lt_of_lt_of_le sz22_x0 hst23.size
                have bx23_x0_0 := (World.cell?_of_block (a := ⟨w8.heap.size, 0, none⟩) (hst23.block (w8.heap.size) sz22_x0 (fun hf => by have h1 := hf.1; have h2 := hf.2; omega))).trans bx22_x0_0
                have bx23_x0_1 := (World.cell?_of_block (a := ⟨w8.heap.size, 1, none⟩) (hst23.block (w8.heap.size) sz22_x0 (fun hf => by have h1 := hf.1; have h2 := hf.2; omega))).trans bx22_x0_1
                have sz23_x1 := Nat.lt_of_lt_of_le sz22_x1 hst23.size
                have bx23_x1_0 := (World.cell?_of_block (a := ⟨w9.heap.size, 0, none⟩) (hst23.block (w9.heap.size) sz22_x1 (fun hf => by have h1 := hf.1; have h2 := hf.2; omega))).trans bx22_x1_0
                have bx23_x1_1 := (World.cell?_of_block (a := ⟨w9.heap.size, 1, none⟩) (hst23.block (w9.heap.size) sz22_x1 (fun hf => by have h1 := hf.1; have h2 := hf.2; omega))).trans bx22_x1_1
                have bx23_x1_2 := (World.cell?_of_block (a := ⟨w9.heap.size, 2, none⟩) (hst23.block (w9.heap.size) sz22_x1 (fun hf => by have h1 := hf.1; have h2 := hf.2; omega))).trans bx22_x1_2
                have bx23_x1_3 := (World.cell?_of_block (a := ⟨w9.heap.size, 3, none⟩) (hst23.block (w9.heap.size) sz22_x1 (fun hf => by have h1 := hf.1; have h2 := hf.2; omega))).trans bx22_x1_3
                have bx23_x1_4 := (World.cell?_of_block (a := ⟨w9.heap.size, 4, none⟩) (hst23.block (w9.heap.size) sz22_x1 (fun hf => by have h1 := hf.1; have h2 := hf.2; omega))).trans bx22_x1_4
                have bx23_x1_5 := (World.cell?_of_block (a := ⟨w9.heap.size, 5, none⟩) (hst23.block (w9.heap.size) sz22_x1 (fun hf => by have h1 := hf.1; have h2 := hf.2; omega))).trans bx22_x1_5
                have sz23_x2 := Nat.lt_of_lt_of_le sz22_x2 hst23.size
                have bx23_x2_0 := (World.cell?_of_block (a := ⟨w10.heap.size, 0, none⟩) (hst23.block (w10.heap.size) sz22_x2 (fun hf => by have h1 := hf.1; have h2 := hf.2; omega))).trans bx22_x2_0
                have bx23_x2_1 := (World.cell?_of_block (a := ⟨w10.heap.size, 1, none⟩) (hst23.block (w10.heap.size) sz22_x2 (fun hf => by have h1 := hf.1; have h2 := hf.2; omega))).trans bx22_x2_1
                have sz23_g0 := Nat.lt_of_lt_of_le sz22_g0 hst23.size
                have bx23_g0_0 := (World.cell?_of_block (a := ⟨w11.heap.size, 0, none⟩) (hst23.block (w11.heap.size) sz22_g0 (fun hf => by have h1 := hf.1; have h2 := hf.2; omega))).trans bx22_g0_0
                have bx23_g0_1 := (World.cell?_of_block (a := ⟨w11.heap.size, 1, none⟩) (hst23.block (w11.heap.size) sz22_g0 (fun hf => by have h1 := hf.1; have h2 := hf.2; omega))).trans bx22_g0_1
                have HO23_1_R_7 := Lib.hid (HO22_1_R_7.out.kept (hst23.kept (fun y hy hf => by have h1 := hy.1; have h2 := hy.2; have h3 := hf.1; have h4 := hf.2; omega)))
                have HO23_1_R_11 := Lib.hid ho23
                have HO23_0_vG_13 := Lib.hid (HO22_0_vG_13.out.kept (hst23.kept (fun y hy hf => by have h1 := hy.1; have h2 := hy.2; have h3 := hf.1; have h4 := hf.2; omega)))
                have HO23_1_vG_13 := Lib.hid (HO22_1_vG_13.out.kept (hst23.kept (fun y hy hf => by have h1 := hy.1; have h2 := hy.2; have h3 := hf.1; have h4 := hf.2; omega)))
                have HO23_2_vR_15 := Lib.hid (HO22_2_vR_15.out.kept (hst23.kept (fun y hy hf => by have h1 := hy.1; have h2 := hy.2; have h3 := hf.1; have h4 := hf.2; omega)))
                have HO23_4_vR_15 := Lib.hid (HO22_4_vR_15.out.kept (hst23.kept (fun y hy hf => by have h1 := hy.1; have h2 := hy.2; have h3 := hf.1; have h4 := hf.2; omega)))
                have HO23_5_vR_15 := Lib.hid (HO22_5_vR_15.out.kept (hst23.kept (fun y hy hf => by have h1 := hy.1; have h2 := hy.2; have h3 := hf.1; have h4 := hf.2; omega)))
                have HO23_1_vC_17 := Lib.hid (HO22_1_vC_17.out.kept (hst23.kept (fun y hy hf => by have h1 := hy.1; have h2 := hy.2; have h3 := hf.1; have h4 := hf.2; omega)))
                have HB23 := Lib.hid (HB22.out.trans (hst23.below (fun y hy => by have := hy.1; omega) HB22.out.size))
                clear bx22_paG_0 bx22_paG_1 sz22_paG bx22_paR_0 bx22_paR_1 bx22_paR_2 bx22_paR_3 bx22_paR_4 bx22_paR_5 sz22_paR bx22_paC_0 bx22_paC_1 sz22_paC bx22_w0_0 bx22_w0_1 sz22_w0 bx22_x0_0 bx22_x0_1 sz22_x0 bx22_x1_0 bx22_x1_1 bx22_x1_2 bx22_x1_3 bx22_x1_4 bx22_x1_5 sz22_x1 bx22_x2_0 bx22_x2_1 sz22_x2 bx22_g0_0 bx22_g0_1 sz22_g0 HO22_1_R_7 ho23 HO22_1_R_11 HO22_0_vG_13 HO22_1_vG_13 HO22_2_vR_15 HO22_4_vR_15 HO22_5_vR_15 HO22_1_vC_17 hw23 hst23 HB22
                go_wp2_with fail
                refine (laws_heldRelation (c1 := c1_R_11) (summ vG vR vC) (by have h1 := (summ_small vG vR vC).len; omega) 1 (by have h1 := (summ_small vG vR vC).len; omega) _ (fun y hy => Nat.lt_of_lt_of_le (show y < w23.heap.size by have := hy.2; omega) (Below.size (by repeat (first | (with_reducible exact Below.refl _ _) | (with_reducible apply Below.drew) | (with_reducible refine below_drewN ?_ _) | (refine Below.setCell ?_ (by simp <;> omega) _) | (refine Below.alloc ?_ (by simp <;> omega) _)) : Below w23.heap.size w23 _))) (HO23_1_R_11.out.kept (Kept.of_below (by repeat (first | (with_reducible exact Below.refl _ _) | (with_reducible apply Below.drew) | (with_reducible refine below_drewN ?_ _) | (refine Below.setCell ?_ (by simp <;> omega) _) | (refine Below.alloc ?_ (by simp <;> omega) _)) : Below w23.heap.size w23 _) (fun y hy => by have := hy.2; omega)))).mono ?_
                rintro e w24 ⟨rfl, hb24⟩
                as_aux_lemma =>
                have hst24 : Below w23.heap.size w23 w24 := Below.trans (by repeat (first | (with_reducible exact Below.refl _ _) | (with_reducible apply Below.drew) | (with_reducible refine below_drewN ?_ _) | (refine Below.setCell ?_ (by simp <;> omega) _) | (refine Below.alloc ?_ (by simp <;> omega) _)) : Below w23.heap.size w23 _) (hb24.mono (Below.size (by repeat (first | (with_reducible exact Below.refl _ _) | (with_reducible apply Below.drew) | (with_reducible refine below_drewN ?_ _) | (refine Below.setCell ?_ (by simp <;> omega) _) | (refine Below.alloc ?_ (by simp <;> omega) _)) : Below w23.heap.size w23 _)))
                have hr24 : w23.heap.size ≤ w24.heap.size := Nat.le_trans (by first | exact Nat.le_refl _ | (simp; done) | (simp; omega) | (simp [World.setCell]; done) | (simp [World.setCell]; omega)) hb24.size
                have sz24_paG := Nat.lt_of_lt_of_le sz23_paG hst24.size
                have bx24_paG_0 := (hst24.cell (p := ⟨w.heap.size, 0, none⟩) sz23_paG).trans bx23_paG_0
                have bx24_paG_1 := (hst24.cell (p := ⟨w.heap.size, 1, none⟩) sz23_paG).trans bx23_paG_1
                have sz24_paR := Nat.lt_of_lt_of_le sz23_paR hst24.size
                have bx24_paR_0 := (hst24.cell (p := ⟨w.heap.size + 1, 0, none⟩) sz23_paR).trans bx23_paR_0
                have bx24_paR_1 := (hst24.cell (p := ⟨w.heap.size + 1, 1, none⟩) sz23_paR).trans bx23_paR_1
                have bx24_paR_2 := (hst24.cell (p := ⟨w.heap.size + 1, 2, none⟩) sz23_paR).trans bx23_paR_2
                have bx24_paR_3 := (hst24.cell (p := ⟨w.heap.size + 1, 3, none⟩) sz23_paR).trans bx23_paR_3
                have bx24_paR_4 := (hst24.cell (p := ⟨w.heap.size + 1, 4, none⟩) sz23_paR).trans bx23_paR_4
                have bx24_paR_5 := (hst24.cell (p := ⟨w.heap.size + 1, 5, none⟩) sz23_paR).trans bx23_paR_5
                have sz24_paC := Nat.lt_of_lt_of_le sz23_paC hst24.size
                have bx24_paC_0 := (hst24.cell (p := ⟨w.heap.size + 2, 0, none⟩) sz23_paC).trans bx23_paC_0
                have bx24_paC_1 := (hst24.cell (p := ⟨w.heap.size + 2, 1, none⟩) sz23_paC).trans bx23_paC_1
                have sz24_w0 := Nat.lt_of_lt_of_le sz23_w0 hst24.size
                have bx24_w0_0 := (hst24.cell (p := ⟨bV7, 0, none⟩) sz23_w0).trans bx23_w0_0
                have bx24_w0_1 := (hst24.cell (p := ⟨bV7, 1, none⟩) sz23_w0).trans bx23_w0_1
                have sz24_x0 := Nat.lt_of_lt_of_le sz23_x0 hst24.size
                have bx24_x0_0 := (hst24.cell (p := ⟨w8.heap.size, 0, none⟩) sz23_x0).trans bx23_x0_0
                have bx24_x0_1 := (hst24.cell (p := ⟨w8.heap.size, 1, none⟩) sz23_x0).trans bx23_x0_1
                have sz24_x1 := Nat.lt_of_lt_of_le sz23_x1 hst24.size
                have bx24_x1_0 := (hst24.cell (p := ⟨w9.heap.size, 0, none⟩) sz23_x1).trans bx23_x1_0
                have bx24_x1_1 := (hst24.cell (p := ⟨w9.heap.size, 1, none⟩) sz23_x1).trans bx23_x1_1
                have bx24_x1_2 := (hst24.cell (p := ⟨w9.heap.size, 2, none⟩) sz23_x1).trans bx23_x1_2
                have bx24_x1_3 := (hst24.cell (p := ⟨w9.heap.size, 3, none⟩) sz23_x1).trans bx23_x1_3
                have bx24_x1_4 := (hst24.cell (p := ⟨w9.heap.size, 4, none⟩) sz23_x1).trans bx23_x1_4
                have bx24_x1_5 := (hst24.cell (p := ⟨w9.heap.size, 5, none⟩) sz23_x1).trans bx23_x1_5
                have sz24_x2 := Nat.lt_of_lt_of_le sz23_x2 hst24.size
                have bx24_x2_0 := (hst24.cell (p := ⟨w10.heap.size, 0, none⟩) sz23_x2).trans bx23_x2_0
                have bx24_x2_1 := (hst24.cell (p := ⟨w10.heap.size, 1, none⟩) sz23_x2).trans bx23_x2_1
                have sz24_g0 := Nat.lt_of_lt_of_le sz23_g0 hst24.size
                have bx24_g0_0 := (hst24.cell (p := ⟨w11.heap.size, 0, none⟩) sz23_g0).trans bx23_g0_0
                have bx24_g0_1 := (hst24.cell (p := ⟨w11.heap.size, 1, none⟩) sz23_g0).trans bx23_g0_1
                have HO24_1_R_7 := Lib.hid (HO23_1_R_7.out.kept (Kept.of_below_all hst24))
                have HO24_1_R_11 := Lib.hid (HO23_1_R_11.out.kept (Kept.of_below_all hst24))
                have HO24_0_vG_13 := Lib.hid (HO23_0_vG_13.out.kept (Kept.of_below_all hst24))
                have HO24_1_vG_13 := Lib.hid (HO23_1_vG_13.out.kept (Kept.of_below_all hst24))
                have HO24_2_vR_15 := Lib.hid (HO23_2_vR_15.out.kept (Kept.of_below_all hst24))
                have HO24_4_vR_15 := Lib.hid (HO23_4_vR_15.out.kept (Kept.of_below_all hst24))
                have HO24_5_vR_15 := Lib.hid (HO23_5_vR_15.out.kept (Kept.of_below_all hst24))
                have HO24_1_vC_17 := Lib.hid (HO23_1_vC_17.out.kept (Kept.of_below_all hst24))
                have HB24 := Lib.hid (HB23.out.trans (hst24.mono HB23.out.size))
                clear bx23_paG_0 bx23_paG_1 sz23_paG bx23_paR_0 bx23_paR_1 bx23_paR_2 bx23_paR_3 bx23_paR_4 bx23_paR_5 sz23_paR bx23_paC_0 bx23_paC_1 sz23_paC bx23_w0_0 bx23_w0_1 sz23_w0 bx23_x0_0 bx23_x0_1 sz23_x0 bx23_x1_0 bx23_x1_1 bx23_x1_2 bx23_x1_3 bx23_x1_4 bx23_x1_5 sz23_x1 bx23_x2_0 bx23_x2_1 sz23_x2 bx23_g0_0 bx23_g0_1 sz23_g0 HO23_1_R_7 HO23_1_R_11 HO23_0_vG_13 HO23_1_vG_13 HO23_2_vR_15 HO23_4_vR_15 HO23_5_vR_15 HO23_1_vC_17 hb24 hst24 HB23
                go_upto_region 38 with fail
                go_cut [16] from 96 to 102 (fun sW wx => ∃ (bW lW hW : Nat) (aW : Option Addr) (cW : Nat), sW = .pointer (some ⟨bW, 0, none⟩) ∧ wx.cell? ⟨bW, 0, none⟩ = some (.int .i64 (summ vG vR vC).fN) ∧ wx.cell? ⟨bW, 1, none⟩ = some (.slice aW (summ vG vR vC).fRows.length cW) ∧ Own wx (fun y => lW ≤ y ∧ y < hW) (.sl 1 (summ vG vR vC).fRows.length (fun k => ictI ((summ vG vR vC).fRows.getD k default))) (.slice aW (summ vG vR vC).fRows.length cW) ∧ bW < wx.heap.size ∧ w24.heap.size ≤ bW ∧ w24.heap.size ≤ lW ∧ hW ≤ wx.heap.size ∧ (bW < lW ∨ hW ≤ bW) ∧ Below w24.heap.size w24 wx)
                case first =>
                  refine wp_region_free [([], none), ([0], none), ([], none), ([2], none), ([], none), ([4], none), ([1, 3, 5], none), ([], none), ([7, 6], some 7)] [0, 1, 2, 3, 4, 5, 6, 8] (fun jq9 V L H wx => match jq9 with | 0 => V 0 = .agg #[.slice a0_vG vG.fSymbols.length c0_vG, .slice a1_vG vG.fRules.length c1_vG] | 1 => ∃ a0_vG_f1 c0_vG_f1 a1_vG_f1 c1_vG_f1, V 1 = .agg #[.slice a0_vG_f1 vG.fSymbols.length c0_vG_f1, .slice a1_vG_f1 vG.fRules.length c1_vG_f1] ∧ OwnR wx (fun y => L ≤ y ∧ y < H) 2 vG.ct (fun j => [.slice a0_vG_f1 vG.fSymbols.length c0_vG_f1, .slice a1_vG_f1 vG.fRules.length c1_vG_f1].getD j .nilFunc) | 2 => V 2 = .agg #[.string vR.fName, .string vR.fLeft, .slice a2_vR vR.fRight.length c2_vR, .bool vR.fLiteral, .slice a4_vR vR.fEquations.length c4_vR, .slice a5_vR vR.fContributions.length c5_vR] | 3 => ∃ a2_vR_f3 c2_vR_f3 a4_vR_f3 c4_vR_f3 a5_vR_f3 c5_vR_f3, V 3 = .agg #[.string vR.fName, .string vR.fLeft, .slice a2_vR_f3 vR.fRight.length c2_vR_f3, .bool vR.fLiteral, .slice a4_vR_f3 vR.fEquations.length c4_vR_f3, .slice a5_vR_f3 vR.fContributions.length c5_vR_f3] ∧ OwnR wx (fun y => L ≤ y ∧ y < H) 6 vR.ct (fun j => [.string vR.fName, .string vR.fLeft, .slice a2_vR_f3 vR.fRight.length c2_vR_f3, .bool vR.fLiteral, .slice a4_vR_f3 vR.fEquations.length c4_vR_f3, .slice a5_vR_f3 vR.fContributions.length c5_vR_f3].getD j .nilFunc) | 4 => V 4 = .agg #[.int .i64 vC.fN, .slice a1_vC vC.fRows.length c1_vC] | 5 => ∃ a1_vC_f5 c1_vC_f5, V 5 = .agg #[.int .i64 vC.fN, .slice a1_vC_f5 vC.fRows.length c1_vC_f5] ∧ OwnR wx (fun y => L ≤ y ∧ y < H) 2 vC.ct (fun j => [.int .i64 vC.fN, .slice a1_vC_f5 vC.fRows.length c1_vC_f5].getD j .nilFunc) | 6 => ∃ a1_R_f6 c1_R_f6, V 6 = .agg #[.int .i64 (summ vG vR vC).fN, .slice a1_R_f6 (summ vG vR vC).fRows.length c1_R_f6] ∧ Own wx (fun y => L ≤ y ∧ y < H) (.sl 1 (summ vG vR vC).fRows.length (fun k => ictI ((summ vG vR vC).fRows.getD k default))) (.slice a1_R_f6 (summ vG vR vC).fRows.length c1_R_f6) | 7 => V 7 = .pointer (some ⟨L, 0, none⟩) ∧ L < H ∧ wx.cell? ⟨L, 0, none⟩ = some (.int .i64 0) ∧ wx.frozen? ⟨L, 0, none⟩ = false ∧ wx.cell? ⟨L, 1, none⟩ = some (.slice none 0 0) ∧ wx.frozen? ⟨L, 1, none⟩ = false | 8 => ∀ x0 x1, V 6 = .agg #[x0, x1] → L < H ∧ wx.cell? ⟨L, 0, none⟩ = some x0 ∧ wx.cell? ⟨L, 1, none⟩ = some x1 | _ => True) (by kernel_rfl) (by kernel_rfl) ?loc ?lasts ?walk
                  case loc =>
                    intro k V V' L H wx h0 h1 hG
                    match k with
                    | 0 =>
                      try dsimp only at hG ⊢
                      rw [← h0]
                      exact hG
                    | 1 =>
                      have e0 := h1 0 (by decide)
                      try dsimp only at hG ⊢
                      rw [← h0]
                      exact hG
                    | 2 =>
                      try dsimp only at hG ⊢
                      rw [← h0]
                      exact hG
                    | 3 =>
                      have e2 := h1 2 (by decide)
                      try dsimp only at hG ⊢
                      rw [← h0]
                      exact hG
                    | 4 =>
                      try dsimp only at hG ⊢
                      rw [← h0]
                      exact hG
                    | 5 =>
                      have e4 := h1 4 (by decide)
                      try dsimp only at hG ⊢
                      rw [← h0]
                      exact hG
                    | 6 =>
                      have e1 := h1 1 (by decide)
                      have e3 := h1 3 (by decide)
                      have e5 := h1 5 (by decide)
                      try dsimp only at hG ⊢
                      rw [← h0]
                      exact hG
                    | 7 =>
                      try dsimp only at hG ⊢
                      rw [← h0]
                      exact hG
                    | 8 =>
                      have e7 := h1 7 (by decide)
                      have e6 := h1 6 (by decide)
                      try dsimp only at hG ⊢
                      rw [← e6]
                      exact hG
                    | n + 9 => trivial
                  case lasts =>
                    intro i hi V L H wx wy hB hH hk
                    match i, hi with
                    | 0, _ => exact fun h => h
                    | 1, _ => exact fun ⟨a0_vG_f1, c0_vG_f1, a1_vG_f1, c1_vG_f1, hv, ho⟩ => ⟨a0_vG_f1, c0_vG_f1, a1_vG_f1, c1_vG_f1, hv, ho.kept (hk.sub fun x hx => .inr hx)⟩
                    | 2, _ => exact fun h => h
                    | 3, _ => exact fun ⟨a2_vR_f3, c2_vR_f3, a4_vR_f3, c4_vR_f3, a5_vR_f3, c5_vR_f3, hv, ho⟩ => ⟨a2_vR_f3, c2_vR_f3, a4_vR_f3, c4_vR_f3, a5_vR_f3, c5_vR_f3, hv, ho.kept (hk.sub fun x hx => .inr hx)⟩
                    | 4, _ => exact fun h => h
                    | 5, _ => exact fun ⟨a1_vC_f5, c1_vC_f5, hv, ho⟩ => ⟨a1_vC_f5, c1_vC_f5, hv, ho.kept (hk.sub fun x hx => .inr hx)⟩
                    | 6, _ => exact fun ⟨a1_R_f6, c1_R_f6, hv, ho⟩ => ⟨a1_R_f6, c1_R_f6, hv, ho.kept (hk.sub fun x hx => .inr hx)⟩
                    | 7, _ => exact fun ⟨hv, hl, hc0, hf0, hc1, hf1⟩ => ⟨hv, hl, (hk.cell (p := ⟨L, 0, none⟩) (.inr ⟨Nat.le_refl _, hl⟩) (Nat.lt_of_lt_of_le hl hH)).trans hc0, (hk.frozen (p := ⟨L, 0, none⟩) (.inr ⟨Nat.le_refl _, hl⟩) (Nat.lt_of_lt_of_le hl hH)).trans hf0, (hk.cell (p := ⟨L, 1, none⟩) (.inr ⟨Nat.le_refl _, hl⟩) (Nat.lt_of_lt_of_le hl hH)).trans hc1, (hk.frozen (p := ⟨L, 1, none⟩) (.inr ⟨Nat.le_refl _, hl⟩) (Nat.lt_of_lt_of_le hl hH)).trans hf1⟩
                    | 8, _ => exact fun h x0 x1 hv => ⟨(h x0 x1 hv).1, (hk.cell (p := ⟨L, 0, none⟩) (.inr ⟨Nat.le_refl _, (h x0 x1 hv).1⟩) (Nat.lt_of_lt_of_le (h x0 x1 hv).1 hH)).trans (h x0 x1 hv).2.1, (hk.cell (p := ⟨L, 1, none⟩) (.inr ⟨Nat.le_refl _, (h x0 x1 hv).1⟩) (Nat.lt_of_lt_of_le (h x0 x1 hv).1 hH)).trans (h x0 x1 hv).2.2⟩
                    | n + 9, hn => exact absurd hn (by simp)
                  case walk =>
                    simp only [free, Nat.reduceAdd, Act.put, List.setIfInBounds_toArray, List.set_cons_succ, List.set_cons_zero]
                    refine ⟨?_, ?_, ?_, ?_, ?_, ?_, ?_, ?_, ?_, ?_⟩
                    · intro V L H w25 hb25 hd
                      clear hd
                      have sz25_paG := Nat.lt_of_lt_of_le sz24_paG hb25.size
                      have bx25_paG_0 := (hb25.cell (p := ⟨w.heap.size, 0, none⟩) sz24_paG).trans bx24_paG_0
                      have bx25_paG_1 := (hb25.cell (p := ⟨w.heap.size, 1, none⟩) sz24_paG).trans bx24_paG_1
                      have sz25_paR := Nat.lt_of_lt_of_le sz24_paR hb25.size
                      have bx25_paR_0 := (hb25.cell (p := ⟨w.heap.size + 1, 0, none⟩) sz24_paR).trans bx24_paR_0
                      have bx25_paR_1 := (hb25.cell (p := ⟨w.heap.size + 1, 1, none⟩) sz24_paR).trans bx24_paR_1
                      have bx25_paR_2 := (hb25.cell (p := ⟨w.heap.size + 1, 2, none⟩) sz24_paR).trans bx24_paR_2
                      have bx25_paR_3 := (hb25.cell (p := ⟨w.heap.size + 1, 3, none⟩) sz24_paR).trans bx24_paR_3
                      have bx25_paR_4 := (hb25.cell (p := ⟨w.heap.size + 1, 4, none⟩) sz24_paR).trans bx24_paR_4
                      have bx25_paR_5 := (hb25.cell (p := ⟨w.heap.size + 1, 5, none⟩) sz24_paR).trans bx24_paR_5
                      have sz25_paC := Nat.lt_of_lt_of_le sz24_paC hb25.size
                      have bx25_paC_0 := (hb25.cell (p := ⟨w.heap.size + 2, 0, none⟩) sz24_paC).trans bx24_paC_0
                      have bx25_paC_1 := (hb25.cell (p := ⟨w.heap.size + 2, 1, none⟩) sz24_paC).trans bx24_paC_1
                      have sz25_w0 := Nat.lt_of_lt_of_le sz24_w0 hb25.size
                      have bx25_w0_0 := (hb25.cell (p := ⟨bV7, 0, none⟩) sz24_w0).trans bx24_w0_0
                      have bx25_w0_1 := (hb25.cell (p := ⟨bV7, 1, none⟩) sz24_w0).trans bx24_w0_1
                      have sz25_x0 := Nat.lt_of_lt_of_le sz24_x0 hb25.size
                      have bx25_x0_0 := (hb25.cell (p := ⟨w8.heap.size, 0, none⟩) sz24_x0).trans bx24_x0_0
                      have bx25_x0_1 := (hb25.cell (p := ⟨w8.heap.size, 1, none⟩) sz24_x0).trans bx24_x0_1
                      have sz25_x1 := Nat.lt_of_lt_of_le sz24_x1 hb25.size
                      have bx25_x1_0 := (hb25.cell (p := ⟨w9.heap.size, 0, none⟩) sz24_x1).trans bx24_x1_0
                      have bx25_x1_1 := (hb25.cell (p := ⟨w9.heap.size, 1, none⟩) sz24_x1).trans bx24_x1_1
                      have bx25_x1_2 := (hb25.cell (p := ⟨w9.heap.size, 2, none⟩) sz24_x1).trans bx24_x1_2
                      have bx25_x1_3 := (hb25.cell (p := ⟨w9.heap.size, 3, none⟩) sz24_x1).trans bx24_x1_3
                      have bx25_x1_4 := (hb25.cell (p := ⟨w9.heap.size, 4, none⟩) sz24_x1).trans bx24_x1_4
                      have bx25_x1_5 := (hb25.cell (p := ⟨w9.heap.size, 5, none⟩) sz24_x1).trans bx24_x1_5
                      have sz25_x2 := Nat.lt_of_lt_of_le sz24_x2 hb25.size
                      have bx25_x2_0 := (hb25.cell (p := ⟨w10.heap.size, 0, none⟩) sz24_x2).trans bx24_x2_0
                      have bx25_x2_1 := (hb25.cell (p := ⟨w10.heap.size, 1, none⟩) sz24_x2).trans bx24_x2_1
                      have sz25_g0 := Nat.lt_of_lt_of_le sz24_g0 hb25.size
                      have bx25_g0_0 := (hb25.cell (p := ⟨w11.heap.size, 0, none⟩) sz24_g0).trans bx24_g0_0
                      have bx25_g0_1 := (hb25.cell (p := ⟨w11.heap.size, 1, none⟩) sz24_g0).trans bx24_g0_1
                      have HO25_1_R_7 := Lib.hid (HO24_1_R_7.out.kept (Kept.of_below_all hb25))
                      have HO25_1_R_11 := Lib.hid (HO24_1_R_11.out.kept (Kept.of_below_all hb25))
                      have HO25_0_vG_13 := Lib.hid (HO24_0_vG_13.out.kept (Kept.of_below_all hb25))
                      have HO25_1_vG_13 := Lib.hid (HO24_1_vG_13.out.kept (Kept.of_below_all hb25))
                      have HO25_2_vR_15 := Lib.hid (HO24_2_vR_15.out.kept (Kept.of_below_all hb25))
                      have HO25_4_vR_15 := Lib.hid (HO24_4_vR_15.out.kept (Kept.of_below_all hb25))
                      have HO25_5_vR_15 := Lib.hid (HO24_5_vR_15.out.kept (Kept.of_below_all hb25))
                      have HO25_1_vC_17 := Lib.hid (HO24_1_vC_17.out.kept (Kept.of_below_all hb25))
                      have HB25 := Lib.hid (HB24.out.trans (hb25.mono HB24.out.size))
                      clear sz24_paG bx24_paG_0 bx24_paG_1 sz24_paR bx24_paR_0 bx24_paR_1 bx24_paR_2 bx24_paR_3 bx24_paR_4 bx24_paR_5 sz24_paC bx24_paC_0 bx24_paC_1 sz24_w0 bx24_w0_0 bx24_w0_1 sz24_x0 bx24_x0_0 bx24_x0_1 sz24_x1 bx24_x1_0 bx24_x1_1 bx24_x1_2 bx24_x1_3 bx24_x1_4 bx24_x1_5 sz24_x2 bx24_x2_0 bx24_x2_1 sz24_g0 bx24_g0_0 bx24_g0_1
                      go_wp2_with fail
                      exact freePost _ rfl ⟨Below.refl _ _, upd_self⟩
                    · intro V L H w25 hb25 hd
                      obtain ⟨⟨hL0, hM0, hH0, hv0⟩, -⟩ := hd
                      rw [hv0]
                      have HV0 := Lib.hid hv0
                      clear hv0
                      have sz25_paG := Nat.lt_of_lt_of_le sz24_paG hb25.size
                      have bx25_paG_0 := (hb25.cell (p := ⟨w.heap.size, 0, none⟩) sz24_paG).trans bx24_paG_0
                      have bx25_paG_1 := (hb25.cell (p := ⟨w.heap.size, 1, none⟩) sz24_paG).trans bx24_paG_1
                      have sz25_paR := Nat.lt_of_lt_of_le sz24_paR hb25.size
                      have bx25_paR_0 := (hb25.cell (p := ⟨w.heap.size + 1, 0, none⟩) sz24_paR).trans bx24_paR_0
                      have bx25_paR_1 := (hb25.cell (p := ⟨w.heap.size + 1, 1, none⟩) sz24_paR).trans bx24_paR_1
                      have bx25_paR_2 := (hb25.cell (p := ⟨w.heap.size + 1, 2, none⟩) sz24_paR).trans bx24_paR_2
                      have bx25_paR_3 := (hb25.cell (p := ⟨w.heap.size + 1, 3, none⟩) sz24_paR).trans bx24_paR_3
                      have bx25_paR_4 := (hb25.cell (p := ⟨w.heap.size + 1, 4, none⟩) sz24_paR).trans bx24_paR_4
                      have bx25_paR_5 := (hb25.cell (p := ⟨w.heap.size + 1, 5, none⟩) sz24_paR).trans bx24_paR_5
                      have sz25_paC := Nat.lt_of_lt_of_le sz24_paC hb25.size
                      have bx25_paC_0 := (hb25.cell (p := ⟨w.heap.size + 2, 0, none⟩) sz24_paC).trans bx24_paC_0
                      have bx25_paC_1 := (hb25.cell (p := ⟨w.heap.size + 2, 1, none⟩) sz24_paC).trans bx24_paC_1
                      have sz25_w0 := Nat.lt_of_lt_of_le sz24_w0 hb25.size
                      have bx25_w0_0 := (hb25.cell (p := ⟨bV7, 0, none⟩) sz24_w0).trans bx24_w0_0
                      have bx25_w0_1 := (hb25.cell (p := ⟨bV7, 1, none⟩) sz24_w0).trans bx24_w0_1
                      have sz25_x0 := Nat.lt_of_lt_of_le sz24_x0 hb25.size
                      have bx25_x0_0 := (hb25.cell (p := ⟨w8.heap.size, 0, none⟩) sz24_x0).trans bx24_x0_0
                      have bx25_x0_1 := (hb25.cell (p := ⟨w8.heap.size, 1, none⟩) sz24_x0).trans bx24_x0_1
                      have sz25_x1 := Nat.lt_of_lt_of_le sz24_x1 hb25.size
                      have bx25_x1_0 := (hb25.cell (p := ⟨w9.heap.size, 0, none⟩) sz24_x1).trans bx24_x1_0
                      have bx25_x1_1 := (hb25.cell (p := ⟨w9.heap.size, 1, none⟩) sz24_x1).trans bx24_x1_1
                      have bx25_x1_2 := (hb25.cell (p := ⟨w9.heap.size, 2, none⟩) sz24_x1).trans bx24_x1_2
                      have bx25_x1_3 := (hb25.cell (p := ⟨w9.heap.size, 3, none⟩) sz24_x1).trans bx24_x1_3
                      have bx25_x1_4 := (hb25.cell (p := ⟨w9.heap.size, 4, none⟩) sz24_x1).trans bx24_x1_4
                      have bx25_x1_5 := (hb25.cell (p := ⟨w9.heap.size, 5, none⟩) sz24_x1).trans bx24_x1_5
                      have sz25_x2 := Nat.lt_of_lt_of_le sz24_x2 hb25.size
                      have bx25_x2_0 := (hb25.cell (p := ⟨w10.heap.size, 0, none⟩) sz24_x2).trans bx24_x2_0
                      have bx25_x2_1 := (hb25.cell (p := ⟨w10.heap.size, 1, none⟩) sz24_x2).trans bx24_x2_1
                      have sz25_g0 := Nat.lt_of_lt_of_le sz24_g0 hb25.size
                      have bx25_g0_0 := (hb25.cell (p := ⟨w11.heap.size, 0, none⟩) sz24_g0).trans bx24_g0_0
                      have bx25_g0_1 := (hb25.cell (p := ⟨w11.heap.size, 1, none⟩) sz24_g0).trans bx24_g0_1
                      have HO25_1_R_7 := Lib.hid (HO24_1_R_7.out.kept (Kept.of_below_all hb25))
                      have HO25_1_R_11 := Lib.hid (HO24_1_R_11.out.kept (Kept.of_below_all hb25))
                      have HO25_0_vG_13 := Lib.hid (HO24_0_vG_13.out.kept (Kept.of_below_all hb25))
                      have HO25_1_vG_13 := Lib.hid (HO24_1_vG_13.out.kept (Kept.of_below_all hb25))
                      have HO25_2_vR_15 := Lib.hid (HO24_2_vR_15.out.kept (Kept.of_below_all hb25))
                      have HO25_4_vR_15 := Lib.hid (HO24_4_vR_15.out.kept (Kept.of_below_all hb25))
                      have HO25_5_vR_15 := Lib.hid (HO24_5_vR_15.out.kept (Kept.of_below_all hb25))
                      have HO25_1_vC_17 := Lib.hid (HO24_1_vC_17.out.kept (Kept.of_below_all hb25))
                      have HB25 := Lib.hid (HB24.out.trans (hb25.mono HB24.out.size))
                      clear sz24_paG bx24_paG_0 bx24_paG_1 sz24_paR bx24_paR_0 bx24_paR_1 bx24_paR_2 bx24_paR_3 bx24_paR_4 bx24_paR_5 sz24_paC bx24_paC_0 bx24_paC_1 sz24_w0 bx24_w0_0 bx24_w0_1 sz24_x0 bx24_x0_0 bx24_x0_1 sz24_x1 bx24_x1_0 bx24_x1_1 bx24_x1_2 bx24_x1_3 bx24_x1_4 bx24_x1_5 sz24_x2 bx24_x2_0 bx24_x2_1 sz24_g0 bx24_g0_0 bx24_g0_1
                      go_wp2_with fail
                      refine (laws_toGrammar (c0 := c0_vG) (c1 := c1_vG) vG hq_vG _ (Below.size (by repeat (first | (with_reducible exact Below.refl _ _) | (with_reducible apply Below.drew) | (with_reducible refine below_drewN ?_ _) | (refine Below.setCell ?_ (by simp <;> omega) _) | (refine Below.alloc ?_ (by simp <;> omega) _)) : Below w25.heap.size w25 _)) ((HS_0_vG.out.later (HB25.out.trans ((by repeat (first | (with_reducible exact Below.refl _ _) | (with_reducible apply Below.drew) | (with_reducible refine below_drewN ?_ _) | (refine Below.setCell ?_ (by simp <;> omega) _) | (refine Below.alloc ?_ (by simp <;> omega) _)) : Below w25.heap.size w25 _).mono HB25.out.size)) (Nat.le_refl _)).mono (Nat.le_refl _) HB25.out.size) ((HS_1_vG.out.later (HB25.out.trans ((by repeat (first | (with_reducible exact Below.refl _ _) | (with_reducible apply Below.drew) | (with_reducible refine below_drewN ?_ _) | (refine Below.setCell ?_ (by simp <;> omega) _) | (refine Below.alloc ?_ (by simp <;> omega) _)) : Below w25.heap.size w25 _).mono HB25.out.size)) (Nat.le_refl _)).mono (Nat.le_refl _) HB25.out.size)).mono ?_
                      rintro e w26 ⟨a0_vG_f1, c0_vG_f1, a1_vG_f1, c1_vG_f1, rfl, ho, hb26⟩
                      as_aux_lemma =>
                      go_wp2_with fail
                      exact freePost _ rfl ⟨hb26, Exists.intro a0_vG_f1 (Exists.intro c0_vG_f1 (Exists.intro a1_vG_f1 (Exists.intro c1_vG_f1 (And.intro upd_self ho))))⟩
                    · intro V L H w25 hb25 hd
                      clear hd
                      have sz25_paG := Nat.lt_of_lt_of_le sz24_paG hb25.size
                      have bx25_paG_0 := (hb25.cell (p := ⟨w.heap.size, 0, none⟩) sz24_paG).trans bx24_paG_0
                      have bx25_paG_1 := (hb25.cell (p := ⟨w.heap.size, 1, none⟩) sz24_paG).trans bx24_paG_1
                      have sz25_paR := Nat.lt_of_lt_of_le sz24_paR hb25.size
                      have bx25_paR_0 := (hb25.cell (p := ⟨w.heap.size + 1, 0, none⟩) sz24_paR).trans bx24_paR_0
                      have bx25_paR_1 := (hb25.cell (p := ⟨w.heap.size + 1, 1, none⟩) sz24_paR).trans bx24_paR_1
                      have bx25_paR_2 := (hb25.cell (p := ⟨w.heap.size + 1, 2, none⟩) sz24_paR).trans bx24_paR_2
                      have bx25_paR_3 := (hb25.cell (p := ⟨w.heap.size + 1, 3, none⟩) sz24_paR).trans bx24_paR_3
                      have bx25_paR_4 := (hb25.cell (p := ⟨w.heap.size + 1, 4, none⟩) sz24_paR).trans bx24_paR_4
                      have bx25_paR_5 := (hb25.cell (p := ⟨w.heap.size + 1, 5, none⟩) sz24_paR).trans bx24_paR_5
                      have sz25_paC := Nat.lt_of_lt_of_le sz24_paC hb25.size
                      have bx25_paC_0 := (hb25.cell (p := ⟨w.heap.size + 2, 0, none⟩) sz24_paC).trans bx24_paC_0
                      have bx25_paC_1 := (hb25.cell (p := ⟨w.heap.size + 2, 1, none⟩) sz24_paC).trans bx24_paC_1
                      have sz25_w0 := Nat.lt_of_lt_of_le sz24_w0 hb25.size
                      have bx25_w0_0 := (hb25.cell (p := ⟨bV7, 0, none⟩) sz24_w0).trans bx24_w0_0
                      have bx25_w0_1 := (hb25.cell (p := ⟨bV7, 1, none⟩) sz24_w0).trans bx24_w0_1
                      have sz25_x0 := Nat.lt_of_lt_of_le sz24_x0 hb25.size
                      have bx25_x0_0 := (hb25.cell (p := ⟨w8.heap.size, 0, none⟩) sz24_x0).trans bx24_x0_0
                      have bx25_x0_1 := (hb25.cell (p := ⟨w8.heap.size, 1, none⟩) sz24_x0).trans bx24_x0_1
                      have sz25_x1 := Nat.lt_of_lt_of_le sz24_x1 hb25.size
                      have bx25_x1_0 := (hb25.cell (p := ⟨w9.heap.size, 0, none⟩) sz24_x1).trans bx24_x1_0
                      have bx25_x1_1 := (hb25.cell (p := ⟨w9.heap.size, 1, none⟩) sz24_x1).trans bx24_x1_1
                      have bx25_x1_2 := (hb25.cell (p := ⟨w9.heap.size, 2, none⟩) sz24_x1).trans bx24_x1_2
                      have bx25_x1_3 := (hb25.cell (p := ⟨w9.heap.size, 3, none⟩) sz24_x1).trans bx24_x1_3
                      have bx25_x1_4 := (hb25.cell (p := ⟨w9.heap.size, 4, none⟩) sz24_x1).trans bx24_x1_4
                      have bx25_x1_5 := (hb25.cell (p := ⟨w9.heap.size, 5, none⟩) sz24_x1).trans bx24_x1_5
                      have sz25_x2 := Nat.lt_of_lt_of_le sz24_x2 hb25.size
                      have bx25_x2_0 := (hb25.cell (p := ⟨w10.heap.size, 0, none⟩) sz24_x2).trans bx24_x2_0
                      have bx25_x2_1 := (hb25.cell (p := ⟨w10.heap.size, 1, none⟩) sz24_x2).trans bx24_x2_1
                      have sz25_g0 := Nat.lt_of_lt_of_le sz24_g0 hb25.size
                      have bx25_g0_0 := (hb25.cell (p := ⟨w11.heap.size, 0, none⟩) sz24_g0).trans bx24_g0_0
                      have bx25_g0_1 := (hb25.cell (p := ⟨w11.heap.size, 1, none⟩) sz24_g0).trans bx24_g0_1
                      have HO25_1_R_7 := Lib.hid (HO24_1_R_7.out.kept (Kept.of_below_all hb25))
                      have HO25_1_R_11 := Lib.hid (HO24_1_R_11.out.kept (Kept.of_below_all hb25))
                      have HO25_0_vG_13 := Lib.hid (HO24_0_vG_13.out.kept (Kept.of_below_all hb25))
                      have HO25_1_vG_13 := Lib.hid (HO24_1_vG_13.out.kept (Kept.of_below_all hb25))
                      have HO25_2_vR_15 := Lib.hid (HO24_2_vR_15.out.kept (Kept.of_below_all hb25))
                      have HO25_4_vR_15 := Lib.hid (HO24_4_vR_15.out.kept (Kept.of_below_all hb25))
                      have HO25_5_vR_15 := Lib.hid (HO24_5_vR_15.out.kept (Kept.of_below_all hb25))
                      have HO25_1_vC_17 := Lib.hid (HO24_1_vC_17.out.kept (Kept.of_below_all hb25))
                      have HB25 := Lib.hid (HB24.out.trans (hb25.mono HB24.out.size))
                      clear sz24_paG bx24_paG_0 bx24_paG_1 sz24_paR bx24_paR_0 bx24_paR_1 bx24_paR_2 bx24_paR_3 bx24_paR_4 bx24_paR_5 sz24_paC bx24_paC_0 bx24_paC_1 sz24_w0 bx24_w0_0 bx24_w0_1 sz24_x0 bx24_x0_0 bx24_x0_1 sz24_x1 bx24_x1_0 bx24_x1_1 bx24_x1_2 bx24_x1_3 bx24_x1_4 bx24_x1_5 sz24_x2 bx24_x2_0 bx24_x2_1 sz24_g0 bx24_g0_0 bx24_g0_1
                      go_wp2_with fail
                      exact freePost _ rfl ⟨Below.refl _ _, upd_self⟩
                    · intro V L H w25 hb25 hd
                      obtain ⟨⟨hL2, hM2, hH2, hv2⟩, -⟩ := hd
                      rw [hv2]
                      have HV2 := Lib.hid hv2
                      clear hv2
                      have sz25_paG := Nat.lt_of_lt_of_le sz24_paG hb25.size
                      have bx25_paG_0 := (hb25.cell (p := ⟨w.heap.size, 0, none⟩) sz24_paG).trans bx24_paG_0
                      have bx25_paG_1 := (hb25.cell (p := ⟨w.heap.size, 1, none⟩) sz24_paG).trans bx24_paG_1
                      have sz25_paR := Nat.lt_of_lt_of_le sz24_paR hb25.size
                      have bx25_paR_0 := (hb25.cell (p := ⟨w.heap.size + 1, 0, none⟩) sz24_paR).trans bx24_paR_0
                      have bx25_paR_1 := (hb25.cell (p := ⟨w.heap.size + 1, 1, none⟩) sz24_paR).trans bx24_paR_1
                      have bx25_paR_2 := (hb25.cell (p := ⟨w.heap.size + 1, 2, none⟩) sz24_paR).trans bx24_paR_2
                      have bx25_paR_3 := (hb25.cell (p := ⟨w.heap.size + 1, 3, none⟩) sz24_paR).trans bx24_paR_3
                      have bx25_paR_4 := (hb25.cell (p := ⟨w.heap.size + 1, 4, none⟩) sz24_paR).trans bx24_paR_4
                      have bx25_paR_5 := (hb25.cell (p := ⟨w.heap.size + 1, 5, none⟩) sz24_paR).trans bx24_paR_5
                      have sz25_paC := Nat.lt_of_lt_of_le sz24_paC hb25.size
                      have bx25_paC_0 := (hb25.cell (p := ⟨w.heap.size + 2, 0, none⟩) sz24_paC).trans bx24_paC_0
                      have bx25_paC_1 := (hb25.cell (p := ⟨w.heap.size + 2, 1, none⟩) sz24_paC).trans bx24_paC_1
                      have sz25_w0 := Nat.lt_of_lt_of_le sz24_w0 hb25.size
                      have bx25_w0_0 := (hb25.cell (p := ⟨bV7, 0, none⟩) sz24_w0).trans bx24_w0_0
                      have bx25_w0_1 := (hb25.cell (p := ⟨bV7, 1, none⟩) sz24_w0).trans bx24_w0_1
                      have sz25_x0 := Nat.lt_of_lt_of_le sz24_x0 hb25.size
                      have bx25_x0_0 := (hb25.cell (p := ⟨w8.heap.size, 0, none⟩) sz24_x0).trans bx24_x0_0
                      have bx25_x0_1 := (hb25.cell (p := ⟨w8.heap.size, 1, none⟩) sz24_x0).trans bx24_x0_1
                      have sz25_x1 := Nat.lt_of_lt_of_le sz24_x1 hb25.size
                      have bx25_x1_0 := (hb25.cell (p := ⟨w9.heap.size, 0, none⟩) sz24_x1).trans bx24_x1_0
                      have bx25_x1_1 := (hb25.cell (p := ⟨w9.heap.size, 1, none⟩) sz24_x1).trans bx24_x1_1
                      have bx25_x1_2 := (hb25.cell (p := ⟨w9.heap.size, 2, none⟩) sz24_x1).trans bx24_x1_2
                      have bx25_x1_3 := (hb25.cell (p := ⟨w9.heap.size, 3, none⟩) sz24_x1).trans bx24_x1_3
                      have bx25_x1_4 := (hb25.cell (p := ⟨w9.heap.size, 4, none⟩) sz24_x1).trans bx24_x1_4
                      have bx25_x1_5 := (hb25.cell (p := ⟨w9.heap.size, 5, none⟩) sz24_x1).trans bx24_x1_5
                      have sz25_x2 := Nat.lt_of_lt_of_le sz24_x2 hb25.size
                      have bx25_x2_0 := (hb25.cell (p := ⟨w10.heap.size, 0, none⟩) sz24_x2).trans bx24_x2_0
                      have bx25_x2_1 := (hb25.cell (p := ⟨w10.heap.size, 1, none⟩) sz24_x2).trans bx24_x2_1
                      have sz25_g0 := Nat.lt_of_lt_of_le sz24_g0 hb25.size
                      have bx25_g0_0 := (hb25.cell (p := ⟨w11.heap.size, 0, none⟩) sz24_g0).trans bx24_g0_0
                      have bx25_g0_1 := (hb25.cell (p := ⟨w11.heap.size, 1, none⟩) sz24_g0).trans bx24_g0_1
                      have HO25_1_R_7 := Lib.hid (HO24_1_R_7.out.kept (Kept.of_below_all hb25))
                      have HO25_1_R_11 := Lib.hid (HO24_1_R_11.out.kept (Kept.of_below_all hb25))
                      have HO25_0_vG_13 := Lib.hid (HO24_0_vG_13.out.kept (Kept.of_below_all hb25))
                      have HO25_1_vG_13 := Lib.hid (HO24_1_vG_13.out.kept (Kept.of_below_all hb25))
                      have HO25_2_vR_15 := Lib.hid (HO24_2_vR_15.out.kept (Kept.of_below_all hb25))
                      have HO25_4_vR_15 := Lib.hid (HO24_4_vR_15.out.kept (Kept.of_below_all hb25))
                      have HO25_5_vR_15 := Lib.hid (HO24_5_vR_15.out.kept (Kept.of_below_all hb25))
                      have HO25_1_vC_17 := Lib.hid (HO24_1_vC_17.out.kept (Kept.of_below_all hb25))
                      have HB25 := Lib.hid (HB24.out.trans (hb25.mono HB24.out.size))
                      clear sz24_paG bx24_paG_0 bx24_paG_1 sz24_paR bx24_paR_0 bx24_paR_1 bx24_paR_2 bx24_paR_3 bx24_paR_4 bx24_paR_5 sz24_paC bx24_paC_0 bx24_paC_1 sz24_w0 bx24_w0_0 bx24_w0_1 sz24_x0 bx24_x0_0 bx24_x0_1 sz24_x1 bx24_x1_0 bx24_x1_1 bx24_x1_2 bx24_x1_3 bx24_x1_4 bx24_x1_5 sz24_x2 bx24_x2_0 bx24_x2_1 sz24_g0 bx24_g0_0 bx24_g0_1
                      go_wp2_with fail
                      refine (laws_toRule (c2 := c2_vR) (c4 := c4_vR) (c5 := c5_vR) vR hq_vR _ (Below.size (by repeat (first | (with_reducible exact Below.refl _ _) | (with_reducible apply Below.drew) | (with_reducible refine below_drewN ?_ _) | (refine Below.setCell ?_ (by simp <;> omega) _) | (refine Below.alloc ?_ (by simp <;> omega) _)) : Below w25.heap.size w25 _)) ((HS_2_vR.out.later (HB25.out.trans ((by repeat (first | (with_reducible exact Below.refl _ _) | (with_reducible apply Below.drew) | (with_reducible refine below_drewN ?_ _) | (refine Below.setCell ?_ (by simp <;> omega) _) | (refine Below.alloc ?_ (by simp <;> omega) _)) : Below w25.heap.size w25 _).mono HB25.out.size)) (Nat.le_refl _)).mono (Nat.le_refl _) HB25.out.size) ((HS_4_vR.out.later (HB25.out.trans ((by repeat (first | (with_reducible exact Below.refl _ _) | (with_reducible apply Below.drew) | (with_reducible refine below_drewN ?_ _) | (refine Below.setCell ?_ (by simp <;> omega) _) | (refine Below.alloc ?_ (by simp <;> omega) _)) : Below w25.heap.size w25 _).mono HB25.out.size)) (Nat.le_refl _)).mono (Nat.le_refl _) HB25.out.size) ((HS_5_vR.out.later (HB25.out.trans ((by repeat (first | (with_reducible exact Below.refl _ _) | (with_reducible apply Below.drew) | (with_reducible refine below_drewN ?_ _) | (refine Below.setCell ?_ (by simp <;> omega) _) | (refine Below.alloc ?_ (by simp <;> omega) _)) : Below w25.heap.size w25 _).mono HB25.out.size)) (Nat.le_refl _)).mono (Nat.le_refl _) HB25.out.size)).mono ?_
                      rintro e w26 ⟨a2_vR_f3, c2_vR_f3, a4_vR_f3, c4_vR_f3, a5_vR_f3, c5_vR_f3, rfl, ho, hb26⟩
                      as_aux_lemma =>
                      go_wp2_with fail
                      exact freePost _ rfl ⟨hb26, Exists.intro a2_vR_f3 (Exists.intro c2_vR_f3 (Exists.intro a4_vR_f3 (Exists.intro c4_vR_f3 (Exists.intro a5_vR_f3 (Exists.intro c5_vR_f3 (And.intro upd_self ho))))))⟩
                    · intro V L H w25 hb25 hd
                      clear hd
                      have sz25_paG := Nat.lt_of_lt_of_le sz24_paG hb25.size
                      have bx25_paG_0 := (hb25.cell (p := ⟨w.heap.size, 0, none⟩) sz24_paG).trans bx24_paG_0
                      have bx25_paG_1 := (hb25.cell (p := ⟨w.heap.size, 1, none⟩) sz24_paG).trans bx24_paG_1
                      have sz25_paR := Nat.lt_of_lt_of_le sz24_paR hb25.size
                      have bx25_paR_0 := (hb25.cell (p := ⟨w.heap.size + 1, 0, none⟩) sz24_paR).trans bx24_paR_0
                      have bx25_paR_1 := (hb25.cell (p := ⟨w.heap.size + 1, 1, none⟩) sz24_paR).trans bx24_paR_1
                      have bx25_paR_2 := (hb25.cell (p := ⟨w.heap.size + 1, 2, none⟩) sz24_paR).trans bx24_paR_2
                      have bx25_paR_3 := (hb25.cell (p := ⟨w.heap.size + 1, 3, none⟩) sz24_paR).trans bx24_paR_3
                      have bx25_paR_4 := (hb25.cell (p := ⟨w.heap.size + 1, 4, none⟩) sz24_paR).trans bx24_paR_4
                      have bx25_paR_5 := (hb25.cell (p := ⟨w.heap.size + 1, 5, none⟩) sz24_paR).trans bx24_paR_5
                      have sz25_paC := Nat.lt_of_lt_of_le sz24_paC hb25.size
                      have bx25_paC_0 := (hb25.cell (p := ⟨w.heap.size + 2, 0, none⟩) sz24_paC).trans bx24_paC_0
                      have bx25_paC_1 := (hb25.cell (p := ⟨w.heap.size + 2, 1, none⟩) sz24_paC).trans bx24_paC_1
                      have sz25_w0 := Nat.lt_of_lt_of_le sz24_w0 hb25.size
                      have bx25_w0_0 := (hb25.cell (p := ⟨bV7, 0, none⟩) sz24_w0).trans bx24_w0_0
                      have bx25_w0_1 := (hb25.cell (p := ⟨bV7, 1, none⟩) sz24_w0).trans bx24_w0_1
                      have sz25_x0 := Nat.lt_of_lt_of_le sz24_x0 hb25.size
                      have bx25_x0_0 := (hb25.cell (p := ⟨w8.heap.size, 0, none⟩) sz24_x0).trans bx24_x0_0
                      have bx25_x0_1 := (hb25.cell (p := ⟨w8.heap.size, 1, none⟩) sz24_x0).trans bx24_x0_1
                      have sz25_x1 := Nat.lt_of_lt_of_le sz24_x1 hb25.size
                      have bx25_x1_0 := (hb25.cell (p := ⟨w9.heap.size, 0, none⟩) sz24_x1).trans bx24_x1_0
                      have bx25_x1_1 := (hb25.cell (p := ⟨w9.heap.size, 1, none⟩) sz24_x1).trans bx24_x1_1
                      have bx25_x1_2 := (hb25.cell (p := ⟨w9.heap.size, 2, none⟩) sz24_x1).trans bx24_x1_2
                      have bx25_x1_3 := (hb25.cell (p := ⟨w9.heap.size, 3, none⟩) sz24_x1).trans bx24_x1_3
                      have bx25_x1_4 := (hb25.cell (p := ⟨w9.heap.size, 4, none⟩) sz24_x1).trans bx24_x1_4
                      have bx25_x1_5 := (hb25.cell (p := ⟨w9.heap.size, 5, none⟩) sz24_x1).trans bx24_x1_5
                      have sz25_x2 := Nat.lt_of_lt_of_le sz24_x2 hb25.size
                      have bx25_x2_0 := (hb25.cell (p := ⟨w10.heap.size, 0, none⟩) sz24_x2).trans bx24_x2_0
                      have bx25_x2_1 := (hb25.cell (p := ⟨w10.heap.size, 1, none⟩) sz24_x2).trans bx24_x2_1
                      have sz25_g0 := Nat.lt_of_lt_of_le sz24_g0 hb25.size
                      have bx25_g0_0 := (hb25.cell (p := ⟨w11.heap.size, 0, none⟩) sz24_g0).trans bx24_g0_0
                      have bx25_g0_1 := (hb25.cell (p := ⟨w11.heap.size, 1, none⟩) sz24_g0).trans bx24_g0_1
                      have HO25_1_R_7 := Lib.hid (HO24_1_R_7.out.kept (Kept.of_below_all hb25))
                      have HO25_1_R_11 := Lib.hid (HO24_1_R_11.out.kept (Kept.of_below_all hb25))
                      have HO25_0_vG_13 := Lib.hid (HO24_0_vG_13.out.kept (Kept.of_below_all hb25))
                      have HO25_1_vG_13 := Lib.hid (HO24_1_vG_13.out.kept (Kept.of_below_all hb25))
                      have HO25_2_vR_15 := Lib.hid (HO24_2_vR_15.out.kept (Kept.of_below_all hb25))
                      have HO25_4_vR_15 := Lib.hid (HO24_4_vR_15.out.kept (Kept.of_below_all hb25))
                      have HO25_5_vR_15 := Lib.hid (HO24_5_vR_15.out.kept (Kept.of_below_all hb25))
                      have HO25_1_vC_17 := Lib.hid (HO24_1_vC_17.out.kept (Kept.of_below_all hb25))
                      have HB25 := Lib.hid (HB24.out.trans (hb25.mono HB24.out.size))
                      clear sz24_paG bx24_paG_0 bx24_paG_1 sz24_paR bx24_paR_0 bx24_paR_1 bx24_paR_2 bx24_paR_3 bx24_paR_4 bx24_paR_5 sz24_paC bx24_paC_0 bx24_paC_1 sz24_w0 bx24_w0_0 bx24_w0_1 sz24_x0 bx24_x0_0 bx24_x0_1 sz24_x1 bx24_x1_0 bx24_x1_1 bx24_x1_2 bx24_x1_3 bx24_x1_4 bx24_x1_5 sz24_x2 bx24_x2_0 bx24_x2_1 sz24_g0 bx24_g0_0 bx24_g0_1
                      go_wp2_with fail
                      exact freePost _ rfl ⟨Below.refl _ _, upd_self⟩
                    · intro V L H w25 hb25 hd
                      obtain ⟨⟨hL4, hM4, hH4, hv4⟩, -⟩ := hd
                      rw [hv4]
                      have HV4 := Lib.hid hv4
                      clear hv4
                      have sz25_paG := Nat.lt_of_lt_of_le sz24_paG hb25.size
                      have bx25_paG_0 := (hb25.cell (p := ⟨w.heap.size, 0, none⟩) sz24_paG).trans bx24_paG_0
                      have bx25_paG_1 := (hb25.cell (p := ⟨w.heap.size, 1, none⟩) sz24_paG).trans bx24_paG_1
                      have sz25_paR := Nat.lt_of_lt_of_le sz24_paR hb25.size
                      have bx25_paR_0 := (hb25.cell (p := ⟨w.heap.size + 1, 0, none⟩) sz24_paR).trans bx24_paR_0
                      have bx25_paR_1 := (hb25.cell (p := ⟨w.heap.size + 1, 1, none⟩) sz24_paR).trans bx24_paR_1
                      have bx25_paR_2 := (hb25.cell (p := ⟨w.heap.size + 1, 2, none⟩) sz24_paR).trans bx24_paR_2
                      have bx25_paR_3 := (hb25.cell (p := ⟨w.heap.size + 1, 3, none⟩) sz24_paR).trans bx24_paR_3
                      have bx25_paR_4 := (hb25.cell (p := ⟨w.heap.size + 1, 4, none⟩) sz24_paR).trans bx24_paR_4
                      have bx25_paR_5 := (hb25.cell (p := ⟨w.heap.size + 1, 5, none⟩) sz24_paR).trans bx24_paR_5
                      have sz25_paC := Nat.lt_of_lt_of_le sz24_paC hb25.size
                      have bx25_paC_0 := (hb25.cell (p := ⟨w.heap.size + 2, 0, none⟩) sz24_paC).trans bx24_paC_0
                      have bx25_paC_1 := (hb25.cell (p := ⟨w.heap.size + 2, 1, none⟩) sz24_paC).trans bx24_paC_1
                      have sz25_w0 := Nat.lt_of_lt_of_le sz24_w0 hb25.size
                      have bx25_w0_0 := (hb25.cell (p := ⟨bV7, 0, none⟩) sz24_w0).trans bx24_w0_0
                      have bx25_w0_1 := (hb25.cell (p := ⟨bV7, 1, none⟩) sz24_w0).trans bx24_w0_1
                      have sz25_x0 := Nat.lt_of_lt_of_le sz24_x0 hb25.size
                      have bx25_x0_0 := (hb25.cell (p := ⟨w8.heap.size, 0, none⟩) sz24_x0).trans bx24_x0_0
                      have bx25_x0_1 := (hb25.cell (p := ⟨w8.heap.size, 1, none⟩) sz24_x0).trans bx24_x0_1
                      have sz25_x1 := Nat.lt_of_lt_of_le sz24_x1 hb25.size
                      have bx25_x1_0 := (hb25.cell (p := ⟨w9.heap.size, 0, none⟩) sz24_x1).trans bx24_x1_0
                      have bx25_x1_1 := (hb25.cell (p := ⟨w9.heap.size, 1, none⟩) sz24_x1).trans bx24_x1_1
                      have bx25_x1_2 := (hb25.cell (p := ⟨w9.heap.size, 2, none⟩) sz24_x1).trans bx24_x1_2
                      have bx25_x1_3 := (hb25.cell (p := ⟨w9.heap.size, 3, none⟩) sz24_x1).trans bx24_x1_3
                      have bx25_x1_4 := (hb25.cell (p := ⟨w9.heap.size, 4, none⟩) sz24_x1).trans bx24_x1_4
                      have bx25_x1_5 := (hb25.cell (p := ⟨w9.heap.size, 5, none⟩) sz24_x1).trans bx24_x1_5
                      have sz25_x2 := Nat.lt_of_lt_of_le sz24_x2 hb25.size
                      have bx25_x2_0 := (hb25.cell (p := ⟨w10.heap.size, 0, none⟩) sz24_x2).trans bx24_x2_0
                      have bx25_x2_1 := (hb25.cell (p := ⟨w10.heap.size, 1, none⟩) sz24_x2).trans bx24_x2_1
                      have sz25_g0 := Nat.lt_of_lt_of_le sz24_g0 hb25.size
                      have bx25_g0_0 := (hb25.cell (p := ⟨w11.heap.size, 0, none⟩) sz24_g0).trans bx24_g0_0
                      have bx25_g0_1 := (hb25.cell (p := ⟨w11.heap.size, 1, none⟩) sz24_g0).trans bx24_g0_1
                      have HO25_1_R_7 := Lib.hid (HO24_1_R_7.out.kept (Kept.of_below_all hb25))
                      have HO25_1_R_11 := Lib.hid (HO24_1_R_11.out.kept (Kept.of_below_all hb25))
                      have HO25_0_vG_13 := Lib.hid (HO24_0_vG_13.out.kept (Kept.of_below_all hb25))
                      have HO25_1_vG_13 := Lib.hid (HO24_1_vG_13.out.kept (Kept.of_below_all hb25))
                      have HO25_2_vR_15 := Lib.hid (HO24_2_vR_15.out.kept (Kept.of_below_all hb25))
                      have HO25_4_vR_15 := Lib.hid (HO24_4_vR_15.out.kept (Kept.of_below_all hb25))
                      have HO25_5_vR_15 := Lib.hid (HO24_5_vR_15.out.kept (Kept.of_below_all hb25))
                      have HO25_1_vC_17 := Lib.hid (HO24_1_vC_17.out.kept (Kept.of_below_all hb25))
                      have HB25 := Lib.hid (HB24.out.trans (hb25.mono HB24.out.size))
                      clear sz24_paG bx24_paG_0 bx24_paG_1 sz24_paR bx24_paR_0 bx24_paR_1 bx24_paR_2 bx24_paR_3 bx24_paR_4 bx24_paR_5 sz24_paC bx24_paC_0 bx24_paC_1 sz24_w0 bx24_w0_0 bx24_w0_1 sz24_x0 bx24_x0_0 bx24_x0_1 sz24_x1 bx24_x1_0 bx24_x1_1 bx24_x1_2 bx24_x1_3 bx24_x1_4 bx24_x1_5 sz24_x2 bx24_x2_0 bx24_x2_1 sz24_g0 bx24_g0_0 bx24_g0_1
                      go_wp2_with fail
                      refine (laws_toRelation (c1 := c1_vC) vC hq_vC _ (Below.size (by repeat (first | (with_reducible exact Below.refl _ _) | (with_reducible apply Below.drew) | (with_reducible refine below_drewN ?_ _) | (refine Below.setCell ?_ (by simp <;> omega) _) | (refine Below.alloc ?_ (by simp <;> omega) _)) : Below w25.heap.size w25 _)) ((HS_1_vC.out.later (HB25.out.trans ((by repeat (first | (with_reducible exact Below.refl _ _) | (with_reducible apply Below.drew) | (with_reducible refine below_drewN ?_ _) | (refine Below.setCell ?_ (by simp <;> omega) _) | (refine Below.alloc ?_ (by simp <;> omega) _)) : Below w25.heap.size w25 _).mono HB25.out.size)) (Nat.le_refl _)).mono (Nat.le_refl _) HB25.out.size)).mono ?_
                      rintro e w26 ⟨a1_vC_f5, c1_vC_f5, rfl, ho, hb26⟩
                      as_aux_lemma =>
                      go_wp2_with fail
                      exact freePost _ rfl ⟨hb26, Exists.intro a1_vC_f5 (Exists.intro c1_vC_f5 (And.intro upd_self ho))⟩
                    · intro V L H w25 hb25 hd
                      obtain ⟨⟨hL1, hM1, hH1, a0_vG_f1, c0_vG_f1, a1_vG_f1, c1_vG_f1, hv1, ho1_⟩, ⟨hL3, hM3, hH3, a2_vR_f3, c2_vR_f3, a4_vR_f3, c4_vR_f3, a5_vR_f3, c5_vR_f3, hv3, ho3_⟩, ⟨hL5, hM5, hH5, a1_vC_f5, c1_vC_f5, hv5, ho5_⟩, -⟩ := hd
                      rw [hv1, hv3, hv5]
                      have HV1 := Lib.hid hv1
                      have HV3 := Lib.hid hv3
                      have HV5 := Lib.hid hv5
                      clear hv1 hv3 hv5
                      have sz25_paG := Nat.lt_of_lt_of_le sz24_paG hb25.size
                      have bx25_paG_0 := (hb25.cell (p := ⟨w.heap.size, 0, none⟩) sz24_paG).trans bx24_paG_0
                      have bx25_paG_1 := (hb25.cell (p := ⟨w.heap.size, 1, none⟩) sz24_paG).trans bx24_paG_1
                      have sz25_paR := Nat.lt_of_lt_of_le sz24_paR hb25.size
                      have bx25_paR_0 := (hb25.cell (p := ⟨w.heap.size + 1, 0, none⟩) sz24_paR).trans bx24_paR_0
                      have bx25_paR_1 := (hb25.cell (p := ⟨w.heap.size + 1, 1, none⟩) sz24_paR).trans bx24_paR_1
                      have bx25_paR_2 := (hb25.cell (p := ⟨w.heap.size + 1, 2, none⟩) sz24_paR).trans bx24_paR_2
                      have bx25_paR_3 := (hb25.cell (p := ⟨w.heap.size + 1, 3, none⟩) sz24_paR).trans bx24_paR_3
                      have bx25_paR_4 := (hb25.cell (p := ⟨w.heap.size + 1, 4, none⟩) sz24_paR).trans bx24_paR_4
                      have bx25_paR_5 := (hb25.cell (p := ⟨w.heap.size + 1, 5, none⟩) sz24_paR).trans bx24_paR_5
                      have sz25_paC := Nat.lt_of_lt_of_le sz24_paC hb25.size
                      have bx25_paC_0 := (hb25.cell (p := ⟨w.heap.size + 2, 0, none⟩) sz24_paC).trans bx24_paC_0
                      have bx25_paC_1 := (hb25.cell (p := ⟨w.heap.size + 2, 1, none⟩) sz24_paC).trans bx24_paC_1
                      have sz25_w0 := Nat.lt_of_lt_of_le sz24_w0 hb25.size
                      have bx25_w0_0 := (hb25.cell (p := ⟨bV7, 0, none⟩) sz24_w0).trans bx24_w0_0
                      have bx25_w0_1 := (hb25.cell (p := ⟨bV7, 1, none⟩) sz24_w0).trans bx24_w0_1
                      have sz25_x0 := Nat.lt_of_lt_of_le sz24_x0 hb25.size
                      have bx25_x0_0 := (hb25.cell (p := ⟨w8.heap.size, 0, none⟩) sz24_x0).trans bx24_x0_0
                      have bx25_x0_1 := (hb25.cell (p := ⟨w8.heap.size, 1, none⟩) sz24_x0).trans bx24_x0_1
                      have sz25_x1 := Nat.lt_of_lt_of_le sz24_x1 hb25.size
                      have bx25_x1_0 := (hb25.cell (p := ⟨w9.heap.size, 0, none⟩) sz24_x1).trans bx24_x1_0
                      have bx25_x1_1 := (hb25.cell (p := ⟨w9.heap.size, 1, none⟩) sz24_x1).trans bx24_x1_1
                      have bx25_x1_2 := (hb25.cell (p := ⟨w9.heap.size, 2, none⟩) sz24_x1).trans bx24_x1_2
                      have bx25_x1_3 := (hb25.cell (p := ⟨w9.heap.size, 3, none⟩) sz24_x1).trans bx24_x1_3
                      have bx25_x1_4 := (hb25.cell (p := ⟨w9.heap.size, 4, none⟩) sz24_x1).trans bx24_x1_4
                      have bx25_x1_5 := (hb25.cell (p := ⟨w9.heap.size, 5, none⟩) sz24_x1).trans bx24_x1_5
                      have sz25_x2 := Nat.lt_of_lt_of_le sz24_x2 hb25.size
                      have bx25_x2_0 := (hb25.cell (p := ⟨w10.heap.size, 0, none⟩) sz24_x2).trans bx24_x2_0
                      have bx25_x2_1 := (hb25.cell (p := ⟨w10.heap.size, 1, none⟩) sz24_x2).trans bx24_x2_1
                      have sz25_g0 := Nat.lt_of_lt_of_le sz24_g0 hb25.size
                      have bx25_g0_0 := (hb25.cell (p := ⟨w11.heap.size, 0, none⟩) sz24_g0).trans bx24_g0_0
                      have bx25_g0_1 := (hb25.cell (p := ⟨w11.heap.size, 1, none⟩) sz24_g0).trans bx24_g0_1
                      have HO25_1_R_7 := Lib.hid (HO24_1_R_7.out.kept (Kept.of_below_all hb25))
                      have HO25_1_R_11 := Lib.hid (HO24_1_R_11.out.kept (Kept.of_below_all hb25))
                      have HO25_0_vG_13 := Lib.hid (HO24_0_vG_13.out.kept (Kept.of_below_all hb25))
                      have HO25_1_vG_13 := Lib.hid (HO24_1_vG_13.out.kept (Kept.of_below_all hb25))
                      have HO25_2_vR_15 := Lib.hid (HO24_2_vR_15.out.kept (Kept.of_below_all hb25))
                      have HO25_4_vR_15 := Lib.hid (HO24_4_vR_15.out.kept (Kept.of_below_all hb25))
                      have HO25_5_vR_15 := Lib.hid (HO24_5_vR_15.out.kept (Kept.of_below_all hb25))
                      have HO25_1_vC_17 := Lib.hid (HO24_1_vC_17.out.kept (Kept.of_below_all hb25))
                      have HB25 := Lib.hid (HB24.out.trans (hb25.mono HB24.out.size))
                      clear sz24_paG bx24_paG_0 bx24_paG_1 sz24_paR bx24_paR_0 bx24_paR_1 bx24_paR_2 bx24_paR_3 bx24_paR_4 bx24_paR_5 sz24_paC bx24_paC_0 bx24_paC_1 sz24_w0 bx24_w0_0 bx24_w0_1 sz24_x0 bx24_x0_0 bx24_x0_1 sz24_x1 bx24_x1_0 bx24_x1_1 bx24_x1_2 bx24_x1_3 bx24_x1_4 bx24_x1_5 sz24_x2 bx24_x2_0 bx24_x2_1 sz24_g0 bx24_g0_0 bx24_g0_1
                      have HO_0_vG_f1 := Lib.hid (show Own w25 (fun y => L 1 ≤ y ∧ y < H 1) (.sl 2 vG.fSymbols.length (fun k => DSymbol.ct (vG.fSymbols.getD k default))) (.slice a0_vG_f1 vG.fSymbols.length c0_vG_f1) from OwnR.at ho1_ 0 (by decide))
                      have HO_1_vG_f1 := Lib.hid (show Own w25 (fun y => L 1 ≤ y ∧ y < H 1) (.sl 6 vG.fRules.length (fun k => DRule.ct (vG.fRules.getD k default))) (.slice a1_vG_f1 vG.fRules.length c1_vG_f1) from OwnR.at ho1_ 1 (by decide))
                      clear ho1_
                      have HO_2_vR_f3 := Lib.hid (show Own w25 (fun y => L 3 ≤ y ∧ y < H 3) (.sl 1 vR.fRight.length (fun k => ictS (vR.fRight.getD k default))) (.slice a2_vR_f3 vR.fRight.length c2_vR_f3) from OwnR.at ho3_ 2 (by decide))
                      have HO_4_vR_f3 := Lib.hid (show Own w25 (fun y => L 3 ≤ y ∧ y < H 3) (.sl 9 vR.fEquations.length (fun k => DEquation.ct (vR.fEquations.getD k default))) (.slice a4_vR_f3 vR.fEquations.length c4_vR_f3) from OwnR.at ho3_ 4 (by decide))
                      have HO_5_vR_f3 := Lib.hid (show Own w25 (fun y => L 3 ≤ y ∧ y < H 3) (.sl 16 vR.fContributions.length (fun k => DContribution.ct (vR.fContributions.getD k default))) (.slice a5_vR_f3 vR.fContributions.length c5_vR_f3) from OwnR.at ho3_ 5 (by decide))
                      clear ho3_
                      have HO_1_vC_f5 := Lib.hid (show Own w25 (fun y => L 5 ≤ y ∧ y < H 5) (.sl 1 vC.fRows.length (fun k => ictI (vC.fRows.getD k default))) (.slice a1_vC_f5 vC.fRows.length c1_vC_f5) from OwnR.at ho5_ 1 (by decide))
                      clear ho5_
                      go_wp2_with fail
                      refine (impl_SummaryOf (c0_0 := c0_vG_f1) (c0_1 := c1_vG_f1) (c1_0 := c2_vR_f3) (c1_1 := c4_vR_f3) (c1_2 := c5_vR_f3) (c2_0 := c1_vC_f5) vG OK_vG.out hq_vG vR OK_vR.out hq_vR vC OK_vC.out hq_vC _ (Below.size (by repeat (first | (with_reducible exact Below.refl _ _) | (with_reducible apply Below.drew) | (with_reducible refine below_drewN ?_ _) | (refine Below.setCell ?_ (by simp <;> omega) _) | (refine Below.alloc ?_ (by simp <;> omega) _)) : Below w25.heap.size w25 _)) ((Sl.of (HO_0_vG_f1.out.lies (lo := 0) (hi := w25.heap.size) (fun y hy => ⟨Nat.zero_le _, by have := hy.2; omega⟩))).later (by repeat (first | (with_reducible exact Below.refl _ _) | (with_reducible apply Below.drew) | (with_reducible refine below_drewN ?_ _) | (refine Below.setCell ?_ (by simp <;> omega) _) | (refine Below.alloc ?_ (by simp <;> omega) _)) : Below w25.heap.size w25 _) (Nat.le_refl _)) ((Sl.of (HO_1_vG_f1.out.lies (lo := 0) (hi := w25.heap.size) (fun y hy => ⟨Nat.zero_le _, by have := hy.2; omega⟩))).later (by repeat (first | (with_reducible exact Below.refl _ _) | (with_reducible apply Below.drew) | (with_reducible refine below_drewN ?_ _) | (refine Below.setCell ?_ (by simp <;> omega) _) | (refine Below.alloc ?_ (by simp <;> omega) _)) : Below w25.heap.size w25 _) (Nat.le_refl _)) ((Sl.of (HO_2_vR_f3.out.lies (lo := 0) (hi := w25.heap.size) (fun y hy => ⟨Nat.zero_le _, by have := hy.2; omega⟩))).later (by repeat (first | (with_reducible exact Below.refl _ _) | (with_reducible apply Below.drew) | (with_reducible refine below_drewN ?_ _) | (refine Below.setCell ?_ (by simp <;> omega) _) | (refine Below.alloc ?_ (by simp <;> omega) _)) : Below w25.heap.size w25 _) (Nat.le_refl _)) ((Sl.of (HO_4_vR_f3.out.lies (lo := 0) (hi := w25.heap.size) (fun y hy => ⟨Nat.zero_le _, by have := hy.2; omega⟩))).later (by repeat (first | (with_reducible exact Below.refl _ _) | (with_reducible apply Below.drew) | (with_reducible refine below_drewN ?_ _) | (refine Below.setCell ?_ (by simp <;> omega) _) | (refine Below.alloc ?_ (by simp <;> omega) _)) : Below w25.heap.size w25 _) (Nat.le_refl _)) ((Sl.of (HO_5_vR_f3.out.lies (lo := 0) (hi := w25.heap.size) (fun y hy => ⟨Nat.zero_le _, by have := hy.2; omega⟩))).later (by repeat (first | (with_reducible exact Below.refl _ _) | (with_reducible apply Below.drew) | (with_reducible refine below_drewN ?_ _) | (refine Below.setCell ?_ (by simp <;> omega) _) | (refine Below.alloc ?_ (by simp <;> omega) _)) : Below w25.heap.size w25 _) (Nat.le_refl _)) ((Sl.of (HO_1_vC_f5.out.lies (lo := 0) (hi := w25.heap.size) (fun y hy => ⟨Nat.zero_le _, by have := hy.2; omega⟩))).later (by repeat (first | (with_reducible exact Below.refl _ _) | (with_reducible apply Below.drew) | (with_reducible refine below_drewN ?_ _) | (refine Below.setCell ?_ (by simp <;> omega) _) | (refine Below.alloc ?_ (by simp <;> omega) _)) : Below w25.heap.size w25 _) (Nat.le_refl _))).mono ?_
                      rintro e w26 ⟨a1_R_f6, c1_R_f6, rfl, ho, hb26⟩
                      as_aux_lemma =>
                      go_wp2_with fail
                      exact freePost _ rfl ⟨hb26, Exists.intro a1_R_f6 (Exists.intro c1_R_f6 (And.intro upd_self ho))⟩
                    · intro V L H w25 hb25 hd
                      clear hd
                      have HB25 := Lib.hid (HB24.out.trans (hb25.mono HB24.out.size))
                      clear sz24_paG bx24_paG_0 bx24_paG_1 sz24_paR bx24_paR_0 bx24_paR_1 bx24_paR_2 bx24_paR_3 bx24_paR_4 bx24_paR_5 sz24_paC bx24_paC_0 bx24_paC_1 sz24_w0 bx24_w0_0 bx24_w0_1 sz24_x0 bx24_x0_0 bx24_x0_1 sz24_x1 bx24_x1_0 bx24_x1_1 bx24_x1_2 bx24_x1_3 bx24_x1_4 bx24_x1_5 sz24_x2 bx24_x2_0 bx24_x2_1 sz24_g0 bx24_g0_0 bx24_g0_1
                      go_wp2_with fail
                      refine freePost _ rfl ⟨Below.alloc (Below.refl _ _) (Nat.le_refl _) _, upd_self, ?_, ?_, ?_, ?_, ?_⟩
                      · simp
                      all_goals go_simp
                    · intro V L H w25 hb25 hd
                      obtain ⟨⟨hL7, hM7, hH7, hv7, hlt7, hc7_0, hf7_0, hc7_1, hf7_1⟩, ⟨hL6, hM6, hH6, a1_R_f6, c1_R_f6, hv6, ho6_⟩, -⟩ := hd
                      rw [hv7, hv6]
                      have HV7 := Lib.hid hv7
                      have HV6 := Lib.hid hv6
                      clear hv7 hv6
                      have HB25 := Lib.hid (HB24.out.trans (hb25.mono HB24.out.size))
                      clear sz24_paG bx24_paG_0 bx24_paG_1 sz24_paR bx24_paR_0 bx24_paR_1 bx24_paR_2 bx24_paR_3 bx24_paR_4 bx24_paR_5 sz24_paC bx24_paC_0 bx24_paC_1 sz24_w0 bx24_w0_0 bx24_w0_1 sz24_x0 bx24_x0_0 bx24_x0_1 sz24_x1 bx24_x1_0 bx24_x1_1 bx24_x1_2 bx24_x1_3 bx24_x1_4 bx24_x1_5 sz24_x2 bx24_x2_0 bx24_x2_1 sz24_g0 bx24_g0_0 bx24_g0_1
                      go_wp2_with fail
                      refine freePost undef rfl ⟨(Touches.put (L := L 7) (H := H 7) (Touches.put (L := L 7) (H := H 7) Touches.refl (p := ⟨L 7, 0, none⟩) ⟨Nat.le_refl _, hlt7⟩ _) (p := ⟨L 7, 1, none⟩) ⟨Nat.le_refl _, hlt7⟩ _), fun x0 x1 h => ?_⟩
                      cases (HV6.out.symm.trans ((upd_ne (by decide)).symm.trans h))
                      refine ⟨hlt7, ?_, ?_⟩
                      all_goals go_simp
                    · intro V L H w25 hb25 hd hap hdead
                      obtain ⟨⟨hL0, hM0, hH0, hv0⟩, ⟨hL1, hM1, hH1, a0_vG_f1, c0_vG_f1, a1_vG_f1, c1_vG_f1, hv1, ho1_⟩, ⟨hL2, hM2, hH2, hv2⟩, ⟨hL3, hM3, hH3, a2_vR_f3, c2_vR_f3, a4_vR_f3, c4_vR_f3, a5_vR_f3, c5_vR_f3, hv3, ho3_⟩, ⟨hL4, hM4, hH4, hv4⟩, ⟨hL5, hM5, hH5, a1_vC_f5, c1_vC_f5, hv5, ho5_⟩, ⟨hL6, hM6, hH6, a1_R_f6, c1_R_f6, hv6, ho6_⟩, ⟨hL8, hM8, hH8, hst8_⟩, -⟩ := hd
                      obtain ⟨hLe, hHe, wo, hva, -⟩ := hdead 8 7 (by decide) rfl
                      have hv6' := hv6
                      obtain ⟨hlt, hc0, hc1⟩ := hst8_ _ _ hv6'
                      rw [hv0, hv2, hv4, hv6', hva, hv1, hv3, hv5]
                      clear hv0 hv2 hv4 hv6' hva hv1 hv3 hv5 hv6
                      have hdis := hap 8 6 (by decide) (by decide) (by decide)
                      clear hap hdead
                      have HLe := Lib.hid hLe
                      have HHe := Lib.hid hHe
                      clear hLe hHe
                      go_wp2_with fail
                      go_meet
                      have hLe := HLe.out
                      have hHe := HHe.out
                      refine ⟨L 7, L 6, H 6, a1_R_f6, c1_R_f6, rfl, ?_, ?_, ho6_, ?_, ?_, ?_, ?_, ?_, hb25⟩
                      · rw [← hLe]; exact hc0
                      · rw [← hLe]; exact hc1
                      · omega
                      · omega
                      · omega
                      · omega
                      · omega
                case rest =>
                  as_aux_lemma =>
                  obtain ⟨bV28, lV28, hV28, a1_R_28, c1_R_28, rfl, bx28_h0_0, bx28_h0_1, ho28, sz28_h0, hB28, hL28, hH28, hD28, hb28⟩ := hcut
                  obtain ⟨w28, rfl⟩ : ∃ w_ : World, w_ = wc := ⟨_, rfl⟩
                  have hr28 : w24.heap.size ≤ w28.heap.size := hb28.size
                  have hK28 : bV28 < w28.heap.size := sz28_h0
                  have sz28_paG := Nat.lt_of_lt_of_le sz24_paG hb28.size
                  have bx28_paG_0 := (hb28.cell (p := ⟨w.heap.size, 0, none⟩) sz24_paG).trans bx24_paG_0
                  have bx28_paG_1 := (hb28.cell (p := ⟨w.heap.size, 1, none⟩) sz24_paG).trans bx24_paG_1
                  have sz28_paR := Nat.lt_of_lt_of_le sz24_paR hb28.size
                  have bx28_paR_0 := (hb28.cell (p := ⟨w.heap.size + 1, 0, none⟩) sz24_paR).trans bx24_paR_0
                  have bx28_paR_1 := (hb28.cell (p := ⟨w.heap.size + 1, 1, none⟩) sz24_paR).trans bx24_paR_1
                  have bx28_paR_2 := (hb28.cell (p := ⟨w.heap.size + 1, 2, none⟩) sz24_paR).trans bx24_paR_2
                  have bx28_paR_3 := (hb28.cell (p := ⟨w.heap.size + 1, 3, none⟩) sz24_paR).trans bx24_paR_3
                  have bx28_paR_4 := (hb28.cell (p := ⟨w.heap.size + 1, 4, none⟩) sz24_paR).trans bx24_paR_4
                  have bx28_paR_5 := (hb28.cell (p := ⟨w.heap.size + 1, 5, none⟩) sz24_paR).trans bx24_paR_5
                  have sz28_paC := Nat.lt_of_lt_of_le sz24_paC hb28.size
                  have bx28_paC_0 := (hb28.cell (p := ⟨w.heap.size + 2, 0, none⟩) sz24_paC).trans bx24_paC_0
                  have bx28_paC_1 := (hb28.cell (p := ⟨w.heap.size + 2, 1, none⟩) sz24_paC).trans bx24_paC_1
                  have sz28_w0 := Nat.lt_of_lt_of_le sz24_w0 hb28.size
                  have bx28_w0_0 := (hb28.cell (p := ⟨bV7, 0, none⟩) sz24_w0).trans bx24_w0_0
                  have bx28_w0_1 := (hb28.cell (p := ⟨bV7, 1, none⟩) sz24_w0).trans bx24_w0_1
                  have sz28_x0 := Nat.lt_of_lt_of_le sz24_x0 hb28.size
                  have bx28_x0_0 := (hb28.cell (p := ⟨w8.heap.size, 0, none⟩) sz24_x0).trans bx24_x0_0
                  have bx28_x0_1 := (hb28.cell (p := ⟨w8.heap.size, 1, none⟩) sz24_x0).trans bx24_x0_1
                  have sz28_x1 := Nat.lt_of_lt_of_le sz24_x1 hb28.size
                  have bx28_x1_0 := (hb28.cell (p := ⟨w9.heap.size, 0, none⟩) sz24_x1).trans bx24_x1_0
                  have bx28_x1_1 := (hb28.cell (p := ⟨w9.heap.size, 1, none⟩) sz24_x1).trans bx24_x1_1
                  have bx28_x1_2 := (hb28.cell (p := ⟨w9.heap.size, 2, none⟩) sz24_x1).trans bx24_x1_2
                  have bx28_x1_3 := (hb28.cell (p := ⟨w9.heap.size, 3, none⟩) sz24_x1).trans bx24_x1_3
                  have bx28_x1_4 := (hb28.cell (p := ⟨w9.heap.size, 4, none⟩) sz24_x1).trans bx24_x1_4
                  have bx28_x1_5 := (hb28.cell (p := ⟨w9.heap.size, 5, none⟩) sz24_x1).trans bx24_x1_5
                  have sz28_x2 := Nat.lt_of_lt_of_le sz24_x2 hb28.size
                  have bx28_x2_0 := (hb28.cell (p := ⟨w10.heap.size, 0, none⟩) sz24_x2).trans bx24_x2_0
                  have bx28_x2_1 := (hb28.cell (p := ⟨w10.heap.size, 1, none⟩) sz24_x2).trans bx24_x2_1
                  have sz28_g0 := Nat.lt_of_lt_of_le sz24_g0 hb28.size
                  have bx28_g0_0 := (hb28.cell (p := ⟨w11.heap.size, 0, none⟩) sz24_g0).trans bx24_g0_0
                  have bx28_g0_1 := (hb28.cell (p := ⟨w11.heap.size, 1, none⟩) sz24_g0).trans bx24_g0_1
                  have HO28_1_R_7 := Lib.hid (HO24_1_R_7.out.kept (Kept.of_below_all hb28))
                  have HO28_1_R_11 := Lib.hid (HO24_1_R_11.out.kept (Kept.of_below_all hb28))
                  have HO28_0_vG_13 := Lib.hid (HO24_0_vG_13.out.kept (Kept.of_below_all hb28))
                  have HO28_1_vG_13 := Lib.hid (HO24_1_vG_13.out.kept (Kept.of_below_all hb28))
                  have HO28_2_vR_15 := Lib.hid (HO24_2_vR_15.out.kept (Kept.of_below_all hb28))
                  have HO28_4_vR_15 := Lib.hid (HO24_4_vR_15.out.kept (Kept.of_below_all hb28))
                  have HO28_5_vR_15 := Lib.hid (HO24_5_vR_15.out.kept (Kept.of_below_all hb28))
                  have HO28_1_vC_17 := Lib.hid (HO24_1_vC_17.out.kept (Kept.of_below_all hb28))
                  have HO28_1_R_28 := Lib.hid ho28
                  have HB28 := Lib.hid (HB24.out.trans (hb28.mono HB24.out.size))
                  clear hb28 ho28 bx24_paG_0 bx24_paG_1 sz24_paG bx24_paR_0 bx24_paR_1 bx24_paR_2 bx24_paR_3 bx24_paR_4 bx24_paR_5 sz24_paR bx24_paC_0 bx24_paC_1 sz24_paC bx24_w0_0 bx24_w0_1 sz24_w0 bx24_x0_0 bx24_x0_1 sz24_x0 bx24_x1_0 bx24_x1_1 bx24_x1_2 bx24_x1_3 bx24_x1_4 bx24_x1_5 sz24_x1 bx24_x2_0 bx24_x2_1 sz24_x2 bx24_g0_0 bx24_g0_1 sz24_g0 HO24_1_R_7 HO24_1_R_11 HO24_0_vG_13 HO24_1_vG_13 HO24_2_vR_15 HO24_4_vR_15 HO24_5_vR_15 HO24_1_vC_17 HB24
                  go_wp2_with fail
                  refine (laws_eqRelation (c1 := c1_R_28) (c1q := c1_R_7) (summ vG vR vC) hq_R _ (Below.size (by repeat (first | (with_reducible exact Below.refl _ _) | (with_reducible apply Below.drew) | (with_reducible refine below_drewN ?_ _) | (refine Below.setCell ?_ (by simp <;> omega) _) | (refine Below.alloc ?_ (by simp <;> omega) _)) : Below w28.heap.size w28 _)) (Below.size (by repeat (first | (with_reducible exact Below.refl _ _) | (with_reducible apply Below.drew) | (with_reducible refine below_drewN ?_ _) | (refine Below.setCell ?_ (by simp <;> omega) _) | (refine Below.alloc ?_ (by simp <;> omega) _)) : Below w28.heap.size w28 _)) ((Sl.of (HO28_1_R_28.out.lies (lo := 0) (hi := w28.heap.size) (fun y hy => ⟨Nat.zero_le _, by have := hy.2; omega⟩))).later (by repeat (first | (with_reducible exact Below.refl _ _) | (with_reducible apply Below.drew) | (with_reducible refine below_drewN ?_ _) | (refine Below.setCell ?_ (by simp <;> omega) _) | (refine Below.alloc ?_ (by simp <;> omega) _)) : Below w28.heap.size w28 _) (Nat.le_refl _)) ((Sl.of (HO28_1_R_7.out.lies (lo := 0) (hi := w28.heap.size) (fun y hy => ⟨Nat.zero_le _, by have := hy.2; omega⟩))).later (by repeat (first | (with_reducible exact Below.refl _ _) | (with_reducible apply Below.drew) | (with_reducible refine below_drewN ?_ _) | (refine Below.setCell ?_ (by simp <;> omega) _) | (refine Below.alloc ?_ (by simp <;> omega) _)) : Below w28.heap.size w28 _) (Nat.le_refl _))).mono ?_
                  rintro e w29 ⟨rfl, hb29⟩
                  as_aux_lemma =>
                  have hst29 : Below w28.heap.size w28 w29 := Below.trans (by repeat (first | (with_reducible exact Below.refl _ _) | (with_reducible apply Below.drew) | (with_reducible refine below_drewN ?_ _) | (refine Below.setCell ?_ (by simp <;> omega) _) | (refine Below.alloc ?_ (by simp <;> omega) _)) : Below w28.heap.size w28 _) (hb29.mono (Below.size (by repeat (first | (with_reducible exact Below.refl _ _) | (with_reducible apply Below.drew) | (with_reducible refine below_drewN ?_ _) | (refine Below.setCell ?_ (by simp <;> omega) _) | (refine Below.alloc ?_ (by simp <;> omega) _)) : Below w28.heap.size w28 _)))
                  have hr29 : w28.heap.size ≤ w29.heap.size := Nat.le_trans (by first | exact Nat.le_refl _ | (simp; done) | (simp; omega) | (simp [World.setCell]; done) | (simp [World.setCell]; omega)) hb29.size
                  have sz29_paG := Nat.lt_of_lt_of_le sz28_paG hst29.size
                  have bx29_paG_0 := (hst29.cell (p := ⟨w.heap.size, 0, none⟩) sz28_paG).trans bx28_paG_0
                  have bx29_paG_1 := (hst29.cell (p := ⟨w.heap.size, 1, none⟩) sz28_paG).trans bx28_paG_1
                  have sz29_paR := Nat.lt_of_lt_of_le sz28_paR hst29.size
                  have bx29_paR_0 := (hst29.cell (p := ⟨w.heap.size + 1, 0, none⟩) sz28_paR).trans bx28_paR_0
                  have bx29_paR_1 := (hst29.cell (p := ⟨w.heap.size + 1, 1, none⟩) sz28_paR).trans bx28_paR_1
                  have bx29_paR_2 := (hst29.cell (p := ⟨w.heap.size + 1, 2, none⟩) sz28_paR).trans bx28_paR_2
                  have bx29_paR_3 := (hst29.cell (p := ⟨w.heap.size + 1, 3, none⟩) sz28_paR).trans bx28_paR_3
                  have bx29_paR_4 := (hst29.cell (p := ⟨w.heap.size + 1, 4, none⟩) sz28_paR).trans bx28_paR_4
                  have bx29_paR_5 := (hst29.cell (p := ⟨w.heap.size + 1, 5, none⟩) sz28_paR).trans bx28_paR_5
                  have sz29_paC := Nat.lt_of_lt_of_le sz28_paC hst29.size
                  have bx29_paC_0 := (hst29.cell (p := ⟨w.heap.size + 2, 0, none⟩) sz28_paC).trans bx28_paC_0
                  have bx29_paC_1 := (hst29.cell (p := ⟨w.heap.size + 2, 1, none⟩) sz28_paC).trans bx28_paC_1
                  have sz29_w0 := Nat.lt_of_lt_of_le sz28_w0 hst29.size
                  have bx29_w0_0 := (hst29.cell (p := ⟨bV7, 0, none⟩) sz28_w0).trans bx28_w0_0
                  have bx29_w0_1 := (hst29.cell (p := ⟨bV7, 1, none⟩) sz28_w0).trans bx28_w0_1
                  have sz29_x0 := Nat.lt_of_lt_of_le sz28_x0 hst29.size
                  have bx29_x0_0 := (hst29.cell (p := ⟨w8.heap.size, 0, none⟩) sz28_x0).trans bx28_x0_0
                  have bx29_x0_1 := (hst29.cell (p := ⟨w8.heap.size, 1, none⟩) sz28_x0).trans bx28_x0_1
                  have sz29_x1 := Nat.lt_of_lt_of_le sz28_x1 hst29.size
                  have bx29_x1_0 := (hst29.cell (p := ⟨w9.heap.size, 0, none⟩) sz28_x1).trans bx28_x1_0
                  have bx29_x1_1 := (hst29.cell (p := ⟨w9.heap.size, 1, none⟩) sz28_x1).trans bx28_x1_1
                  have bx29_x1_2 := (hst29.cell (p := ⟨w9.heap.size, 2, none⟩) sz28_x1).trans bx28_x1_2
                  have bx29_x1_3 := (hst29.cell (p := ⟨w9.heap.size, 3, none⟩) sz28_x1).trans bx28_x1_3
                  have bx29_x1_4 := (hst29.cell (p := ⟨w9.heap.size, 4, none⟩) sz28_x1).trans bx28_x1_4
                  have bx29_x1_5 := (hst29.cell (p := ⟨w9.heap.size, 5, none⟩) sz28_x1).trans bx28_x1_5
                  have sz29_x2 := Nat.lt_of_lt_of_le sz28_x2 hst29.size
                  have bx29_x2_0 := (hst29.cell (p := ⟨w10.heap.size, 0, none⟩) sz28_x2).trans bx28_x2_0
                  have bx29_x2_1 := (hst29.cell (p := ⟨w10.heap.size, 1, none⟩) sz28_x2).trans bx28_x2_1
                  have sz29_g0 := Nat.lt_of_lt_of_le sz28_g0 hst29.size
                  have bx29_g0_0 := (hst29.cell (p := ⟨w11.heap.size, 0, none⟩) sz28_g0).trans bx28_g0_0
                  have bx29_g0_1 := (hst29.cell (p := ⟨w11.heap.size, 1, none⟩) sz28_g0).trans bx28_g0_1
                  have sz29_h0 := Nat.lt_of_lt_of_le sz28_h0 hst29.size
                  have bx29_h0_0 := (hst29.cell (p := ⟨bV28, 0, none⟩) sz28_h0).trans bx28_h0_0
                  have bx29_h0_1 := (hst29.cell (p := ⟨bV28, 1, none⟩) sz28_h0).trans bx28_h0_1
                  have HO29_1_R_7 := Lib.hid (HO28_1_R_7.out.kept (Kept.of_below_all hst29))
                  have HO29_1_R_11 := Lib.hid (HO28_1_R_11.out.kept (Kept.of_below_all hst29))
                  have HO29_0_vG_13 := Lib.hid (HO28_0_vG_13.out.kept (Kept.of_below_all hst29))
                  have HO29_1_vG_13 := Lib.hid (HO28_1_vG_13.out.kept (Kept.of_below_all hst29))
                  have HO29_2_vR_15 := Lib.hid (HO28_2_vR_15.out.kept (Kept.of_below_all hst29))
                  have HO29_4_vR_15 := Lib.hid (HO28_4_vR_15.out.kept (Kept.of_below_all hst29))
                  have HO29_5_vR_15 := Lib.hid (HO28_5_vR_15.out.kept (Kept.of_below_all hst29))
                  have HO29_1_vC_17 := Lib.hid (HO28_1_vC_17.out.kept (Kept.of_below_all hst29))
                  have HO29_1_R_28 := Lib.hid (HO28_1_R_28.out.kept (Kept.of_below_all hst29))
                  have HB29 := Lib.hid (HB28.out.trans (hst29.mono HB28.out.size))
                  clear bx28_paG_0 bx28_paG_1 sz28_paG bx28_paR_0 bx28_paR_1 bx28_paR_2 bx28_paR_3 bx28_paR_4 bx28_paR_5 sz28_paR bx28_paC_0 bx28_paC_1 sz28_paC bx28_w0_0 bx28_w0_1 sz28_w0 bx28_x0_0 bx28_x0_1 sz28_x0 bx28_x1_0 bx28_x1_1 bx28_x1_2 bx28_x1_3 bx28_x1_4 bx28_x1_5 sz28_x1 bx28_x2_0 bx28_x2_1 sz28_x2 bx28_g0_0 bx28_g0_1 sz28_g0 bx28_h0_0 bx28_h0_1 sz28_h0 HO28_1_R_7 HO28_1_R_11 HO28_0_vG_13 HO28_1_vG_13 HO28_2_vR_15 HO28_4_vR_15 HO28_5_vR_15 HO28_1_vC_17 HO28_1_R_28 hb29 hst29 HB28
                  go_wp2_with fail
                  refine (laws_heldRelation (c1 := c1_R_11) (summ vG vR vC) (by have h1 := (summ_small vG vR vC).len; omega) 1 (by have h1 := (summ_small vG vR vC).len; omega) _ (fun y hy => Nat.lt_of_lt_of_le (show y < w29.heap.size by have := hy.2; omega) (Below.size (by repeat (first | (with_reducible exact Below.refl _ _) | (with_reducible apply Below.drew) | (with_reducible refine below_drewN ?_ _) | (refine Below.setCell ?_ (by simp <;> omega) _) | (refine Below.alloc ?_ (by simp <;> omega) _)) : Below w29.heap.size w29 _))) (HO29_1_R_11.out.kept (Kept.of_below (by repeat (first | (with_reducible exact Below.refl _ _) | (with_reducible apply Below.drew) | (with_reducible refine below_drewN ?_ _) | (refine Below.setCell ?_ (by simp <;> omega) _) | (refine Below.alloc ?_ (by simp <;> omega) _)) : Below w29.heap.size w29 _) (fun y hy => by have := hy.2; omega)))).mono ?_
                  rintro e w30 ⟨rfl, hb30⟩
                  as_aux_lemma =>
                  have hst30 : Below w29.heap.size w29 w30 := Below.trans (by repeat (first | (with_reducible exact Below.refl _ _) | (with_reducible apply Below.drew) | (with_reducible refine below_drewN ?_ _) | (refine Below.setCell ?_ (by simp <;> omega) _) | (refine Below.alloc ?_ (by simp <;> omega) _)) : Below w29.heap.size w29 _) (hb30.mono (Below.size (by repeat (first | (with_reducible exact Below.refl _ _) | (with_reducible apply Below.drew) | (with_reducible refine below_drewN ?_ _) | (refine Below.setCell ?_ (by simp <;> omega) _) | (refine Below.alloc ?_ (by simp <;> omega) _)) : Below w29.heap.size w29 _)))
                  have hr30 : w29.heap.size ≤ w30.heap.size := Nat.le_trans (by first | exact Nat.le_refl _ | (simp; done) | (simp; omega) | (simp [World.setCell]; done) | (simp [World.setCell]; omega)) hb30.size
                  have sz30_paG := Nat.lt_of_lt_of_le sz29_paG hst30.size
                  have bx30_paG_0 := (hst30.cell (p := ⟨w.heap.size, 0, none⟩) sz29_paG).trans bx29_paG_0
                  have bx30_paG_1 := (hst30.cell (p := ⟨w.heap.size, 1, none⟩) sz29_paG).trans bx29_paG_1
                  have sz30_paR := Nat.lt_of_lt_of_le sz29_paR hst30.size
                  have bx30_paR_0 := (hst30.cell (p := ⟨w.heap.size + 1, 0, none⟩) sz29_paR).trans bx29_paR_0
                  have bx30_paR_1 := (hst30.cell (p := ⟨w.heap.size + 1, 1, none⟩) sz29_paR).trans bx29_paR_1
                  have bx30_paR_2 := (hst30.cell (p := ⟨w.heap.size + 1, 2, none⟩) sz29_paR).trans bx29_paR_2
                  have bx30_paR_3 := (hst30.cell (p := ⟨w.heap.size + 1, 3, none⟩) sz29_paR).trans bx29_paR_3
                  have bx30_paR_4 := (hst30.cell (p := ⟨w.heap.size + 1, 4, none⟩) sz29_paR).trans bx29_paR_4
                  have bx30_paR_5 := (hst30.cell (p := ⟨w.heap.size + 1, 5, none⟩) sz29_paR).trans bx29_paR_5
                  have sz30_paC := Nat.lt_of_lt_of_le sz29_paC hst30.size
                  have bx30_paC_0 := (hst30.cell (p := ⟨w.heap.size + 2, 0, none⟩) sz29_paC).trans bx29_paC_0
                  have bx30_paC_1 := (hst30.cell (p := ⟨w.heap.size + 2, 1, none⟩) sz29_paC).trans bx29_paC_1
                  have sz30_w0 := Nat.lt_of_lt_of_le sz29_w0 hst30.size
                  have bx30_w0_0 := (hst30.cell (p := ⟨bV7, 0, none⟩) sz29_w0).trans bx29_w0_0
                  have bx30_w0_1 := (hst30.cell (p := ⟨bV7, 1, none⟩) sz29_w0).trans bx29_w0_1
                  have sz30_x0 := Nat.lt_of_lt_of_le sz29_x0 hst30.size
                  have bx30_x0_0 := (hst30.cell (p := ⟨w8.heap.size, 0, none⟩) sz29_x0).trans bx29_x0_0
                  have bx30_x0_1 := (hst30.cell (p := ⟨w8.heap.size, 1, none⟩) sz29_x0).trans bx29_x0_1
                  have sz30_x1 := Nat.lt_of_lt_of_le sz29_x1 hst30.size
                  have bx30_x1_0 := (hst30.cell (p := ⟨w9.heap.size, 0, none⟩) sz29_x1).trans bx29_x1_0
                  have bx30_x1_1 := (hst30.cell (p := ⟨w9.heap.size, 1, none⟩) sz29_x1).trans bx29_x1_1
                  have bx30_x1_2 := (hst30.cell (p := ⟨w9.heap.size, 2, none⟩) sz29_x1).trans bx29_x1_2
                  have bx30_x1_3 := (hst30.cell (p := ⟨w9.heap.size, 3, none⟩) sz29_x1).trans bx29_x1_3
                  have bx30_x1_4 := (hst30.cell (p := ⟨w9.heap.size, 4, none⟩) sz29_x1).trans bx29_x1_4
                  have bx30_x1_5 := (hst30.cell (p := ⟨w9.heap.size, 5, none⟩) sz29_x1).trans bx29_x1_5
                  have sz30_x2 := Nat.lt_of_lt_of_le sz29_x2 hst30.size
                  have bx30_x2_0 := (hst30.cell (p := ⟨w10.heap.size, 0, none⟩) sz29_x2).trans bx29_x2_0
                  have bx30_x2_1 := (hst30.cell (p := ⟨w10.heap.size, 1, none⟩) sz29_x2).trans bx29_x2_1
                  have sz30_g0 := Nat.lt_of_lt_of_le sz29_g0 hst30.size
                  have bx30_g0_0 := (hst30.cell (p := ⟨w11.heap.size, 0, none⟩) sz29_g0).trans bx29_g0_0
                  have bx30_g0_1 := (hst30.cell (p := ⟨w11.heap.size, 1, none⟩) sz29_g0).trans bx29_g0_1
                  have sz30_h0 := Nat.lt_of_lt_of_le sz29_h0 hst30.size
                  have bx30_h0_0 := (hst30.cell (p := ⟨bV28, 0, none⟩) sz29_h0).trans bx29_h0_0
                  have bx30_h0_1 := (hst30.cell (p := ⟨bV28, 1, none⟩) sz29_h0).trans bx29_h0_1
                  have HO30_1_R_7 := Lib.hid (HO29_1_R_7.out.kept (Kept.of_below_all hst30))
                  have HO30_1_R_11 := Lib.hid (HO29_1_R_11.out.kept (Kept.of_below_all hst30))
                  have HO30_0_vG_13 := Lib.hid (HO29_0_vG_13.out.kept (Kept.of_below_all hst30))
                  have HO30_1_vG_13 := Lib.hid (HO29_1_vG_13.out.kept (Kept.of_below_all hst30))
                  have HO30_2_vR_15 := Lib.hid (HO29_2_vR_15.out.kept (Kept.of_below_all hst30))
                  have HO30_4_vR_15 := Lib.hid (HO29_4_vR_15.out.kept (Kept.of_below_all hst30))
                  have HO30_5_vR_15 := Lib.hid (HO29_5_vR_15.out.kept (Kept.of_below_all hst30))
                  have HO30_1_vC_17 := Lib.hid (HO29_1_vC_17.out.kept (Kept.of_below_all hst30))
                  have HO30_1_R_28 := Lib.hid (HO29_1_R_28.out.kept (Kept.of_below_all hst30))
                  have HB30 := Lib.hid (HB29.out.trans (hst30.mono HB29.out.size))
                  clear bx29_paG_0 bx29_paG_1 sz29_paG bx29_paR_0 bx29_paR_1 bx29_paR_2 bx29_paR_3 bx29_paR_4 bx29_paR_5 sz29_paR bx29_paC_0 bx29_paC_1 sz29_paC bx29_w0_0 bx29_w0_1 sz29_w0 bx29_x0_0 bx29_x0_1 sz29_x0 bx29_x1_0 bx29_x1_1 bx29_x1_2 bx29_x1_3 bx29_x1_4 bx29_x1_5 sz29_x1 bx29_x2_0 bx29_x2_1 sz29_x2 bx29_g0_0 bx29_g0_1 sz29_g0 bx29_h0_0 bx29_h0_1 sz29_h0 HO29_1_R_7 HO29_1_R_11 HO29_0_vG_13 HO29_1_vG_13 HO29_2_vR_15 HO29_4_vR_15 HO29_5_vR_15 HO29_1_vC_17 HO29_1_R_28 hb30 hst30 HB29
                  go_wp2
                  go_ret
                  exact ⟨rfl, HB30.out⟩
end Go.Proofs.Ytfdilfhmcfggfaa.fnExactSummaryOf
