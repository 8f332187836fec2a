/-
  The law FnExactLocalRelation: for every grammar and rule the program's LocalRelation answers as the model's, and its answer owns its memory. No condition.
-/
import Derived.Test.YtnmepemmpeboeaaGreatZz17
import Derived.Test.YtnmepemmpeboeaaGreatZz8
import Derived.Test.YtnmepemmpeboeaaGreatZz6
import Derived.Test.YtnmepemmpeboeaaGreatZFree
import Derived.Test.YtnmepemmpeboeaaGreatZz1
import Derived.Deep.CutRange
import Derived.SizedLaws
import Derived.WalkSpells
import Derived.WalkSmall
import Derived.WalkLawsBesides
import Derived.SliceStrings
import Derived.Deep.QuietTactic
import Derived.Deep.RegionWith
import Derived.BigQuiet
import Derived.Outline
import Derived.Laws.Rows
namespace Go.Proofs.YtnmepemmpeboeaaGreat.fnExactLocalRelation
open Go.ChangeShapes Go.WideShapes Go.ChangeAt Go.RowKit Go.WideMaps Go.WideElems
open Go.ChangeMaps (open_string)
open Go.Lib Go.Deep

set_option maxHeartbeats 25600000 in
set_option maxRecDepth 100000 in
theorem walk (vG : DGrammar) (a0_vG : Option Addr) (c0_vG : Nat) (a1_vG : Option Addr) (c1_vG : Nat) (ok_vG : DGrammar.ok vG) (vR : DRule) (a2_vR : Option Addr) (c2_vR : Nat) (a4_vR : Option Addr) (c4_vR : Nat) (a5_vR : Option Addr) (c5_vR : Nat) (ok_vR : DRule.ok vR) (w : World) (hs_0_vG : Sl 0 w.heap.size w 2 vG.fSymbols.length (fun k => DSymbol.ct (vG.fSymbols.getD k default)) a0_vG) (hs_1_vG : Sl 0 w.heap.size w 6 vG.fRules.length (fun k => DRule.ct (vG.fRules.getD k default)) a1_vG) (hs_2_vR : Sl 0 w.heap.size w 1 vR.fRight.length (fun k => ictS (vR.fRight.getD k default)) a2_vR) (hs_4_vR : Sl 0 w.heap.size w 9 vR.fEquations.length (fun k => DEquation.ct (vR.fEquations.getD k default)) a4_vR) (hs_5_vR : Sl 0 w.heap.size w 16 vR.fContributions.length (fun k => DContribution.ct (vR.fContributions.getD k default)) a5_vR) :
    Calls Tryz.prog 3 #[.agg #[.slice a0_vG vG.fSymbols.length c0_vG, .slice a1_vG vG.fRules.length c1_vG], .agg #[.string vR.fName, .string vR.fLeft, .slice a2_vR vR.fRight.length c2_vR, .bool vR.fLiteral, .slice a4_vR vR.fEquations.length c4_vR, .slice a5_vR vR.fContributions.length c5_vR]] w fun e w' => e = .returned (.bool true) ∧ Below w.heap.size w w' := by
  have HS_0_vG := Lib.hid hs_0_vG
  clear hs_0_vG
  have HS_1_vG := Lib.hid hs_1_vG
  clear hs_1_vG
  have OK_vG := Lib.hid ok_vG
  clear ok_vG
  have HS_2_vR := Lib.hid hs_2_vR
  clear hs_2_vR
  have HS_4_vR := Lib.hid hs_4_vR
  clear hs_4_vR
  have HS_5_vR := Lib.hid hs_5_vR
  clear hs_5_vR
  have OK_vR := Lib.hid ok_vR
  clear ok_vR
  by_cases h0 : 1048576 < ((DGrammar.sz vG : Nat) : Int)
  · skip
    have hz := fun (hi : Nat) (w' : World) (hhi : hi ≤ w'.heap.size) (hs_0_vG : Sl 0 hi w' 2 vG.fSymbols.length (fun k => DSymbol.ct (vG.fSymbols.getD k default)) a0_vG) (hs_1_vG : Sl 0 hi w' 6 vG.fRules.length (fun k => DRule.ct (vG.fRules.getD k default)) a1_vG) => laws_szGrammar (c0 := c0_vG) (c1 := c1_vG) vG 1048576 (by omega) (by omega) OK_vG.out w' hhi hs_0_vG hs_1_vG
    rw [szR_gt (by omega)] at hz
    have HZ_vG := Lib.hid hz
    clear hz
    go_enter Tryz.func3, Tryz.ntmps3
    go_wp2_with fail
    refine (HZ_vG.out w.heap.size _ (Below.size (by repeat (first | (with_reducible exact Below.refl _ _) | (with_reducible apply Below.drew) | (with_reducible refine below_drewN ?_ _) | (refine Below.setCell ?_ (by simp <;> omega) _) | (refine Below.alloc ?_ (by simp <;> omega) _)) : Below w.heap.size w _)) ((HS_0_vG.out.later ((Below.refl w.heap.size w).trans ((by repeat (first | (with_reducible exact Below.refl _ _) | (with_reducible apply Below.drew) | (with_reducible refine below_drewN ?_ _) | (refine Below.setCell ?_ (by simp <;> omega) _) | (refine Below.alloc ?_ (by simp <;> omega) _)) : Below w.heap.size w _).mono (Below.refl w.heap.size w).size)) (Nat.le_refl _)).mono (Nat.le_refl _) (Below.refl w.heap.size w).size) ((HS_1_vG.out.later ((Below.refl w.heap.size w).trans ((by repeat (first | (with_reducible exact Below.refl _ _) | (with_reducible apply Below.drew) | (with_reducible refine below_drewN ?_ _) | (refine Below.setCell ?_ (by simp <;> omega) _) | (refine Below.alloc ?_ (by simp <;> omega) _)) : Below w.heap.size w _).mono (Below.refl w.heap.size w).size)) (Nat.le_refl _)).mono (Nat.le_refl _) (Below.refl w.heap.size w).size)).mono ?_
    rintro e w1 ⟨rfl, hb1⟩
    have hst1 : Below w.heap.size w w1 := Below.trans (by repeat (first | (with_reducible exact Below.refl _ _) | (with_reducible apply Below.drew) | (with_reducible refine below_drewN ?_ _) | (refine Below.setCell ?_ (by simp <;> omega) _) | (refine Below.alloc ?_ (by simp <;> omega) _)) : Below w.heap.size w _) (hb1.mono (Below.size (by repeat (first | (with_reducible exact Below.refl _ _) | (with_reducible apply Below.drew) | (with_reducible refine below_drewN ?_ _) | (refine Below.setCell ?_ (by simp <;> omega) _) | (refine Below.alloc ?_ (by simp <;> omega) _)) : Below w.heap.size w _)))
    have hr1 : w.heap.size + 2 ≤ w1.heap.size := Nat.le_trans (by first | exact Nat.le_refl _ | (simp; done) | (simp; omega) | (simp [World.setCell]; done) | (simp [World.setCell]; omega)) hb1.size
    have sz1_paG : w.heap.size < w1.heap.size := Nat.lt_of_lt_of_le (by first | omega | (simp; done) | (simp; omega) | (simp [World.setCell]; omega)) hb1.size
    have bx1_paG_0 : w1.cell? ⟨w.heap.size, 0, none⟩ = some (.slice a0_vG vG.fSymbols.length c0_vG) := (hb1.cell (p := ⟨w.heap.size, 0, none⟩) (by first | omega | (simp; done) | (simp; omega) | (simp [World.setCell]; omega))).trans (by go_simp)
    have bx1_paG_1 : w1.cell? ⟨w.heap.size, 1, none⟩ = some (.slice a1_vG vG.fRules.length c1_vG) := (hb1.cell (p := ⟨w.heap.size, 1, none⟩) (by first | omega | (simp; done) | (simp; omega) | (simp [World.setCell]; omega))).trans (by go_simp)
    have sz1_paR : w.heap.size + 1 < w1.heap.size := Nat.lt_of_lt_of_le (by first | omega | (simp; done) | (simp; omega) | (simp [World.setCell]; omega)) hb1.size
    have bx1_paR_0 : w1.cell? ⟨w.heap.size + 1, 0, none⟩ = some (.string vR.fName) := (hb1.cell (p := ⟨w.heap.size + 1, 0, none⟩) (by first | omega | (simp; done) | (simp; omega) | (simp [World.setCell]; omega))).trans (by go_simp)
    have bx1_paR_1 : w1.cell? ⟨w.heap.size + 1, 1, none⟩ = some (.string vR.fLeft) := (hb1.cell (p := ⟨w.heap.size + 1, 1, none⟩) (by first | omega | (simp; done) | (simp; omega) | (simp [World.setCell]; omega))).trans (by go_simp)
    have bx1_paR_2 : w1.cell? ⟨w.heap.size + 1, 2, none⟩ = some (.slice a2_vR vR.fRight.length c2_vR) := (hb1.cell (p := ⟨w.heap.size + 1, 2, none⟩) (by first | omega | (simp; done) | (simp; omega) | (simp [World.setCell]; omega))).trans (by go_simp)
    have bx1_paR_3 : w1.cell? ⟨w.heap.size + 1, 3, none⟩ = some (.bool vR.fLiteral) := (hb1.cell (p := ⟨w.heap.size + 1, 3, none⟩) (by first | omega | (simp; done) | (simp; omega) | (simp [World.setCell]; omega))).trans (by go_simp)
    have bx1_paR_4 : w1.cell? ⟨w.heap.size + 1, 4, none⟩ = some (.slice a4_vR vR.fEquations.length c4_vR) := (hb1.cell (p := ⟨w.heap.size + 1, 4, none⟩) (by first | omega | (simp; done) | (simp; omega) | (simp [World.setCell]; omega))).trans (by go_simp)
    have bx1_paR_5 : w1.cell? ⟨w.heap.size + 1, 5, none⟩ = some (.slice a5_vR vR.fContributions.length c5_vR) := (hb1.cell (p := ⟨w.heap.size + 1, 5, none⟩) (by first | omega | (simp; done) | (simp; omega) | (simp [World.setCell]; omega))).trans (by go_simp)
    have HB1 := Lib.hid ((Below.refl w.heap.size w).trans (hst1.mono (Below.refl w.heap.size w).size))
    clear hb1 hst1
    go_wp2
    go_ret
    exact ⟨rfl, HB1.out⟩
  · skip
    by_cases h1 : (1048576 - (DGrammar.sz vG : Nat)) < ((DRule.sz vR : Nat) : Int)
    · skip
      have hz := fun (hi : Nat) (w' : World) (hhi : hi ≤ w'.heap.size) (hs_0_vG : Sl 0 hi w' 2 vG.fSymbols.length (fun k => DSymbol.ct (vG.fSymbols.getD k default)) a0_vG) (hs_1_vG : Sl 0 hi w' 6 vG.fRules.length (fun k => DRule.ct (vG.fRules.getD k default)) a1_vG) => laws_szGrammar (c0 := c0_vG) (c1 := c1_vG) vG 1048576 (by omega) (by omega) OK_vG.out w' hhi hs_0_vG hs_1_vG
      rw [szR_le (by omega)] at hz
      have HZ_vG := Lib.hid hz
      clear hz
      have hz := fun (hi : Nat) (w' : World) (hhi : hi ≤ w'.heap.size) (hs_2_vR : Sl 0 hi w' 1 vR.fRight.length (fun k => ictS (vR.fRight.getD k default)) a2_vR) (hs_4_vR : Sl 0 hi w' 9 vR.fEquations.length (fun k => DEquation.ct (vR.fEquations.getD k default)) a4_vR) (hs_5_vR : Sl 0 hi w' 16 vR.fContributions.length (fun k => DContribution.ct (vR.fContributions.getD k default)) a5_vR) => laws_szRule (c2 := c2_vR) (c4 := c4_vR) (c5 := c5_vR) vR (1048576 - (DGrammar.sz vG : Nat)) (by omega) (by omega) OK_vR.out w' hhi hs_2_vR hs_4_vR hs_5_vR
      rw [szR_gt (by omega)] at hz
      have HZ_vR := Lib.hid hz
      clear hz
      go_enter Tryz.func3, Tryz.ntmps3
      go_wp2_with fail
      refine (HZ_vG.out w.heap.size _ (Below.size (by repeat (first | (with_reducible exact Below.refl _ _) | (with_reducible apply Below.drew) | (with_reducible refine below_drewN ?_ _) | (refine Below.setCell ?_ (by simp <;> omega) _) | (refine Below.alloc ?_ (by simp <;> omega) _)) : Below w.heap.size w _)) ((HS_0_vG.out.later ((Below.refl w.heap.size w).trans ((by repeat (first | (with_reducible exact Below.refl _ _) | (with_reducible apply Below.drew) | (with_reducible refine below_drewN ?_ _) | (refine Below.setCell ?_ (by simp <;> omega) _) | (refine Below.alloc ?_ (by simp <;> omega) _)) : Below w.heap.size w _).mono (Below.refl w.heap.size w).size)) (Nat.le_refl _)).mono (Nat.le_refl _) (Below.refl w.heap.size w).size) ((HS_1_vG.out.later ((Below.refl w.heap.size w).trans ((by repeat (first | (with_reducible exact Below.refl _ _) | (with_reducible apply Below.drew) | (with_reducible refine below_drewN ?_ _) | (refine Below.setCell ?_ (by simp <;> omega) _) | (refine Below.alloc ?_ (by simp <;> omega) _)) : Below w.heap.size w _).mono (Below.refl w.heap.size w).size)) (Nat.le_refl _)).mono (Nat.le_refl _) (Below.refl w.heap.size w).size)).mono ?_
      rintro e w1 ⟨rfl, hb1⟩
      have hst1 : Below w.heap.size w w1 := Below.trans (by repeat (first | (with_reducible exact Below.refl _ _) | (with_reducible apply Below.drew) | (with_reducible refine below_drewN ?_ _) | (refine Below.setCell ?_ (by simp <;> omega) _) | (refine Below.alloc ?_ (by simp <;> omega) _)) : Below w.heap.size w _) (hb1.mono (Below.size (by repeat (first | (with_reducible exact Below.refl _ _) | (with_reducible apply Below.drew) | (with_reducible refine below_drewN ?_ _) | (refine Below.setCell ?_ (by simp <;> omega) _) | (refine Below.alloc ?_ (by simp <;> omega) _)) : Below w.heap.size w _)))
      have hr1 : w.heap.size + 2 ≤ w1.heap.size := Nat.le_trans (by first | exact Nat.le_refl _ | (simp; done) | (simp; omega) | (simp [World.setCell]; done) | (simp [World.setCell]; omega)) hb1.size
      have sz1_paG : w.heap.size < w1.heap.size := Nat.lt_of_lt_of_le (by first | omega | (simp; done) | (simp; omega) | (simp [World.setCell]; omega)) hb1.size
      have bx1_paG_0 : w1.cell? ⟨w.heap.size, 0, none⟩ = some (.slice a0_vG vG.fSymbols.length c0_vG) := (hb1.cell (p := ⟨w.heap.size, 0, none⟩) (by first | omega | (simp; done) | (simp; omega) | (simp [World.setCell]; omega))).trans (by go_simp)
      have bx1_paG_1 : w1.cell? ⟨w.heap.size, 1, none⟩ = some (.slice a1_vG vG.fRules.length c1_vG) := (hb1.cell (p := ⟨w.heap.size, 1, none⟩) (by first | omega | (simp; done) | (simp; omega) | (simp [World.setCell]; omega))).trans (by go_simp)
      have sz1_paR : w.heap.size + 1 < w1.heap.size := Nat.lt_of_lt_of_le (by first | omega | (simp; done) | (simp; omega) | (simp [World.setCell]; omega)) hb1.size
      have bx1_paR_0 : w1.cell? ⟨w.heap.size + 1, 0, none⟩ = some (.string vR.fName) := (hb1.cell (p := ⟨w.heap.size + 1, 0, none⟩) (by first | omega | (simp; done) | (simp; omega) | (simp [World.setCell]; omega))).trans (by go_simp)
      have bx1_paR_1 : w1.cell? ⟨w.heap.size + 1, 1, none⟩ = some (.string vR.fLeft) := (hb1.cell (p := ⟨w.heap.size + 1, 1, none⟩) (by first | omega | (simp; done) | (simp; omega) | (simp [World.setCell]; omega))).trans (by go_simp)
      have bx1_paR_2 : w1.cell? ⟨w.heap.size + 1, 2, none⟩ = some (.slice a2_vR vR.fRight.length c2_vR) := (hb1.cell (p := ⟨w.heap.size + 1, 2, none⟩) (by first | omega | (simp; done) | (simp; omega) | (simp [World.setCell]; omega))).trans (by go_simp)
      have bx1_paR_3 : w1.cell? ⟨w.heap.size + 1, 3, none⟩ = some (.bool vR.fLiteral) := (hb1.cell (p := ⟨w.heap.size + 1, 3, none⟩) (by first | omega | (simp; done) | (simp; omega) | (simp [World.setCell]; omega))).trans (by go_simp)
      have bx1_paR_4 : w1.cell? ⟨w.heap.size + 1, 4, none⟩ = some (.slice a4_vR vR.fEquations.length c4_vR) := (hb1.cell (p := ⟨w.heap.size + 1, 4, none⟩) (by first | omega | (simp; done) | (simp; omega) | (simp [World.setCell]; omega))).trans (by go_simp)
      have bx1_paR_5 : w1.cell? ⟨w.heap.size + 1, 5, none⟩ = some (.slice a5_vR vR.fContributions.length c5_vR) := (hb1.cell (p := ⟨w.heap.size + 1, 5, none⟩) (by first | omega | (simp; done) | (simp; omega) | (simp [World.setCell]; omega))).trans (by go_simp)
      have HB1 := Lib.hid ((Below.refl w.heap.size w).trans (hst1.mono (Below.refl w.heap.size w).size))
      clear hb1 hst1
      go_wp2_with fail
      refine (HZ_vR.out w1.heap.size _ (Below.size (by repeat (first | (with_reducible exact Below.refl _ _) | (with_reducible apply Below.drew) | (with_reducible refine below_drewN ?_ _) | (refine Below.setCell ?_ (by simp <;> omega) _) | (refine Below.alloc ?_ (by simp <;> omega) _)) : Below w1.heap.size w1 _)) ((HS_2_vR.out.later (HB1.out.trans ((by repeat (first | (with_reducible exact Below.refl _ _) | (with_reducible apply Below.drew) | (with_reducible refine below_drewN ?_ _) | (refine Below.setCell ?_ (by simp <;> omega) _) | (refine Below.alloc ?_ (by simp <;> omega) _)) : Below w1.heap.size w1 _).mono HB1.out.size)) (Nat.le_refl _)).mono (Nat.le_refl _) HB1.out.size) ((HS_4_vR.out.later (HB1.out.trans ((by repeat (first | (with_reducible exact Below.refl _ _) | (with_reducible apply Below.drew) | (with_reducible refine below_drewN ?_ _) | (refine Below.setCell ?_ (by simp <;> omega) _) | (refine Below.alloc ?_ (by simp <;> omega) _)) : Below w1.heap.size w1 _).mono HB1.out.size)) (Nat.le_refl _)).mono (Nat.le_refl _) HB1.out.size) ((HS_5_vR.out.later (HB1.out.trans ((by repeat (first | (with_reducible exact Below.refl _ _) | (with_reducible apply Below.drew) | (with_reducible refine below_drewN ?_ _) | (refine Below.setCell ?_ (by simp <;> omega) _) | (refine Below.alloc ?_ (by simp <;> omega) _)) : Below w1.heap.size w1 _).mono HB1.out.size)) (Nat.le_refl _)).mono (Nat.le_refl _) HB1.out.size)).mono ?_
      rintro e w2 ⟨rfl, hb2⟩
      have hst2 : Below w1.heap.size w1 w2 := Below.trans (by repeat (first | (with_reducible exact Below.refl _ _) | (with_reducible apply Below.drew) | (with_reducible refine below_drewN ?_ _) | (refine Below.setCell ?_ (by simp <;> omega) _) | (refine Below.alloc ?_ (by simp <;> omega) _)) : Below w1.heap.size w1 _) (hb2.mono (Below.size (by repeat (first | (with_reducible exact Below.refl _ _) | (with_reducible apply Below.drew) | (with_reducible refine below_drewN ?_ _) | (refine Below.setCell ?_ (by simp <;> omega) _) | (refine Below.alloc ?_ (by simp <;> omega) _)) : Below w1.heap.size w1 _)))
      have hr2 : w1.heap.size ≤ w2.heap.size := Nat.le_trans (by first | exact Nat.le_refl _ | (simp; done) | (simp; omega) | (simp [World.setCell]; done) | (simp [World.setCell]; omega)) hb2.size
      have sz2_paG : w.heap.size < w2.heap.size := Nat.lt_of_lt_of_le sz1_paG hst2.size
      have bx2_paG_0 : w2.cell? ⟨w.heap.size, 0, none⟩ = some (.slice a0_vG vG.fSymbols.length c0_vG) := (hst2.cell (p := ⟨w.heap.size, 0, none⟩) sz1_paG).trans bx1_paG_0
      have bx2_paG_1 : w2.cell? ⟨w.heap.size, 1, none⟩ = some (.slice a1_vG vG.fRules.length c1_vG) := (hst2.cell (p := ⟨w.heap.size, 1, none⟩) sz1_paG).trans bx1_paG_1
      have sz2_paR : w.heap.size + 1 < w2.heap.size := Nat.lt_of_lt_of_le sz1_paR hst2.size
      have bx2_paR_0 : w2.cell? ⟨w.heap.size + 1, 0, none⟩ = some (.string vR.fName) := (hst2.cell (p := ⟨w.heap.size + 1, 0, none⟩) sz1_paR).trans bx1_paR_0
      have bx2_paR_1 : w2.cell? ⟨w.heap.size + 1, 1, none⟩ = some (.string vR.fLeft) := (hst2.cell (p := ⟨w.heap.size + 1, 1, none⟩) sz1_paR).trans bx1_paR_1
      have bx2_paR_2 : w2.cell? ⟨w.heap.size + 1, 2, none⟩ = some (.slice a2_vR vR.fRight.length c2_vR) := (hst2.cell (p := ⟨w.heap.size + 1, 2, none⟩) sz1_paR).trans bx1_paR_2
      have bx2_paR_3 : w2.cell? ⟨w.heap.size + 1, 3, none⟩ = some (.bool vR.fLiteral) := (hst2.cell (p := ⟨w.heap.size + 1, 3, none⟩) sz1_paR).trans bx1_paR_3
      have bx2_paR_4 : w2.cell? ⟨w.heap.size + 1, 4, none⟩ = some (.slice a4_vR vR.fEquations.length c4_vR) := (hst2.cell (p := ⟨w.heap.size + 1, 4, none⟩) sz1_paR).trans bx1_paR_4
      have bx2_paR_5 : w2.cell? ⟨w.heap.size + 1, 5, none⟩ = some (.slice a5_vR vR.fContributions.length c5_vR) := (hst2.cell (p := ⟨w.heap.size + 1, 5, none⟩) sz1_paR).trans bx1_paR_5
      have HB2 := Lib.hid (HB1.out.trans (hst2.mono HB1.out.size))
      clear bx1_paG_0 bx1_paG_1 sz1_paG bx1_paR_0 bx1_paR_1 bx1_paR_2 bx1_paR_3 bx1_paR_4 bx1_paR_5 sz1_paR hb2 hst2 HB1
      go_wp2
      go_ret
      exact ⟨rfl, HB2.out⟩
    · skip
      have hz := fun (hi : Nat) (w' : World) (hhi : hi ≤ w'.heap.size) (hs_0_vG : Sl 0 hi w' 2 vG.fSymbols.length (fun k => DSymbol.ct (vG.fSymbols.getD k default)) a0_vG) (hs_1_vG : Sl 0 hi w' 6 vG.fRules.length (fun k => DRule.ct (vG.fRules.getD k default)) a1_vG) => laws_szGrammar (c0 := c0_vG) (c1 := c1_vG) vG 1048576 (by omega) (by omega) OK_vG.out w' hhi hs_0_vG hs_1_vG
      rw [szR_le (by omega)] at hz
      have HZ_vG := Lib.hid hz
      clear hz
      have hz := fun (hi : Nat) (w' : World) (hhi : hi ≤ w'.heap.size) (hs_2_vR : Sl 0 hi w' 1 vR.fRight.length (fun k => ictS (vR.fRight.getD k default)) a2_vR) (hs_4_vR : Sl 0 hi w' 9 vR.fEquations.length (fun k => DEquation.ct (vR.fEquations.getD k default)) a4_vR) (hs_5_vR : Sl 0 hi w' 16 vR.fContributions.length (fun k => DContribution.ct (vR.fContributions.getD k default)) a5_vR) => laws_szRule (c2 := c2_vR) (c4 := c4_vR) (c5 := c5_vR) vR (1048576 - (DGrammar.sz vG : Nat)) (by omega) (by omega) OK_vR.out w' hhi hs_2_vR hs_4_vR hs_5_vR
      rw [szR_le (by omega)] at hz
      have HZ_vR := Lib.hid hz
      clear hz
      have hq_vG : DGrammar.sz vG ≤ 1048576 := by omega
      have hq_vR : DRule.sz vR ≤ 1048576 := by omega
      have hq_R : DRelation.sz (locRel vG vR) ≤ 1048576 := locRel_sz vG vR
      go_enter Tryz.func3, Tryz.ntmps3
      go_wp2_with fail
      refine (HZ_vG.out w.heap.size _ (Below.size (by repeat (first | (with_reducible exact Below.refl _ _) | (with_reducible apply Below.drew) | (with_reducible refine below_drewN ?_ _) | (refine Below.setCell ?_ (by simp <;> omega) _) | (refine Below.alloc ?_ (by simp <;> omega) _)) : Below w.heap.size w _)) ((HS_0_vG.out.later ((Below.refl w.heap.size w).trans ((by repeat (first | (with_reducible exact Below.refl _ _) | (with_reducible apply Below.drew) | (with_reducible refine below_drewN ?_ _) | (refine Below.setCell ?_ (by simp <;> omega) _) | (refine Below.alloc ?_ (by simp <;> omega) _)) : Below w.heap.size w _).mono (Below.refl w.heap.size w).size)) (Nat.le_refl _)).mono (Nat.le_refl _) (Below.refl w.heap.size w).size) ((HS_1_vG.out.later ((Below.refl w.heap.size w).trans ((by repeat (first | (with_reducible exact Below.refl _ _) | (with_reducible apply Below.drew) | (with_reducible refine below_drewN ?_ _) | (refine Below.setCell ?_ (by simp <;> omega) _) | (refine Below.alloc ?_ (by simp <;> omega) _)) : Below w.heap.size w _).mono (Below.refl w.heap.size w).size)) (Nat.le_refl _)).mono (Nat.le_refl _) (Below.refl w.heap.size w).size)).mono ?_
      rintro e w1 ⟨rfl, hb1⟩
      have hst1 : Below w.heap.size w w1 := Below.trans (by repeat (first | (with_reducible exact Below.refl _ _) | (with_reducible apply Below.drew) | (with_reducible refine below_drewN ?_ _) | (refine Below.setCell ?_ (by simp <;> omega) _) | (refine Below.alloc ?_ (by simp <;> omega) _)) : Below w.heap.size w _) (hb1.mono (Below.size (by repeat (first | (with_reducible exact Below.refl _ _) | (with_reducible apply Below.drew) | (with_reducible refine below_drewN ?_ _) | (refine Below.setCell ?_ (by simp <;> omega) _) | (refine Below.alloc ?_ (by simp <;> omega) _)) : Below w.heap.size w _)))
      have hr1 : w.heap.size + 2 ≤ w1.heap.size := Nat.le_trans (by first | exact Nat.le_refl _ | (simp; done) | (simp; omega) | (simp [World.setCell]; done) | (simp [World.setCell]; omega)) hb1.size
      have sz1_paG : w.heap.size < w1.heap.size := Nat.lt_of_lt_of_le (by first | omega | (simp; done) | (simp; omega) | (simp [World.setCell]; omega)) hb1.size
      have bx1_paG_0 : w1.cell? ⟨w.heap.size, 0, none⟩ = some (.slice a0_vG vG.fSymbols.length c0_vG) := (hb1.cell (p := ⟨w.heap.size, 0, none⟩) (by first | omega | (simp; done) | (simp; omega) | (simp [World.setCell]; omega))).trans (by go_simp)
      have bx1_paG_1 : w1.cell? ⟨w.heap.size, 1, none⟩ = some (.slice a1_vG vG.fRules.length c1_vG) := (hb1.cell (p := ⟨w.heap.size, 1, none⟩) (by first | omega | (simp; done) | (simp; omega) | (simp [World.setCell]; omega))).trans (by go_simp)
      have sz1_paR : w.heap.size + 1 < w1.heap.size := Nat.lt_of_lt_of_le (by first | omega | (simp; done) | (simp; omega) | (simp [World.setCell]; omega)) hb1.size
      have bx1_paR_0 : w1.cell? ⟨w.heap.size + 1, 0, none⟩ = some (.string vR.fName) := (hb1.cell (p := ⟨w.heap.size + 1, 0, none⟩) (by first | omega | (simp; done) | (simp; omega) | (simp [World.setCell]; omega))).trans (by go_simp)
      have bx1_paR_1 : w1.cell? ⟨w.heap.size + 1, 1, none⟩ = some (.string vR.fLeft) := (hb1.cell (p := ⟨w.heap.size + 1, 1, none⟩) (by first | omega | (simp; done) | (simp; omega) | (simp [World.setCell]; omega))).trans (by go_simp)
      have bx1_paR_2 : w1.cell? ⟨w.heap.size + 1, 2, none⟩ = some (.slice a2_vR vR.fRight.length c2_vR) := (hb1.cell (p := ⟨w.heap.size + 1, 2, none⟩) (by first | omega | (simp; done) | (simp; omega) | (simp [World.setCell]; omega))).trans (by go_simp)
      have bx1_paR_3 : w1.cell? ⟨w.heap.size + 1, 3, none⟩ = some (.bool vR.fLiteral) := (hb1.cell (p := ⟨w.heap.size + 1, 3, none⟩) (by first | omega | (simp; done) | (simp; omega) | (simp [World.setCell]; omega))).trans (by go_simp)
      have bx1_paR_4 : w1.cell? ⟨w.heap.size + 1, 4, none⟩ = some (.slice a4_vR vR.fEquations.length c4_vR) := (hb1.cell (p := ⟨w.heap.size + 1, 4, none⟩) (by first | omega | (simp; done) | (simp; omega) | (simp [World.setCell]; omega))).trans (by go_simp)
      have bx1_paR_5 : w1.cell? ⟨w.heap.size + 1, 5, none⟩ = some (.slice a5_vR vR.fContributions.length c5_vR) := (hb1.cell (p := ⟨w.heap.size + 1, 5, none⟩) (by first | omega | (simp; done) | (simp; omega) | (simp [World.setCell]; omega))).trans (by go_simp)
      have HB1 := Lib.hid ((Below.refl w.heap.size w).trans (hst1.mono (Below.refl w.heap.size w).size))
      clear hb1 hst1
      go_wp2_with fail
      refine (HZ_vR.out w1.heap.size _ (Below.size (by repeat (first | (with_reducible exact Below.refl _ _) | (with_reducible apply Below.drew) | (with_reducible refine below_drewN ?_ _) | (refine Below.setCell ?_ (by simp <;> omega) _) | (refine Below.alloc ?_ (by simp <;> omega) _)) : Below w1.heap.size w1 _)) ((HS_2_vR.out.later (HB1.out.trans ((by repeat (first | (with_reducible exact Below.refl _ _) | (with_reducible apply Below.drew) | (with_reducible refine below_drewN ?_ _) | (refine Below.setCell ?_ (by simp <;> omega) _) | (refine Below.alloc ?_ (by simp <;> omega) _)) : Below w1.heap.size w1 _).mono HB1.out.size)) (Nat.le_refl _)).mono (Nat.le_refl _) HB1.out.size) ((HS_4_vR.out.later (HB1.out.trans ((by repeat (first | (with_reducible exact Below.refl _ _) | (with_reducible apply Below.drew) | (with_reducible refine below_drewN ?_ _) | (refine Below.setCell ?_ (by simp <;> omega) _) | (refine Below.alloc ?_ (by simp <;> omega) _)) : Below w1.heap.size w1 _).mono HB1.out.size)) (Nat.le_refl _)).mono (Nat.le_refl _) HB1.out.size) ((HS_5_vR.out.later (HB1.out.trans ((by repeat (first | (with_reducible exact Below.refl _ _) | (with_reducible apply Below.drew) | (with_reducible refine below_drewN ?_ _) | (refine Below.setCell ?_ (by simp <;> omega) _) | (refine Below.alloc ?_ (by simp <;> omega) _)) : Below w1.heap.size w1 _).mono HB1.out.size)) (Nat.le_refl _)).mono (Nat.le_refl _) HB1.out.size)).mono ?_
      rintro e w2 ⟨rfl, hb2⟩
      have hst2 : Below w1.heap.size w1 w2 := Below.trans (by repeat (first | (with_reducible exact Below.refl _ _) | (with_reducible apply Below.drew) | (with_reducible refine below_drewN ?_ _) | (refine Below.setCell ?_ (by simp <;> omega) _) | (refine Below.alloc ?_ (by simp <;> omega) _)) : Below w1.heap.size w1 _) (hb2.mono (Below.size (by repeat (first | (with_reducible exact Below.refl _ _) | (with_reducible apply Below.drew) | (with_reducible refine below_drewN ?_ _) | (refine Below.setCell ?_ (by simp <;> omega) _) | (refine Below.alloc ?_ (by simp <;> omega) _)) : Below w1.heap.size w1 _)))
      have hr2 : w1.heap.size ≤ w2.heap.size := Nat.le_trans (by first | exact Nat.le_refl _ | (simp; done) | (simp; omega) | (simp [World.setCell]; done) | (simp [World.setCell]; omega)) hb2.size
      have sz2_paG : w.heap.size < w2.heap.size := Nat.lt_of_lt_of_le sz1_paG hst2.size
      have bx2_paG_0 : w2.cell? ⟨w.heap.size, 0, none⟩ = some (.slice a0_vG vG.fSymbols.length c0_vG) := (hst2.cell (p := ⟨w.heap.size, 0, none⟩) sz1_paG).trans bx1_paG_0
      have bx2_paG_1 : w2.cell? ⟨w.heap.size, 1, none⟩ = some (.slice a1_vG vG.fRules.length c1_vG) := (hst2.cell (p := ⟨w.heap.size, 1, none⟩) sz1_paG).trans bx1_paG_1
      have sz2_paR : w.heap.size + 1 < w2.heap.size := Nat.lt_of_lt_of_le sz1_paR hst2.size
      have bx2_paR_0 : w2.cell? ⟨w.heap.size + 1, 0, none⟩ = some (.string vR.fName) := (hst2.cell (p := ⟨w.heap.size + 1, 0, none⟩) sz1_paR).trans bx1_paR_0
      have bx2_paR_1 : w2.cell? ⟨w.heap.size + 1, 1, none⟩ = some (.string vR.fLeft) := (hst2.cell (p := ⟨w.heap.size + 1, 1, none⟩) sz1_paR).trans bx1_paR_1
      have bx2_paR_2 : w2.cell? ⟨w.heap.size + 1, 2, none⟩ = some (.slice a2_vR vR.fRight.length c2_vR) := (hst2.cell (p := ⟨w.heap.size + 1, 2, none⟩) sz1_paR).trans bx1_paR_2
      have bx2_paR_3 : w2.cell? ⟨w.heap.size + 1, 3, none⟩ = some (.bool vR.fLiteral) := (hst2.cell (p := ⟨w.heap.size + 1, 3, none⟩) sz1_paR).trans bx1_paR_3
      have bx2_paR_4 : w2.cell? ⟨w.heap.size + 1, 4, none⟩ = some (.slice a4_vR vR.fEquations.length c4_vR) := (hst2.cell (p := ⟨w.heap.size + 1, 4, none⟩) sz1_paR).trans bx1_paR_4
      have bx2_paR_5 : w2.cell? ⟨w.heap.size + 1, 5, none⟩ = some (.slice a5_vR vR.fContributions.length c5_vR) := (hst2.cell (p := ⟨w.heap.size + 1, 5, none⟩) sz1_paR).trans bx1_paR_5
      have HB2 := Lib.hid (HB1.out.trans (hst2.mono HB1.out.size))
      clear bx1_paG_0 bx1_paG_1 sz1_paG bx1_paR_0 bx1_paR_1 bx1_paR_2 bx1_paR_3 bx1_paR_4 bx1_paR_5 sz1_paR hb2 hst2 HB1
      go_upto_region 8 with fail
      go_cut [6] from 24 to 28 (fun sW wx => ∃ (bW lW hW : Nat) (aW : Option Addr) (cW : Nat), sW = .pointer (some ⟨bW, 0, none⟩) ∧ wx.cell? ⟨bW, 0, none⟩ = some (.int .i64 (locRel vG vR).fN) ∧ wx.cell? ⟨bW, 1, none⟩ = some (.slice aW (locRel vG vR).fRows.length cW) ∧ Own wx (fun y => lW ≤ y ∧ y < hW) (.sl 1 (locRel vG vR).fRows.length (fun k => ictI ((locRel vG vR).fRows.getD k default))) (.slice aW (locRel vG vR).fRows.length cW) ∧ bW < wx.heap.size ∧ w2.heap.size ≤ bW ∧ w2.heap.size ≤ lW ∧ hW ≤ wx.heap.size ∧ (bW < lW ∨ hW ≤ bW) ∧ Below w2.heap.size w2 wx)
      case first =>
        refine wp_region_free [([], none), ([0], none), ([], none), ([2], none), ([1, 3], none), ([], none), ([5, 4], some 5)] [0, 1, 2, 3, 4, 6] (fun jq9 V L H wx => match jq9 with | 0 => V 0 = .agg #[.slice a0_vG vG.fSymbols.length c0_vG, .slice a1_vG vG.fRules.length c1_vG] | 1 => ∃ a0_vG_f1 c0_vG_f1 a1_vG_f1 c1_vG_f1, V 1 = .agg #[.slice a0_vG_f1 vG.fSymbols.length c0_vG_f1, .slice a1_vG_f1 vG.fRules.length c1_vG_f1] ∧ OwnR wx (fun y => L ≤ y ∧ y < H) 2 vG.ct (fun j => [.slice a0_vG_f1 vG.fSymbols.length c0_vG_f1, .slice a1_vG_f1 vG.fRules.length c1_vG_f1].getD j .nilFunc) | 2 => V 2 = .agg #[.string vR.fName, .string vR.fLeft, .slice a2_vR vR.fRight.length c2_vR, .bool vR.fLiteral, .slice a4_vR vR.fEquations.length c4_vR, .slice a5_vR vR.fContributions.length c5_vR] | 3 => ∃ a2_vR_f3 c2_vR_f3 a4_vR_f3 c4_vR_f3 a5_vR_f3 c5_vR_f3, V 3 = .agg #[.string vR.fName, .string vR.fLeft, .slice a2_vR_f3 vR.fRight.length c2_vR_f3, .bool vR.fLiteral, .slice a4_vR_f3 vR.fEquations.length c4_vR_f3, .slice a5_vR_f3 vR.fContributions.length c5_vR_f3] ∧ OwnR wx (fun y => L ≤ y ∧ y < H) 6 vR.ct (fun j => [.string vR.fName, .string vR.fLeft, .slice a2_vR_f3 vR.fRight.length c2_vR_f3, .bool vR.fLiteral, .slice a4_vR_f3 vR.fEquations.length c4_vR_f3, .slice a5_vR_f3 vR.fContributions.length c5_vR_f3].getD j .nilFunc) | 4 => ∃ a1_R_f4 c1_R_f4, V 4 = .agg #[.int .i64 (locRel vG vR).fN, .slice a1_R_f4 (locRel vG vR).fRows.length c1_R_f4] ∧ Own wx (fun y => L ≤ y ∧ y < H) (.sl 1 (locRel vG vR).fRows.length (fun k => ictI ((locRel vG vR).fRows.getD k default))) (.slice a1_R_f4 (locRel vG vR).fRows.length c1_R_f4) | 5 => V 5 = .pointer (some ⟨L, 0, none⟩) ∧ L < H ∧ wx.cell? ⟨L, 0, none⟩ = some (.int .i64 0) ∧ wx.frozen? ⟨L, 0, none⟩ = false ∧ wx.cell? ⟨L, 1, none⟩ = some (.slice none 0 0) ∧ wx.frozen? ⟨L, 1, none⟩ = false | 6 => ∀ x0 x1, V 4 = .agg #[x0, x1] → L < H ∧ wx.cell? ⟨L, 0, none⟩ = some x0 ∧ wx.cell? ⟨L, 1, none⟩ = some x1 | _ => True) (by kernel_rfl) (by kernel_rfl) ?loc ?lasts ?walk
        case loc =>
          intro k V V' L H wx h0 h1 hG
          match k with
          | 0 =>
            try dsimp only at hG ⊢
            rw [← h0]
            exact hG
          | 1 =>
            have e0 := h1 0 (by decide)
            try dsimp only at hG ⊢
            rw [← h0]
            exact hG
          | 2 =>
            try dsimp only at hG ⊢
            rw [← h0]
            exact hG
          | 3 =>
            have e2 := h1 2 (by decide)
            try dsimp only at hG ⊢
            rw [← h0]
            exact hG
          | 4 =>
            have e1 := h1 1 (by decide)
            have e3 := h1 3 (by decide)
            try dsimp only at hG ⊢
            rw [← h0]
            exact hG
          | 5 =>
            try dsimp only at hG ⊢
            rw [← h0]
            exact hG
          | 6 =>
            have e5 := h1 5 (by decide)
            have e4 := h1 4 (by decide)
            try dsimp only at hG ⊢
            rw [← e4]
            exact hG
          | n + 7 => trivial
        case lasts =>
          intro i hi V L H wx wy hB hH hk
          match i, hi with
          | 0, _ => exact fun h => h
          | 1, _ => exact fun ⟨a0_vG_f1, c0_vG_f1, a1_vG_f1, c1_vG_f1, hv, ho⟩ => ⟨a0_vG_f1, c0_vG_f1, a1_vG_f1, c1_vG_f1, hv, ho.kept (hk.sub fun x hx => .inr hx)⟩
          | 2, _ => exact fun h => h
          | 3, _ => exact fun ⟨a2_vR_f3, c2_vR_f3, a4_vR_f3, c4_vR_f3, a5_vR_f3, c5_vR_f3, hv, ho⟩ => ⟨a2_vR_f3, c2_vR_f3, a4_vR_f3, c4_vR_f3, a5_vR_f3, c5_vR_f3, hv, ho.kept (hk.sub fun x hx => .inr hx)⟩
          | 4, _ => exact fun ⟨a1_R_f4, c1_R_f4, hv, ho⟩ => ⟨a1_R_f4, c1_R_f4, hv, ho.kept (hk.sub fun x hx => .inr hx)⟩
          | 5, _ => exact fun ⟨hv, hl, hc0, hf0, hc1, hf1⟩ => ⟨hv, hl, (hk.cell (p := ⟨L, 0, none⟩) (.inr ⟨Nat.le_refl _, hl⟩) (Nat.lt_of_lt_of_le hl hH)).trans hc0, (hk.frozen (p := ⟨L, 0, none⟩) (.inr ⟨Nat.le_refl _, hl⟩) (Nat.lt_of_lt_of_le hl hH)).trans hf0, (hk.cell (p := ⟨L, 1, none⟩) (.inr ⟨Nat.le_refl _, hl⟩) (Nat.lt_of_lt_of_le hl hH)).trans hc1, (hk.frozen (p := ⟨L, 1, none⟩) (.inr ⟨Nat.le_refl _, hl⟩) (Nat.lt_of_lt_of_le hl hH)).trans hf1⟩
          | 6, _ => exact fun h x0 x1 hv => ⟨(h x0 x1 hv).1, (hk.cell (p := ⟨L, 0, none⟩) (.inr ⟨Nat.le_refl _, (h x0 x1 hv).1⟩) (Nat.lt_of_lt_of_le (h x0 x1 hv).1 hH)).trans (h x0 x1 hv).2.1, (hk.cell (p := ⟨L, 1, none⟩) (.inr ⟨Nat.le_refl _, (h x0 x1 hv).1⟩) (Nat.lt_of_lt_of_le (h x0 x1 hv).1 hH)).trans (h x0 x1 hv).2.2⟩
          | n + 7, hn => exact absurd hn (by simp)
        case walk =>
          simp only [free, Nat.reduceAdd, Act.put, List.setIfInBounds_toArray, List.set_cons_succ, List.set_cons_zero]
          refine ⟨?_, ?_, ?_, ?_, ?_, ?_, ?_, ?_⟩
          · intro V L H w3 hb3 hd
            clear hd
            have sz3_paG : w.heap.size < w3.heap.size := Nat.lt_of_lt_of_le sz2_paG hb3.size
            have bx3_paG_0 : w3.cell? ⟨w.heap.size, 0, none⟩ = some (.slice a0_vG vG.fSymbols.length c0_vG) := (hb3.cell (p := ⟨w.heap.size, 0, none⟩) sz2_paG).trans bx2_paG_0
            have bx3_paG_1 : w3.cell? ⟨w.heap.size, 1, none⟩ = some (.slice a1_vG vG.fRules.length c1_vG) := (hb3.cell (p := ⟨w.heap.size, 1, none⟩) sz2_paG).trans bx2_paG_1
            have sz3_paR : w.heap.size + 1 < w3.heap.size := Nat.lt_of_lt_of_le sz2_paR hb3.size
            have bx3_paR_0 : w3.cell? ⟨w.heap.size + 1, 0, none⟩ = some (.string vR.fName) := (hb3.cell (p := ⟨w.heap.size + 1, 0, none⟩) sz2_paR).trans bx2_paR_0
            have bx3_paR_1 : w3.cell? ⟨w.heap.size + 1, 1, none⟩ = some (.string vR.fLeft) := (hb3.cell (p := ⟨w.heap.size + 1, 1, none⟩) sz2_paR).trans bx2_paR_1
            have bx3_paR_2 : w3.cell? ⟨w.heap.size + 1, 2, none⟩ = some (.slice a2_vR vR.fRight.length c2_vR) := (hb3.cell (p := ⟨w.heap.size + 1, 2, none⟩) sz2_paR).trans bx2_paR_2
            have bx3_paR_3 : w3.cell? ⟨w.heap.size + 1, 3, none⟩ = some (.bool vR.fLiteral) := (hb3.cell (p := ⟨w.heap.size + 1, 3, none⟩) sz2_paR).trans bx2_paR_3
            have bx3_paR_4 : w3.cell? ⟨w.heap.size + 1, 4, none⟩ = some (.slice a4_vR vR.fEquations.length c4_vR) := (hb3.cell (p := ⟨w.heap.size + 1, 4, none⟩) sz2_paR).trans bx2_paR_4
            have bx3_paR_5 : w3.cell? ⟨w.heap.size + 1, 5, none⟩ = some (.slice a5_vR vR.fContributions.length c5_vR) := (hb3.cell (p := ⟨w.heap.size + 1, 5, none⟩) sz2_paR).trans bx2_paR_5
            have HB3 := Lib.hid (HB2.out.trans (hb3.mono HB2.out.size))
            clear sz2_paG bx2_paG_0 bx2_paG_1 sz2_paR bx2_paR_0 bx2_paR_1 bx2_paR_2 bx2_paR_3 bx2_paR_4 bx2_paR_5
            go_wp2_with fail
            exact freePost _ rfl ⟨Below.refl _ _, upd_self⟩
          · intro V L H w3 hb3 hd
            obtain ⟨⟨hL0, hM0, hH0, hv0⟩, -⟩ := hd
            rw [hv0]
            have HV0 := Lib.hid hv0
            clear hv0
            have sz3_paG : w.heap.size < w3.heap.size := Nat.lt_of_lt_of_le sz2_paG hb3.size
            have bx3_paG_0 : w3.cell? ⟨w.heap.size, 0, none⟩ = some (.slice a0_vG vG.fSymbols.length c0_vG) := (hb3.cell (p := ⟨w.heap.size, 0, none⟩) sz2_paG).trans bx2_paG_0
            have bx3_paG_1 : w3.cell? ⟨w.heap.size, 1, none⟩ = some (.slice a1_vG vG.fRules.length c1_vG) := (hb3.cell (p := ⟨w.heap.size, 1, none⟩) sz2_paG).trans bx2_paG_1
            have sz3_paR : w.heap.size + 1 < w3.heap.size := Nat.lt_of_lt_of_le sz2_paR hb3.size
            have bx3_paR_0 : w3.cell? ⟨w.heap.size + 1, 0, none⟩ = some (.string vR.fName) := (hb3.cell (p := ⟨w.heap.size + 1, 0, none⟩) sz2_paR).trans bx2_paR_0
            have bx3_paR_1 : w3.cell? ⟨w.heap.size + 1, 1, none⟩ = some (.string vR.fLeft) := (hb3.cell (p := ⟨w.heap.size + 1, 1, none⟩) sz2_paR).trans bx2_paR_1
            have bx3_paR_2 : w3.cell? ⟨w.heap.size + 1, 2, none⟩ = some (.slice a2_vR vR.fRight.length c2_vR) := (hb3.cell (p := ⟨w.heap.size + 1, 2, none⟩) sz2_paR).trans bx2_paR_2
            have bx3_paR_3 : w3.cell? ⟨w.heap.size + 1, 3, none⟩ = some (.bool vR.fLiteral) := (hb3.cell (p := ⟨w.heap.size + 1, 3, none⟩) sz2_paR).trans bx2_paR_3
            have bx3_paR_4 : w3.cell? ⟨w.heap.size + 1, 4, none⟩ = some (.slice a4_vR vR.fEquations.length c4_vR) := (hb3.cell (p := ⟨w.heap.size + 1, 4, none⟩) sz2_paR).trans bx2_paR_4
            have bx3_paR_5 : w3.cell? ⟨w.heap.size + 1, 5, none⟩ = some (.slice a5_vR vR.fContributions.length c5_vR) := (hb3.cell (p := ⟨w.heap.size + 1, 5, none⟩) sz2_paR).trans bx2_paR_5
            have HB3 := Lib.hid (HB2.out.trans (hb3.mono HB2.out.size))
            clear sz2_paG bx2_paG_0 bx2_paG_1 sz2_paR bx2_paR_0 bx2_paR_1 bx2_paR_2 bx2_paR_3 bx2_paR_4 bx2_paR_5
            go_wp2_with fail
            refine (laws_toGrammar (c0 := c0_vG) (c1 := c1_vG) vG hq_vG _ (Below.size (by repeat (first | (with_reducible exact Below.refl _ _) | (with_reducible apply Below.drew) | (with_reducible refine below_drewN ?_ _) | (refine Below.setCell ?_ (by simp <;> omega) _) | (refine Below.alloc ?_ (by simp <;> omega) _)) : Below w3.heap.size w3 _)) ((HS_0_vG.out.later (HB3.out.trans ((by repeat (first | (with_reducible exact Below.refl _ _) | (with_reducible apply Below.drew) | (with_reducible refine below_drewN ?_ _) | (refine Below.setCell ?_ (by simp <;> omega) _) | (refine Below.alloc ?_ (by simp <;> omega) _)) : Below w3.heap.size w3 _).mono HB3.out.size)) (Nat.le_refl _)).mono (Nat.le_refl _) HB3.out.size) ((HS_1_vG.out.later (HB3.out.trans ((by repeat (first | (with_reducible exact Below.refl _ _) | (with_reducible apply Below.drew) | (with_reducible refine below_drewN ?_ _) | (refine Below.setCell ?_ (by simp <;> omega) _) | (refine Below.alloc ?_ (by simp <;> omega) _)) : Below w3.heap.size w3 _).mono HB3.out.size)) (Nat.le_refl _)).mono (Nat.le_refl _) HB3.out.size)).mono ?_
            rintro e w4 ⟨a0_vG_f1, c0_vG_f1, a1_vG_f1, c1_vG_f1, rfl, ho, hb4⟩
            go_wp2_with fail
            exact freePost _ rfl ⟨hb4, Exists.intro a0_vG_f1 (Exists.intro c0_vG_f1 (Exists.intro a1_vG_f1 (Exists.intro c1_vG_f1 (And.intro upd_self ho))))⟩
          · intro V L H w3 hb3 hd
            clear hd
            have sz3_paG : w.heap.size < w3.heap.size := Nat.lt_of_lt_of_le sz2_paG hb3.size
            have bx3_paG_0 : w3.cell? ⟨w.heap.size, 0, none⟩ = some (.slice a0_vG vG.fSymbols.length c0_vG) := (hb3.cell (p := ⟨w.heap.size, 0, none⟩) sz2_paG).trans bx2_paG_0
            have bx3_paG_1 : w3.cell? ⟨w.heap.size, 1, none⟩ = some (.slice a1_vG vG.fRules.length c1_vG) := (hb3.cell (p := ⟨w.heap.size, 1, none⟩) sz2_paG).trans bx2_paG_1
            have sz3_paR : w.heap.size + 1 < w3.heap.size := Nat.lt_of_lt_of_le sz2_paR hb3.size
            have bx3_paR_0 : w3.cell? ⟨w.heap.size + 1, 0, none⟩ = some (.string vR.fName) := (hb3.cell (p := ⟨w.heap.size + 1, 0, none⟩) sz2_paR).trans bx2_paR_0
            have bx3_paR_1 : w3.cell? ⟨w.heap.size + 1, 1, none⟩ = some (.string vR.fLeft) := (hb3.cell (p := ⟨w.heap.size + 1, 1, none⟩) sz2_paR).trans bx2_paR_1
            have bx3_paR_2 : w3.cell? ⟨w.heap.size + 1, 2, none⟩ = some (.slice a2_vR vR.fRight.length c2_vR) := (hb3.cell (p := ⟨w.heap.size + 1, 2, none⟩) sz2_paR).trans bx2_paR_2
            have bx3_paR_3 : w3.cell? ⟨w.heap.size + 1, 3, none⟩ = some (.bool vR.fLiteral) := (hb3.cell (p := ⟨w.heap.size + 1, 3, none⟩) sz2_paR).trans bx2_paR_3
            have bx3_paR_4 : w3.cell? ⟨w.heap.size + 1, 4, none⟩ = some (.slice a4_vR vR.fEquations.length c4_vR) := (hb3.cell (p := ⟨w.heap.size + 1, 4, none⟩) sz2_paR).trans bx2_paR_4
            have bx3_paR_5 : w3.cell? ⟨w.heap.size + 1, 5, none⟩ = some (.slice a5_vR vR.fContributions.length c5_vR) := (hb3.cell (p := ⟨w.heap.size + 1, 5, none⟩) sz2_paR).trans bx2_paR_5
            have HB3 := Lib.hid (HB2.out.trans (hb3.mono HB2.out.size))
            clear sz2_paG bx2_paG_0 bx2_paG_1 sz2_paR bx2_paR_0 bx2_paR_1 bx2_paR_2 bx2_paR_3 bx2_paR_4 bx2_paR_5
            go_wp2_with fail
            exact freePost _ rfl ⟨Below.refl _ _, upd_self⟩
          · intro V L H w3 hb3 hd
            obtain ⟨⟨hL2, hM2, hH2, hv2⟩, -⟩ := hd
            rw [hv2]
            have HV2 := Lib.hid hv2
            clear hv2
            have sz3_paG : w.heap.size < w3.heap.size := Nat.lt_of_lt_of_le sz2_paG hb3.size
            have bx3_paG_0 : w3.cell? ⟨w.heap.size, 0, none⟩ = some (.slice a0_vG vG.fSymbols.length c0_vG) := (hb3.cell (p := ⟨w.heap.size, 0, none⟩) sz2_paG).trans bx2_paG_0
            have bx3_paG_1 : w3.cell? ⟨w.heap.size, 1, none⟩ = some (.slice a1_vG vG.fRules.length c1_vG) := (hb3.cell (p := ⟨w.heap.size, 1, none⟩) sz2_paG).trans bx2_paG_1
            have sz3_paR : w.heap.size + 1 < w3.heap.size := Nat.lt_of_lt_of_le sz2_paR hb3.size
            have bx3_paR_0 : w3.cell? ⟨w.heap.size + 1, 0, none⟩ = some (.string vR.fName) := (hb3.cell (p := ⟨w.heap.size + 1, 0, none⟩) sz2_paR).trans bx2_paR_0
            have bx3_paR_1 : w3.cell? ⟨w.heap.size + 1, 1, none⟩ = some (.string vR.fLeft) := (hb3.cell (p := ⟨w.heap.size + 1, 1, none⟩) sz2_paR).trans bx2_paR_1
            have bx3_paR_2 : w3.cell? ⟨w.heap.size + 1, 2, none⟩ = some (.slice a2_vR vR.fRight.length c2_vR) := (hb3.cell (p := ⟨w.heap.size + 1, 2, none⟩) sz2_paR).trans bx2_paR_2
            have bx3_paR_3 : w3.cell? ⟨w.heap.size + 1, 3, none⟩ = some (.bool vR.fLiteral) := (hb3.cell (p := ⟨w.heap.size + 1, 3, none⟩) sz2_paR).trans bx2_paR_3
            have bx3_paR_4 : w3.cell? ⟨w.heap.size + 1, 4, none⟩ = some (.slice a4_vR vR.fEquations.length c4_vR) := (hb3.cell (p := ⟨w.heap.size + 1, 4, none⟩) sz2_paR).trans bx2_paR_4
            have bx3_paR_5 : w3.cell? ⟨w.heap.size + 1, 5, none⟩ = some (.slice a5_vR vR.fContributions.length c5_vR) := (hb3.cell (p := ⟨w.heap.size + 1, 5, none⟩) sz2_paR).trans bx2_paR_5
            have HB3 := Lib.hid (HB2.out.trans (hb3.mono HB2.out.size))
            clear sz2_paG bx2_paG_0 bx2_paG_1 sz2_paR bx2_paR_0 bx2_paR_1 bx2_paR_2 bx2_paR_3 bx2_paR_4 bx2_paR_5
            go_wp2_with fail
            refine (laws_toRule (c2 := c2_vR) (c4 := c4_vR) (c5 := c5_vR) vR hq_vR _ (Below.size (by repeat (first | (with_reducible exact Below.refl _ _) | (with_reducible apply Below.drew) | (with_reducible refine below_drewN ?_ _) | (refine Below.setCell ?_ (by simp <;> omega) _) | (refine Below.alloc ?_ (by simp <;> omega) _)) : Below w3.heap.size w3 _)) ((HS_2_vR.out.later (HB3.out.trans ((by repeat (first | (with_reducible exact Below.refl _ _) | (with_reducible apply Below.drew) | (with_reducible refine below_drewN ?_ _) | (refine Below.setCell ?_ (by simp <;> omega) _) | (refine Below.alloc ?_ (by simp <;> omega) _)) : Below w3.heap.size w3 _).mono HB3.out.size)) (Nat.le_refl _)).mono (Nat.le_refl _) HB3.out.size) ((HS_4_vR.out.later (HB3.out.trans ((by repeat (first | (with_reducible exact Below.refl _ _) | (with_reducible apply Below.drew) | (with_reducible refine below_drewN ?_ _) | (refine Below.setCell ?_ (by simp <;> omega) _) | (refine Below.alloc ?_ (by simp <;> omega) _)) : Below w3.heap.size w3 _).mono HB3.out.size)) (Nat.le_refl _)).mono (Nat.le_refl _) HB3.out.size) ((HS_5_vR.out.later (HB3.out.trans ((by repeat (first | (with_reducible exact Below.refl _ _) | (with_reducible apply Below.drew) | (with_reducible refine below_drewN ?_ _) | (refine Below.setCell ?_ (by simp <;> omega) _) | (refine Below.alloc ?_ (by simp <;> omega) _)) : Below w3.heap.size w3 _).mono HB3.out.size)) (Nat.le_refl _)).mono (Nat.le_refl _) HB3.out.size)).mono ?_
            rintro e w4 ⟨a2_vR_f3, c2_vR_f3, a4_vR_f3, c4_vR_f3, a5_vR_f3, c5_vR_f3, rfl, ho, hb4⟩
            go_wp2_with fail
            exact freePost _ rfl ⟨hb4, Exists.intro a2_vR_f3 (Exists.intro c2_vR_f3 (Exists.intro a4_vR_f3 (Exists.intro c4_vR_f3 (Exists.intro a5_vR_f3 (Exists.intro c5_vR_f3 (And.intro upd_self ho))))))⟩
          · intro V L H w3 hb3 hd
            obtain ⟨⟨hL1, hM1, hH1, a0_vG_f1, c0_vG_f1, a1_vG_f1, c1_vG_f1, hv1, ho1_⟩, ⟨hL3, hM3, hH3, a2_vR_f3, c2_vR_f3, a4_vR_f3, c4_vR_f3, a5_vR_f3, c5_vR_f3, hv3, ho3_⟩, -⟩ := hd
            rw [hv1, hv3]
            have HV1 := Lib.hid hv1
            have HV3 := Lib.hid hv3
            clear hv1 hv3
            have sz3_paG : w.heap.size < w3.heap.size := Nat.lt_of_lt_of_le sz2_paG hb3.size
            have bx3_paG_0 : w3.cell? ⟨w.heap.size, 0, none⟩ = some (.slice a0_vG vG.fSymbols.length c0_vG) := (hb3.cell (p := ⟨w.heap.size, 0, none⟩) sz2_paG).trans bx2_paG_0
            have bx3_paG_1 : w3.cell? ⟨w.heap.size, 1, none⟩ = some (.slice a1_vG vG.fRules.length c1_vG) := (hb3.cell (p := ⟨w.heap.size, 1, none⟩) sz2_paG).trans bx2_paG_1
            have sz3_paR : w.heap.size + 1 < w3.heap.size := Nat.lt_of_lt_of_le sz2_paR hb3.size
            have bx3_paR_0 : w3.cell? ⟨w.heap.size + 1, 0, none⟩ = some (.string vR.fName) := (hb3.cell (p := ⟨w.heap.size + 1, 0, none⟩) sz2_paR).trans bx2_paR_0
            have bx3_paR_1 : w3.cell? ⟨w.heap.size + 1, 1, none⟩ = some (.string vR.fLeft) := (hb3.cell (p := ⟨w.heap.size + 1, 1, none⟩) sz2_paR).trans bx2_paR_1
            have bx3_paR_2 : w3.cell? ⟨w.heap.size + 1, 2, none⟩ = some (.slice a2_vR vR.fRight.length c2_vR) := (hb3.cell (p := ⟨w.heap.size + 1, 2, none⟩) sz2_paR).trans bx2_paR_2
            have bx3_paR_3 : w3.cell? ⟨w.heap.size + 1, 3, none⟩ = some (.bool vR.fLiteral) := (hb3.cell (p := ⟨w.heap.size + 1, 3, none⟩) sz2_paR).trans bx2_paR_3
            have bx3_paR_4 : w3.cell? ⟨w.heap.size + 1, 4, none⟩ = some (.slice a4_vR vR.fEquations.length c4_vR) := (hb3.cell (p := ⟨w.heap.size + 1, 4, none⟩) sz2_paR).trans bx2_paR_4
            have bx3_paR_5 : w3.cell? ⟨w.heap.size + 1, 5, none⟩ = some (.slice a5_vR vR.fContributions.length c5_vR) := (hb3.cell (p := ⟨w.heap.size + 1, 5, none⟩) sz2_paR).trans bx2_paR_5
            have HB3 := Lib.hid (HB2.out.trans (hb3.mono HB2.out.size))
            clear sz2_paG bx2_paG_0 bx2_paG_1 sz2_paR bx2_paR_0 bx2_paR_1 bx2_paR_2 bx2_paR_3 bx2_paR_4 bx2_paR_5
            have HO_0_vG_f1 := Lib.hid (show Own w3 (fun y => L 1 ≤ y ∧ y < H 1) (.sl 2 vG.fSymbols.length (fun k => DSymbol.ct (vG.fSymbols.getD k default))) (.slice a0_vG_f1 vG.fSymbols.length c0_vG_f1) from OwnR.at ho1_ 0 (by decide))
            have HO_1_vG_f1 := Lib.hid (show Own w3 (fun y => L 1 ≤ y ∧ y < H 1) (.sl 6 vG.fRules.length (fun k => DRule.ct (vG.fRules.getD k default))) (.slice a1_vG_f1 vG.fRules.length c1_vG_f1) from OwnR.at ho1_ 1 (by decide))
            clear ho1_
            have HO_2_vR_f3 := Lib.hid (show Own w3 (fun y => L 3 ≤ y ∧ y < H 3) (.sl 1 vR.fRight.length (fun k => ictS (vR.fRight.getD k default))) (.slice a2_vR_f3 vR.fRight.length c2_vR_f3) from OwnR.at ho3_ 2 (by decide))
            have HO_4_vR_f3 := Lib.hid (show Own w3 (fun y => L 3 ≤ y ∧ y < H 3) (.sl 9 vR.fEquations.length (fun k => DEquation.ct (vR.fEquations.getD k default))) (.slice a4_vR_f3 vR.fEquations.length c4_vR_f3) from OwnR.at ho3_ 4 (by decide))
            have HO_5_vR_f3 := Lib.hid (show Own w3 (fun y => L 3 ≤ y ∧ y < H 3) (.sl 16 vR.fContributions.length (fun k => DContribution.ct (vR.fContributions.getD k default))) (.slice a5_vR_f3 vR.fContributions.length c5_vR_f3) from OwnR.at ho3_ 5 (by decide))
            clear ho3_
            go_wp2_with fail
            refine (spec_LocalRelation (c0_0 := c0_vG_f1) (c0_1 := c1_vG_f1) (c1_0 := c2_vR_f3) (c1_1 := c4_vR_f3) (c1_2 := c5_vR_f3) vG OK_vG.out hq_vG vR OK_vR.out hq_vR _ (Below.size (by repeat (first | (with_reducible exact Below.refl _ _) | (with_reducible apply Below.drew) | (with_reducible refine below_drewN ?_ _) | (refine Below.setCell ?_ (by simp <;> omega) _) | (refine Below.alloc ?_ (by simp <;> omega) _)) : Below w3.heap.size w3 _)) ((Sl.of (HO_0_vG_f1.out.lies (lo := 0) (hi := w3.heap.size) (fun y hy => ⟨Nat.zero_le _, by have := hy.2; omega⟩))).later (by repeat (first | (with_reducible exact Below.refl _ _) | (with_reducible apply Below.drew) | (with_reducible refine below_drewN ?_ _) | (refine Below.setCell ?_ (by simp <;> omega) _) | (refine Below.alloc ?_ (by simp <;> omega) _)) : Below w3.heap.size w3 _) (Nat.le_refl _)) ((Sl.of (HO_1_vG_f1.out.lies (lo := 0) (hi := w3.heap.size) (fun y hy => ⟨Nat.zero_le _, by have := hy.2; omega⟩))).later (by repeat (first | (with_reducible exact Below.refl _ _) | (with_reducible apply Below.drew) | (with_reducible refine below_drewN ?_ _) | (refine Below.setCell ?_ (by simp <;> omega) _) | (refine Below.alloc ?_ (by simp <;> omega) _)) : Below w3.heap.size w3 _) (Nat.le_refl _)) ((Sl.of (HO_2_vR_f3.out.lies (lo := 0) (hi := w3.heap.size) (fun y hy => ⟨Nat.zero_le _, by have := hy.2; omega⟩))).later (by repeat (first | (with_reducible exact Below.refl _ _) | (with_reducible apply Below.drew) | (with_reducible refine below_drewN ?_ _) | (refine Below.setCell ?_ (by simp <;> omega) _) | (refine Below.alloc ?_ (by simp <;> omega) _)) : Below w3.heap.size w3 _) (Nat.le_refl _)) ((Sl.of (HO_4_vR_f3.out.lies (lo := 0) (hi := w3.heap.size) (fun y hy => ⟨Nat.zero_le _, by have := hy.2; omega⟩))).later (by repeat (first | (with_reducible exact Below.refl _ _) | (with_reducible apply Below.drew) | (with_reducible refine below_drewN ?_ _) | (refine Below.setCell ?_ (by simp <;> omega) _) | (refine Below.alloc ?_ (by simp <;> omega) _)) : Below w3.heap.size w3 _) (Nat.le_refl _)) ((Sl.of (HO_5_vR_f3.out.lies (lo := 0) (hi := w3.heap.size) (fun y hy => ⟨Nat.zero_le _, by have := hy.2; omega⟩))).later (by repeat (first | (with_reducible exact Below.refl _ _) | (with_reducible apply Below.drew) | (with_reducible refine below_drewN ?_ _) | (refine Below.setCell ?_ (by simp <;> omega) _) | (refine Below.alloc ?_ (by simp <;> omega) _)) : Below w3.heap.size w3 _) (Nat.le_refl _))).mono ?_
            rintro e w4 ⟨a1_R_f4, c1_R_f4, rfl, ho, hb4⟩
            go_wp2_with fail
            exact freePost _ rfl ⟨hb4, Exists.intro a1_R_f4 (Exists.intro c1_R_f4 (And.intro upd_self ho))⟩
          · intro V L H w3 hb3 hd
            clear hd
            have HB3 := Lib.hid (HB2.out.trans (hb3.mono HB2.out.size))
            clear sz2_paG bx2_paG_0 bx2_paG_1 sz2_paR bx2_paR_0 bx2_paR_1 bx2_paR_2 bx2_paR_3 bx2_paR_4 bx2_paR_5
            go_wp2_with fail
            refine freePost _ rfl ⟨Below.alloc (Below.refl _ _) (Nat.le_refl _) _, upd_self, ?_, ?_, ?_, ?_, ?_⟩
            · simp
            all_goals go_simp
          · intro V L H w3 hb3 hd
            obtain ⟨⟨hL5, hM5, hH5, hv5, hlt5, hc5_0, hf5_0, hc5_1, hf5_1⟩, ⟨hL4, hM4, hH4, a1_R_f4, c1_R_f4, hv4, ho4_⟩, -⟩ := hd
            rw [hv5, hv4]
            have HV5 := Lib.hid hv5
            have HV4 := Lib.hid hv4
            clear hv5 hv4
            have HB3 := Lib.hid (HB2.out.trans (hb3.mono HB2.out.size))
            clear sz2_paG bx2_paG_0 bx2_paG_1 sz2_paR bx2_paR_0 bx2_paR_1 bx2_paR_2 bx2_paR_3 bx2_paR_4 bx2_paR_5
            go_wp2_with fail
            refine freePost undef rfl ⟨(Touches.put (L := L 5) (H := H 5) (Touches.put (L := L 5) (H := H 5) Touches.refl (p := ⟨L 5, 0, none⟩) ⟨Nat.le_refl _, hlt5⟩ _) (p := ⟨L 5, 1, none⟩) ⟨Nat.le_refl _, hlt5⟩ _), fun x0 x1 h => ?_⟩
            cases (HV4.out.symm.trans ((upd_ne (by decide)).symm.trans h))
            refine ⟨hlt5, ?_, ?_⟩
            all_goals go_simp
          · intro V L H w3 hb3 hd hap hdead
            obtain ⟨⟨hL0, hM0, hH0, hv0⟩, ⟨hL1, hM1, hH1, a0_vG_f1, c0_vG_f1, a1_vG_f1, c1_vG_f1, hv1, ho1_⟩, ⟨hL2, hM2, hH2, hv2⟩, ⟨hL3, hM3, hH3, a2_vR_f3, c2_vR_f3, a4_vR_f3, c4_vR_f3, a5_vR_f3, c5_vR_f3, hv3, ho3_⟩, ⟨hL4, hM4, hH4, a1_R_f4, c1_R_f4, hv4, ho4_⟩, ⟨hL6, hM6, hH6, hst6_⟩, -⟩ := hd
            obtain ⟨hLe, hHe, wo, hva, -⟩ := hdead 6 5 (by decide) rfl
            have hv4' := hv4
            obtain ⟨hlt, hc0, hc1⟩ := hst6_ _ _ hv4'
            rw [hv0, hv2, hv4', hva, hv1, hv3]
            clear hv0 hv2 hv4' hva hv1 hv3 hv4
            have hdis := hap 6 4 (by decide) (by decide) (by decide)
            clear hap hdead
            have HLe := Lib.hid hLe
            have HHe := Lib.hid hHe
            clear hLe hHe
            go_wp2_with fail
            go_meet
            have hLe := HLe.out
            have hHe := HHe.out
            refine ⟨L 5, L 4, H 4, a1_R_f4, c1_R_f4, rfl, ?_, ?_, ho4_, ?_, ?_, ?_, ?_, ?_, hb3⟩
            · rw [← hLe]; exact hc0
            · rw [← hLe]; exact hc1
            · omega
            · omega
            · omega
            · omega
            · omega
      case rest =>
        obtain ⟨bV5, lV5, hV5, a1_R_5, c1_R_5, rfl, bx5_w0_0, bx5_w0_1, ho5, sz5_w0, hB5, hL5, hH5, hD5, hb5⟩ := hcut
        obtain ⟨w5, rfl⟩ : ∃ w_ : World, w_ = wc := ⟨_, rfl⟩
        have hr5 : w2.heap.size ≤ w5.heap.size := hb5.size
        have hK5 : bV5 < w5.heap.size := sz5_w0
        have sz5_paG : w.heap.size < w5.heap.size := Nat.lt_of_lt_of_le sz2_paG hb5.size
        have bx5_paG_0 : w5.cell? ⟨w.heap.size, 0, none⟩ = some (.slice a0_vG vG.fSymbols.length c0_vG) := (hb5.cell (p := ⟨w.heap.size, 0, none⟩) sz2_paG).trans bx2_paG_0
        have bx5_paG_1 : w5.cell? ⟨w.heap.size, 1, none⟩ = some (.slice a1_vG vG.fRules.length c1_vG) := (hb5.cell (p := ⟨w.heap.size, 1, none⟩) sz2_paG).trans bx2_paG_1
        have sz5_paR : w.heap.size + 1 < w5.heap.size := Nat.lt_of_lt_of_le sz2_paR hb5.size
        have bx5_paR_0 : w5.cell? ⟨w.heap.size + 1, 0, none⟩ = some (.string vR.fName) := (hb5.cell (p := ⟨w.heap.size + 1, 0, none⟩) sz2_paR).trans bx2_paR_0
        have bx5_paR_1 : w5.cell? ⟨w.heap.size + 1, 1, none⟩ = some (.string vR.fLeft) := (hb5.cell (p := ⟨w.heap.size + 1, 1, none⟩) sz2_paR).trans bx2_paR_1
        have bx5_paR_2 : w5.cell? ⟨w.heap.size + 1, 2, none⟩ = some (.slice a2_vR vR.fRight.length c2_vR) := (hb5.cell (p := ⟨w.heap.size + 1, 2, none⟩) sz2_paR).trans bx2_paR_2
        have bx5_paR_3 : w5.cell? ⟨w.heap.size + 1, 3, none⟩ = some (.bool vR.fLiteral) := (hb5.cell (p := ⟨w.heap.size + 1, 3, none⟩) sz2_paR).trans bx2_paR_3
        have bx5_paR_4 : w5.cell? ⟨w.heap.size + 1, 4, none⟩ = some (.slice a4_vR vR.fEquations.length c4_vR) := (hb5.cell (p := ⟨w.heap.size + 1, 4, none⟩) sz2_paR).trans bx2_paR_4
        have bx5_paR_5 : w5.cell? ⟨w.heap.size + 1, 5, none⟩ = some (.slice a5_vR vR.fContributions.length c5_vR) := (hb5.cell (p := ⟨w.heap.size + 1, 5, none⟩) sz2_paR).trans bx2_paR_5
        have HO5_1_R_5 := Lib.hid ho5
        have HB5 := Lib.hid (HB2.out.trans (hb5.mono HB2.out.size))
        clear hb5 ho5 bx2_paG_0 bx2_paG_1 sz2_paG bx2_paR_0 bx2_paR_1 bx2_paR_2 bx2_paR_3 bx2_paR_4 bx2_paR_5 sz2_paR HB2
        go_wp2_with fail
        refine (laws_toGrammar (c0 := c0_vG) (c1 := c1_vG) vG hq_vG _ (Below.size (by repeat (first | (with_reducible exact Below.refl _ _) | (with_reducible apply Below.drew) | (with_reducible refine below_drewN ?_ _) | (refine Below.setCell ?_ (by simp <;> omega) _) | (refine Below.alloc ?_ (by simp <;> omega) _)) : Below w5.heap.size w5 _)) ((HS_0_vG.out.later (HB5.out.trans ((by repeat (first | (with_reducible exact Below.refl _ _) | (with_reducible apply Below.drew) | (with_reducible refine below_drewN ?_ _) | (refine Below.setCell ?_ (by simp <;> omega) _) | (refine Below.alloc ?_ (by simp <;> omega) _)) : Below w5.heap.size w5 _).mono HB5.out.size)) (Nat.le_refl _)).mono (Nat.le_refl _) HB5.out.size) ((HS_1_vG.out.later (HB5.out.trans ((by repeat (first | (with_reducible exact Below.refl _ _) | (with_reducible apply Below.drew) | (with_reducible refine below_drewN ?_ _) | (refine Below.setCell ?_ (by simp <;> omega) _) | (refine Below.alloc ?_ (by simp <;> omega) _)) : Below w5.heap.size w5 _).mono HB5.out.size)) (Nat.le_refl _)).mono (Nat.le_refl _) HB5.out.size)).mono ?_
        rintro e w6 ⟨a0_vG_6, c0_vG_6, a1_vG_6, c1_vG_6, rfl, ho6, hb6⟩
        have hst6 : Below w5.heap.size w5 w6 := Below.trans (by repeat (first | (with_reducible exact Below.refl _ _) | (with_reducible apply Below.drew) | (with_reducible refine below_drewN ?_ _) | (refine Below.setCell ?_ (by simp <;> omega) _) | (refine Below.alloc ?_ (by simp <;> omega) _)) : Below w5.heap.size w5 _) (hb6.mono (Below.size (by repeat (first | (with_reducible exact Below.refl _ _) | (with_reducible apply Below.drew) | (with_reducible refine below_drewN ?_ _) | (refine Below.setCell ?_ (by simp <;> omega) _) | (refine Below.alloc ?_ (by simp <;> omega) _)) : Below w5.heap.size w5 _)))
        have hr6 : w5.heap.size ≤ w6.heap.size := Nat.le_trans (by first | exact Nat.le_refl _ | (simp; done) | (simp; omega) | (simp [World.setCell]; done) | (simp [World.setCell]; omega)) hb6.size
        have sz6_paG : w.heap.size < w6.heap.size := Nat.lt_of_lt_of_le sz5_paG hst6.size
        have bx6_paG_0 : w6.cell? ⟨w.heap.size, 0, none⟩ = some (.slice a0_vG vG.fSymbols.length c0_vG) := (hst6.cell (p := ⟨w.heap.size, 0, none⟩) sz5_paG).trans bx5_paG_0
        have bx6_paG_1 : w6.cell? ⟨w.heap.size, 1, none⟩ = some (.slice a1_vG vG.fRules.length c1_vG) := (hst6.cell (p := ⟨w.heap.size, 1, none⟩) sz5_paG).trans bx5_paG_1
        have sz6_paR : w.heap.size + 1 < w6.heap.size := Nat.lt_of_lt_of_le sz5_paR hst6.size
        have bx6_paR_0 : w6.cell? ⟨w.heap.size + 1, 0, none⟩ = some (.string vR.fName) := (hst6.cell (p := ⟨w.heap.size + 1, 0, none⟩) sz5_paR).trans bx5_paR_0
        have bx6_paR_1 : w6.cell? ⟨w.heap.size + 1, 1, none⟩ = some (.string vR.fLeft) := (hst6.cell (p := ⟨w.heap.size + 1, 1, none⟩) sz5_paR).trans bx5_paR_1
        have bx6_paR_2 : w6.cell? ⟨w.heap.size + 1, 2, none⟩ = some (.slice a2_vR vR.fRight.length c2_vR) := (hst6.cell (p := ⟨w.heap.size + 1, 2, none⟩) sz5_paR).trans bx5_paR_2
        have bx6_paR_3 : w6.cell? ⟨w.heap.size + 1, 3, none⟩ = some (.bool vR.fLiteral) := (hst6.cell (p := ⟨w.heap.size + 1, 3, none⟩) sz5_paR).trans bx5_paR_3
        have bx6_paR_4 : w6.cell? ⟨w.heap.size + 1, 4, none⟩ = some (.slice a4_vR vR.fEquations.length c4_vR) := (hst6.cell (p := ⟨w.heap.size + 1, 4, none⟩) sz5_paR).trans bx5_paR_4
        have bx6_paR_5 : w6.cell? ⟨w.heap.size + 1, 5, none⟩ = some (.slice a5_vR vR.fContributions.length c5_vR) := (hst6.cell (p := ⟨w.heap.size + 1, 5, none⟩) sz5_paR).trans bx5_paR_5
        have sz6_w0 : bV5 < w6.heap.size := Nat.lt_of_lt_of_le sz5_w0 hst6.size
        have bx6_w0_0 : w6.cell? ⟨bV5, 0, none⟩ = some (.int .i64 (locRel vG vR).fN) := (hst6.cell (p := ⟨bV5, 0, none⟩) sz5_w0).trans bx5_w0_0
        have bx6_w0_1 : w6.cell? ⟨bV5, 1, none⟩ = some (.slice a1_R_5 (locRel vG vR).fRows.length c1_R_5) := (hst6.cell (p := ⟨bV5, 1, none⟩) sz5_w0).trans bx5_w0_1
        have HO6_1_R_5 := Lib.hid (HO5_1_R_5.out.kept (Kept.of_below_all hst6))
        have HR6_vG_6 := Lib.hid (OwnR.sub (F' := fun y => w5.heap.size ≤ y ∧ y < w6.heap.size) ho6 (fun y hy => ⟨Nat.le_trans (by first | exact Nat.le_refl _ | (simp; done) | (simp; omega) | (simp [World.setCell]; done) | (simp [World.setCell]; omega)) hy.1, hy.2⟩))
        have HO6_0_vG_6 := Lib.hid (show Own w6 (fun y => w5.heap.size ≤ y ∧ y < w6.heap.size) (.sl 2 vG.fSymbols.length (fun k => DSymbol.ct (vG.fSymbols.getD k default))) (.slice a0_vG_6 vG.fSymbols.length c0_vG_6) from Own.sub (F := fun y => _ ≤ y ∧ y < _) (OwnR.at ho6 0 (by decide)) (fun y hy => ⟨Nat.le_trans (by first | exact Nat.le_refl _ | (simp; done) | (simp; omega) | (simp [World.setCell]; done) | (simp [World.setCell]; omega)) hy.1, hy.2⟩))
        have HO6_1_vG_6 := Lib.hid (show Own w6 (fun y => w5.heap.size ≤ y ∧ y < w6.heap.size) (.sl 6 vG.fRules.length (fun k => DRule.ct (vG.fRules.getD k default))) (.slice a1_vG_6 vG.fRules.length c1_vG_6) from Own.sub (F := fun y => _ ≤ y ∧ y < _) (OwnR.at ho6 1 (by decide)) (fun y hy => ⟨Nat.le_trans (by first | exact Nat.le_refl _ | (simp; done) | (simp; omega) | (simp [World.setCell]; done) | (simp [World.setCell]; omega)) hy.1, hy.2⟩))
        have HB6 := Lib.hid (HB5.out.trans (hst6.mono HB5.out.size))
        clear bx5_paG_0 bx5_paG_1 sz5_paG bx5_paR_0 bx5_paR_1 bx5_paR_2 bx5_paR_3 bx5_paR_4 bx5_paR_5 sz5_paR bx5_w0_0 bx5_w0_1 sz5_w0 HO5_1_R_5 ho6 hb6 hst6 HB5
        go_wp2_with fail
        refine (laws_toRule (c2 := c2_vR) (c4 := c4_vR) (c5 := c5_vR) vR hq_vR _ (Below.size (by repeat (first | (with_reducible exact Below.refl _ _) | (with_reducible apply Below.drew) | (with_reducible refine below_drewN ?_ _) | (refine Below.setCell ?_ (by simp <;> omega) _) | (refine Below.alloc ?_ (by simp <;> omega) _)) : Below w6.heap.size w6 _)) ((HS_2_vR.out.later (HB6.out.trans ((by repeat (first | (with_reducible exact Below.refl _ _) | (with_reducible apply Below.drew) | (with_reducible refine below_drewN ?_ _) | (refine Below.setCell ?_ (by simp <;> omega) _) | (refine Below.alloc ?_ (by simp <;> omega) _)) : Below w6.heap.size w6 _).mono HB6.out.size)) (Nat.le_refl _)).mono (Nat.le_refl _) HB6.out.size) ((HS_4_vR.out.later (HB6.out.trans ((by repeat (first | (with_reducible exact Below.refl _ _) | (with_reducible apply Below.drew) | (with_reducible refine below_drewN ?_ _) | (refine Below.setCell ?_ (by simp <;> omega) _) | (refine Below.alloc ?_ (by simp <;> omega) _)) : Below w6.heap.size w6 _).mono HB6.out.size)) (Nat.le_refl _)).mono (Nat.le_refl _) HB6.out.size) ((HS_5_vR.out.later (HB6.out.trans ((by repeat (first | (with_reducible exact Below.refl _ _) | (with_reducible apply Below.drew) | (with_reducible refine below_drewN ?_ _) | (refine Below.setCell ?_ (by simp <;> omega) _) | (refine Below.alloc ?_ (by simp <;> omega) _)) : Below w6.heap.size w6 _).mono HB6.out.size)) (Nat.le_refl _)).mono (Nat.le_refl _) HB6.out.size)).mono ?_
        rintro e w7 ⟨a2_vR_7, c2_vR_7, a4_vR_7, c4_vR_7, a5_vR_7, c5_vR_7, rfl, ho7, hb7⟩
        have hst7 : Below w6.heap.size w6 w7 := Below.trans (by repeat (first | (with_reducible exact Below.refl _ _) | (with_reducible apply Below.drew) | (with_reducible refine below_drewN ?_ _) | (refine Below.setCell ?_ (by simp <;> omega) _) | (refine Below.alloc ?_ (by simp <;> omega) _)) : Below w6.heap.size w6 _) (hb7.mono (Below.size (by repeat (first | (with_reducible exact Below.refl _ _) | (with_reducible apply Below.drew) | (with_reducible refine below_drewN ?_ _) | (refine Below.setCell ?_ (by simp <;> omega) _) | (refine Below.alloc ?_ (by simp <;> omega) _)) : Below w6.heap.size w6 _)))
        have hr7 : w6.heap.size + 1 ≤ w7.heap.size := Nat.le_trans (by first | exact Nat.le_refl _ | (simp; done) | (simp; omega) | (simp [World.setCell]; done) | (simp [World.setCell]; omega)) hb7.size
        have sz7_paG : w.heap.size < w7.heap.size := Nat.lt_of_lt_of_le sz6_paG hst7.size
        have bx7_paG_0 : w7.cell? ⟨w.heap.size, 0, none⟩ = some (.slice a0_vG vG.fSymbols.length c0_vG) := (hst7.cell (p := ⟨w.heap.size, 0, none⟩) sz6_paG).trans bx6_paG_0
        have bx7_paG_1 : w7.cell? ⟨w.heap.size, 1, none⟩ = some (.slice a1_vG vG.fRules.length c1_vG) := (hst7.cell (p := ⟨w.heap.size, 1, none⟩) sz6_paG).trans bx6_paG_1
        have sz7_paR : w.heap.size + 1 < w7.heap.size := Nat.lt_of_lt_of_le sz6_paR hst7.size
        have bx7_paR_0 : w7.cell? ⟨w.heap.size + 1, 0, none⟩ = some (.string vR.fName) := (hst7.cell (p := ⟨w.heap.size + 1, 0, none⟩) sz6_paR).trans bx6_paR_0
        have bx7_paR_1 : w7.cell? ⟨w.heap.size + 1, 1, none⟩ = some (.string vR.fLeft) := (hst7.cell (p := ⟨w.heap.size + 1, 1, none⟩) sz6_paR).trans bx6_paR_1
        have bx7_paR_2 : w7.cell? ⟨w.heap.size + 1, 2, none⟩ = some (.slice a2_vR vR.fRight.length c2_vR) := (hst7.cell (p := ⟨w.heap.size + 1, 2, none⟩) sz6_paR).trans bx6_paR_2
        have bx7_paR_3 : w7.cell? ⟨w.heap.size + 1, 3, none⟩ = some (.bool vR.fLiteral) := (hst7.cell (p := ⟨w.heap.size + 1, 3, none⟩) sz6_paR).trans bx6_paR_3
        have bx7_paR_4 : w7.cell? ⟨w.heap.size + 1, 4, none⟩ = some (.slice a4_vR vR.fEquations.length c4_vR) := (hst7.cell (p := ⟨w.heap.size + 1, 4, none⟩) sz6_paR).trans bx6_paR_4
        have bx7_paR_5 : w7.cell? ⟨w.heap.size + 1, 5, none⟩ = some (.slice a5_vR vR.fContributions.length c5_vR) := (hst7.cell (p := ⟨w.heap.size + 1, 5, none⟩) sz6_paR).trans bx6_paR_5
        have sz7_w0 : bV5 < w7.heap.size := Nat.lt_of_lt_of_le sz6_w0 hst7.size
        have bx7_w0_0 : w7.cell? ⟨bV5, 0, none⟩ = some (.int .i64 (locRel vG vR).fN) := (hst7.cell (p := ⟨bV5, 0, none⟩) sz6_w0).trans bx6_w0_0
        have bx7_w0_1 : w7.cell? ⟨bV5, 1, none⟩ = some (.slice a1_R_5 (locRel vG vR).fRows.length c1_R_5) := (hst7.cell (p := ⟨bV5, 1, none⟩) sz6_w0).trans bx6_w0_1
        have sz7_x0 : w6.heap.size < w7.heap.size := Nat.lt_of_lt_of_le (by first | omega | (simp; done) | (simp; omega) | (simp [World.setCell]; omega)) hb7.size
        have bx7_x0_0 : w7.cell? ⟨w6.heap.size, 0, none⟩ = some (.slice a0_vG_6 vG.fSymbols.length c0_vG_6) := (hb7.cell (p := ⟨w6.heap.size, 0, none⟩) (by first | omega | (simp; done) | (simp; omega) | (simp [World.setCell]; omega))).trans (by go_simp)
        have bx7_x0_1 : w7.cell? ⟨w6.heap.size, 1, none⟩ = some (.slice a1_vG_6 vG.fRules.length c1_vG_6) := (hb7.cell (p := ⟨w6.heap.size, 1, none⟩) (by first | omega | (simp; done) | (simp; omega) | (simp [World.setCell]; omega))).trans (by go_simp)
        have HO7_1_R_5 := Lib.hid (HO6_1_R_5.out.kept (Kept.of_below_all hst7))
        have HO7_0_vG_6 := Lib.hid (HO6_0_vG_6.out.kept (Kept.of_below_all hst7))
        have HO7_1_vG_6 := Lib.hid (HO6_1_vG_6.out.kept (Kept.of_below_all hst7))
        have HR7_vG_6 := Lib.hid (HR6_vG_6.out.kept (Kept.of_below_all hst7))
        have HR7_vR_7 := Lib.hid (OwnR.sub (F' := fun y => w6.heap.size + 1 ≤ y ∧ y < w7.heap.size) ho7 (fun y hy => ⟨Nat.le_trans (by first | exact Nat.le_refl _ | (simp; done) | (simp; omega) | (simp [World.setCell]; done) | (simp [World.setCell]; omega)) hy.1, hy.2⟩))
        have HO7_2_vR_7 := Lib.hid (show Own w7 (fun y => w6.heap.size + 1 ≤ y ∧ y < w7.heap.size) (.sl 1 vR.fRight.length (fun k => ictS (vR.fRight.getD k default))) (.slice a2_vR_7 vR.fRight.length c2_vR_7) from Own.sub (F := fun y => _ ≤ y ∧ y < _) (OwnR.at ho7 2 (by decide)) (fun y hy => ⟨Nat.le_trans (by first | exact Nat.le_refl _ | (simp; done) | (simp; omega) | (simp [World.setCell]; done) | (simp [World.setCell]; omega)) hy.1, hy.2⟩))
        have HO7_4_vR_7 := Lib.hid (show Own w7 (fun y => w6.heap.size + 1 ≤ y ∧ y < w7.heap.size) (.sl 9 vR.fEquations.length (fun k => DEquation.ct (vR.fEquations.getD k default))) (.slice a4_vR_7 vR.fEquations.length c4_vR_7) from Own.sub (F := fun y => _ ≤ y ∧ y < _) (OwnR.at ho7 4 (by decide)) (fun y hy => ⟨Nat.le_trans (by first | exact Nat.le_refl _ | (simp; done) | (simp; omega) | (simp [World.setCell]; done) | (simp [World.setCell]; omega)) hy.1, hy.2⟩))
        have HO7_5_vR_7 := Lib.hid (show Own w7 (fun y => w6.heap.size + 1 ≤ y ∧ y < w7.heap.size) (.sl 16 vR.fContributions.length (fun k => DContribution.ct (vR.fContributions.getD k default))) (.slice a5_vR_7 vR.fContributions.length c5_vR_7) from Own.sub (F := fun y => _ ≤ y ∧ y < _) (OwnR.at ho7 5 (by decide)) (fun y hy => ⟨Nat.le_trans (by first | exact Nat.le_refl _ | (simp; done) | (simp; omega) | (simp [World.setCell]; done) | (simp [World.setCell]; omega)) hy.1, hy.2⟩))
        have HB7 := Lib.hid (HB6.out.trans (hst7.mono HB6.out.size))
        clear bx6_paG_0 bx6_paG_1 sz6_paG bx6_paR_0 bx6_paR_1 bx6_paR_2 bx6_paR_3 bx6_paR_4 bx6_paR_5 sz6_paR bx6_w0_0 bx6_w0_1 sz6_w0 HO6_1_R_5 HO6_0_vG_6 HO6_1_vG_6 HR6_vG_6 ho7 hb7 hst7 HB6
        go_wp2_with fail
        refine (impl_LocalRelation (c0_0 := c0_vG_6) (c0_1 := c1_vG_6) (c1_0 := c2_vR_7) (c1_1 := c4_vR_7) (c1_2 := c5_vR_7) vG OK_vG.out hq_vG vR OK_vR.out hq_vR _ (Below.size (by repeat (first | (with_reducible exact Below.refl _ _) | (with_reducible apply Below.drew) | (with_reducible refine below_drewN ?_ _) | (refine Below.setCell ?_ (by simp <;> omega) _) | (refine Below.alloc ?_ (by simp <;> omega) _)) : Below w7.heap.size w7 _)) ((Sf.of (HO7_0_vG_6.out.soft (lo := 0) (hi := w7.heap.size) (fun y hy => ⟨Nat.zero_le _, by have := hy.2; omega⟩))).later (by repeat (first | (with_reducible exact Below.refl _ _) | (with_reducible apply Below.drew) | (with_reducible refine below_drewN ?_ _) | (refine Below.setCell ?_ (by simp <;> omega) _) | (refine Below.alloc ?_ (by simp <;> omega) _)) : Below w7.heap.size w7 _) (Nat.le_refl _)) ((Sf.of (HO7_1_vG_6.out.soft (lo := 0) (hi := w7.heap.size) (fun y hy => ⟨Nat.zero_le _, by have := hy.2; omega⟩))).later (by repeat (first | (with_reducible exact Below.refl _ _) | (with_reducible apply Below.drew) | (with_reducible refine below_drewN ?_ _) | (refine Below.setCell ?_ (by simp <;> omega) _) | (refine Below.alloc ?_ (by simp <;> omega) _)) : Below w7.heap.size w7 _) (Nat.le_refl _)) ((Sf.of (HO7_2_vR_7.out.soft (lo := 0) (hi := w7.heap.size) (fun y hy => ⟨Nat.zero_le _, by have := hy.2; omega⟩))).later (by repeat (first | (with_reducible exact Below.refl _ _) | (with_reducible apply Below.drew) | (with_reducible refine below_drewN ?_ _) | (refine Below.setCell ?_ (by simp <;> omega) _) | (refine Below.alloc ?_ (by simp <;> omega) _)) : Below w7.heap.size w7 _) (Nat.le_refl _)) ((Sf.of (HO7_4_vR_7.out.soft (lo := 0) (hi := w7.heap.size) (fun y hy => ⟨Nat.zero_le _, by have := hy.2; omega⟩))).later (by repeat (first | (with_reducible exact Below.refl _ _) | (with_reducible apply Below.drew) | (with_reducible refine below_drewN ?_ _) | (refine Below.setCell ?_ (by simp <;> omega) _) | (refine Below.alloc ?_ (by simp <;> omega) _)) : Below w7.heap.size w7 _) (Nat.le_refl _)) ((Sf.of (HO7_5_vR_7.out.soft (lo := 0) (hi := w7.heap.size) (fun y hy => ⟨Nat.zero_le _, by have := hy.2; omega⟩))).later (by repeat (first | (with_reducible exact Below.refl _ _) | (with_reducible apply Below.drew) | (with_reducible refine below_drewN ?_ _) | (refine Below.setCell ?_ (by simp <;> omega) _) | (refine Below.alloc ?_ (by simp <;> omega) _)) : Below w7.heap.size w7 _) (Nat.le_refl _))).mono ?_
        rintro e w8 ⟨a1_R_8, c1_R_8, rfl, ho8, hb8⟩
        have hst8 : Below w7.heap.size w7 w8 := Below.trans (by repeat (first | (with_reducible exact Below.refl _ _) | (with_reducible apply Below.drew) | (with_reducible refine below_drewN ?_ _) | (refine Below.setCell ?_ (by simp <;> omega) _) | (refine Below.alloc ?_ (by simp <;> omega) _)) : Below w7.heap.size w7 _) (hb8.mono (Below.size (by repeat (first | (with_reducible exact Below.refl _ _) | (with_reducible apply Below.drew) | (with_reducible refine below_drewN ?_ _) | (refine Below.setCell ?_ (by simp <;> omega) _) | (refine Below.alloc ?_ (by simp <;> omega) _)) : Below w7.heap.size w7 _)))
        have hr8 : w7.heap.size + 1 ≤ w8.heap.size := Nat.le_trans (by first | exact Nat.le_refl _ | (simp; done) | (simp; omega) | (simp [World.setCell]; done) | (simp [World.setCell]; omega)) hb8.size
        have sz8_paG : w.heap.size < w8.heap.size := Nat.lt_of_lt_of_le sz7_paG hst8.size
        have bx8_paG_0 : w8.cell? ⟨w.heap.size, 0, none⟩ = some (.slice a0_vG vG.fSymbols.length c0_vG) := (hst8.cell (p := ⟨w.heap.size, 0, none⟩) sz7_paG).trans bx7_paG_0
        have bx8_paG_1 : w8.cell? ⟨w.heap.size, 1, none⟩ = some (.slice a1_vG vG.fRules.length c1_vG) := (hst8.cell (p := ⟨w.heap.size, 1, none⟩) sz7_paG).trans bx7_paG_1
        have sz8_paR : w.heap.size + 1 < w8.heap.size := Nat.lt_of_lt_of_le sz7_paR hst8.size
        have bx8_paR_0 : w8.cell? ⟨w.heap.size + 1, 0, none⟩ = some (.string vR.fName) := (hst8.cell (p := ⟨w.heap.size + 1, 0, none⟩) sz7_paR).trans bx7_paR_0
        have bx8_paR_1 : w8.cell? ⟨w.heap.size + 1, 1, none⟩ = some (.string vR.fLeft) := (hst8.cell (p := ⟨w.heap.size + 1, 1, none⟩) sz7_paR).trans bx7_paR_1
        have bx8_paR_2 : w8.cell? ⟨w.heap.size + 1, 2, none⟩ = some (.slice a2_vR vR.fRight.length c2_vR) := (hst8.cell (p := ⟨w.heap.size + 1, 2, none⟩) sz7_paR).trans bx7_paR_2
        have bx8_paR_3 : w8.cell? ⟨w.heap.size + 1, 3, none⟩ = some (.bool vR.fLiteral) := (hst8.cell (p := ⟨w.heap.size + 1, 3, none⟩) sz7_paR).trans bx7_paR_3
        have bx8_paR_4 : w8.cell? ⟨w.heap.size + 1, 4, none⟩ = some (.slice a4_vR vR.fEquations.length c4_vR) := (hst8.cell (p := ⟨w.heap.size + 1, 4, none⟩) sz7_paR).trans bx7_paR_4
        have bx8_paR_5 : w8.cell? ⟨w.heap.size + 1, 5, none⟩ = some (.slice a5_vR vR.fContributions.length c5_vR) := (hst8.cell (p := ⟨w.heap.size + 1, 5, none⟩) sz7_paR).trans bx7_paR_5
        have sz8_w0 : bV5 < w8.heap.size := Nat.lt_of_lt_of_le sz7_w0 hst8.size
        have bx8_w0_0 : w8.cell? ⟨bV5, 0, none⟩ = some (.int .i64 (locRel vG vR).fN) := (hst8.cell (p := ⟨bV5, 0, none⟩) sz7_w0).trans bx7_w0_0
        have bx8_w0_1 : w8.cell? ⟨bV5, 1, none⟩ = some (.slice a1_R_5 (locRel vG vR).fRows.length c1_R_5) := (hst8.cell (p := ⟨bV5, 1, none⟩) sz7_w0).trans bx7_w0_1
        have sz8_x0 : w6.heap.size < w8.heap.size := Nat.lt_of_lt_of_le sz7_x0 hst8.size
        have bx8_x0_0 : w8.cell? ⟨w6.heap.size, 0, none⟩ = some (.slice a0_vG_6 vG.fSymbols.length c0_vG_6) := (hst8.cell (p := ⟨w6.heap.size, 0, none⟩) sz7_x0).trans bx7_x0_0
        have bx8_x0_1 : w8.cell? ⟨w6.heap.size, 1, none⟩ = some (.slice a1_vG_6 vG.fRules.length c1_vG_6) := (hst8.cell (p := ⟨w6.heap.size, 1, none⟩) sz7_x0).trans bx7_x0_1
        have sz8_x1 : w7.heap.size < w8.heap.size := Nat.lt_of_lt_of_le (by first | omega | (simp; done) | (simp; omega) | (simp [World.setCell]; omega)) hb8.size
        have bx8_x1_0 : w8.cell? ⟨w7.heap.size, 0, none⟩ = some (.string vR.fName) := (hb8.cell (p := ⟨w7.heap.size, 0, none⟩) (by first | omega | (simp; done) | (simp; omega) | (simp [World.setCell]; omega))).trans (by go_simp)
        have bx8_x1_1 : w8.cell? ⟨w7.heap.size, 1, none⟩ = some (.string vR.fLeft) := (hb8.cell (p := ⟨w7.heap.size, 1, none⟩) (by first | omega | (simp; done) | (simp; omega) | (simp [World.setCell]; omega))).trans (by go_simp)
        have bx8_x1_2 : w8.cell? ⟨w7.heap.size, 2, none⟩ = some (.slice a2_vR_7 vR.fRight.length c2_vR_7) := (hb8.cell (p := ⟨w7.heap.size, 2, none⟩) (by first | omega | (simp; done) | (simp; omega) | (simp [World.setCell]; omega))).trans (by go_simp)
        have bx8_x1_3 : w8.cell? ⟨w7.heap.size, 3, none⟩ = some (.bool vR.fLiteral) := (hb8.cell (p := ⟨w7.heap.size, 3, none⟩) (by first | omega | (simp; done) | (simp; omega) | (simp [World.setCell]; omega))).trans (by go_simp)
        have bx8_x1_4 : w8.cell? ⟨w7.heap.size, 4, none⟩ = some (.slice a4_vR_7 vR.fEquations.length c4_vR_7) := (hb8.cell (p := ⟨w7.heap.size, 4, none⟩) (by first | omega | (simp; done) | (simp; omega) | (simp [World.setCell]; omega))).trans (by go_simp)
        have bx8_x1_5 : w8.cell? ⟨w7.heap.size, 5, none⟩ = some (.slice a5_vR_7 vR.fContributions.length c5_vR_7) := (hb8.cell (p := ⟨w7.heap.size, 5, none⟩) (by first | omega | (simp; done) | (simp; omega) | (simp [World.setCell]; omega))).trans (by go_simp)
        have HO8_1_R_5 := Lib.hid (HO7_1_R_5.out.kept (Kept.of_below_all hst8))
        have HO8_0_vG_6 := Lib.hid (HO7_0_vG_6.out.kept (Kept.of_below_all hst8))
        have HO8_1_vG_6 := Lib.hid (HO7_1_vG_6.out.kept (Kept.of_below_all hst8))
        have HO8_2_vR_7 := Lib.hid (HO7_2_vR_7.out.kept (Kept.of_below_all hst8))
        have HO8_4_vR_7 := Lib.hid (HO7_4_vR_7.out.kept (Kept.of_below_all hst8))
        have HO8_5_vR_7 := Lib.hid (HO7_5_vR_7.out.kept (Kept.of_below_all hst8))
        have HR8_vG_6 := Lib.hid (HR7_vG_6.out.kept (Kept.of_below_all hst8))
        have HR8_vR_7 := Lib.hid (HR7_vR_7.out.kept (Kept.of_below_all hst8))
        have HO8_1_R_8 := Lib.hid (show Own w8 (fun y => w7.heap.size + 1 ≤ y ∧ y < w8.heap.size) (.sl 1 (locRel vG vR).fRows.length (fun k => ictI ((locRel vG vR).fRows.getD k default))) (.slice a1_R_8 (locRel vG vR).fRows.length c1_R_8) from Own.sub (F := fun y => _ ≤ y ∧ y < _) ho8 (fun y hy => ⟨Nat.le_trans (by first | exact Nat.le_refl _ | (simp; done) | (simp; omega) | (simp [World.setCell]; done) | (simp [World.setCell]; omega)) hy.1, hy.2⟩))
        have HB8 := Lib.hid (HB7.out.trans (hst8.mono HB7.out.size))
        clear bx7_paG_0 bx7_paG_1 sz7_paG bx7_paR_0 bx7_paR_1 bx7_paR_2 bx7_paR_3 bx7_paR_4 bx7_paR_5 sz7_paR bx7_w0_0 bx7_w0_1 sz7_w0 bx7_x0_0 bx7_x0_1 sz7_x0 HO7_1_R_5 HO7_0_vG_6 HO7_1_vG_6 HO7_2_vR_7 HO7_4_vR_7 HO7_5_vR_7 HR7_vG_6 HR7_vR_7 ho8 hb8 hst8 HB7
        go_wp2_with fail
        refine (laws_eqRelation (c1 := c1_R_8) (c1q := c1_R_5) (locRel vG vR) hq_R _ (Below.size (by repeat (first | (with_reducible exact Below.refl _ _) | (with_reducible apply Below.drew) | (with_reducible refine below_drewN ?_ _) | (refine Below.setCell ?_ (by simp <;> omega) _) | (refine Below.alloc ?_ (by simp <;> omega) _)) : Below w8.heap.size w8 _)) (Below.size (by repeat (first | (with_reducible exact Below.refl _ _) | (with_reducible apply Below.drew) | (with_reducible refine below_drewN ?_ _) | (refine Below.setCell ?_ (by simp <;> omega) _) | (refine Below.alloc ?_ (by simp <;> omega) _)) : Below w8.heap.size w8 _)) ((Sl.of (HO8_1_R_8.out.lies (lo := 0) (hi := w8.heap.size) (fun y hy => ⟨Nat.zero_le _, by have := hy.2; omega⟩))).later (by repeat (first | (with_reducible exact Below.refl _ _) | (with_reducible apply Below.drew) | (with_reducible refine below_drewN ?_ _) | (refine Below.setCell ?_ (by simp <;> omega) _) | (refine Below.alloc ?_ (by simp <;> omega) _)) : Below w8.heap.size w8 _) (Nat.le_refl _)) ((Sl.of (HO8_1_R_5.out.lies (lo := 0) (hi := w8.heap.size) (fun y hy => ⟨Nat.zero_le _, by have := hy.2; omega⟩))).later (by repeat (first | (with_reducible exact Below.refl _ _) | (with_reducible apply Below.drew) | (with_reducible refine below_drewN ?_ _) | (refine Below.setCell ?_ (by simp <;> omega) _) | (refine Below.alloc ?_ (by simp <;> omega) _)) : Below w8.heap.size w8 _) (Nat.le_refl _))).mono ?_
        rintro e w9 ⟨rfl, hb9⟩
        have hst9 : Below w8.heap.size w8 w9 := Below.trans (by repeat (first | (with_reducible exact Below.refl _ _) | (with_reducible apply Below.drew) | (with_reducible refine below_drewN ?_ _) | (refine Below.setCell ?_ (by simp <;> omega) _) | (refine Below.alloc ?_ (by simp <;> omega) _)) : Below w8.heap.size w8 _) (hb9.mono (Below.size (by repeat (first | (with_reducible exact Below.refl _ _) | (with_reducible apply Below.drew) | (with_reducible refine below_drewN ?_ _) | (refine Below.setCell ?_ (by simp <;> omega) _) | (refine Below.alloc ?_ (by simp <;> omega) _)) : Below w8.heap.size w8 _)))
        have hr9 : w8.heap.size + 1 ≤ w9.heap.size := Nat.le_trans (by first | exact Nat.le_refl _ | (simp; done) | (simp; omega) | (simp [World.setCell]; done) | (simp [World.setCell]; omega)) hb9.size
        have sz9_paG : w.heap.size < w9.heap.size := Nat.lt_of_lt_of_le sz8_paG hst9.size
        have bx9_paG_0 : w9.cell? ⟨w.heap.size, 0, none⟩ = some (.slice a0_vG vG.fSymbols.length c0_vG) := (hst9.cell (p := ⟨w.heap.size, 0, none⟩) sz8_paG).trans bx8_paG_0
        have bx9_paG_1 : w9.cell? ⟨w.heap.size, 1, none⟩ = some (.slice a1_vG vG.fRules.length c1_vG) := (hst9.cell (p := ⟨w.heap.size, 1, none⟩) sz8_paG).trans bx8_paG_1
        have sz9_paR : w.heap.size + 1 < w9.heap.size := Nat.lt_of_lt_of_le sz8_paR hst9.size
        have bx9_paR_0 : w9.cell? ⟨w.heap.size + 1, 0, none⟩ = some (.string vR.fName) := (hst9.cell (p := ⟨w.heap.size + 1, 0, none⟩) sz8_paR).trans bx8_paR_0
        have bx9_paR_1 : w9.cell? ⟨w.heap.size + 1, 1, none⟩ = some (.string vR.fLeft) := (hst9.cell (p := ⟨w.heap.size + 1, 1, none⟩) sz8_paR).trans bx8_paR_1
        have bx9_paR_2 : w9.cell? ⟨w.heap.size + 1, 2, none⟩ = some (.slice a2_vR vR.fRight.length c2_vR) := (hst9.cell (p := ⟨w.heap.size + 1, 2, none⟩) sz8_paR).trans bx8_paR_2
        have bx9_paR_3 : w9.cell? ⟨w.heap.size + 1, 3, none⟩ = some (.bool vR.fLiteral) := (hst9.cell (p := ⟨w.heap.size + 1, 3, none⟩) sz8_paR).trans bx8_paR_3
        have bx9_paR_4 : w9.cell? ⟨w.heap.size + 1, 4, none⟩ = some (.slice a4_vR vR.fEquations.length c4_vR) := (hst9.cell (p := ⟨w.heap.size + 1, 4, none⟩) sz8_paR).trans bx8_paR_4
        have bx9_paR_5 : w9.cell? ⟨w.heap.size + 1, 5, none⟩ = some (.slice a5_vR vR.fContributions.length c5_vR) := (hst9.cell (p := ⟨w.heap.size + 1, 5, none⟩) sz8_paR).trans bx8_paR_5
        have sz9_w0 : bV5 < w9.heap.size := Nat.lt_of_lt_of_le sz8_w0 hst9.size
        have bx9_w0_0 : w9.cell? ⟨bV5, 0, none⟩ = some (.int .i64 (locRel vG vR).fN) := (hst9.cell (p := ⟨bV5, 0, none⟩) sz8_w0).trans bx8_w0_0
        have bx9_w0_1 : w9.cell? ⟨bV5, 1, none⟩ = some (.slice a1_R_5 (locRel vG vR).fRows.length c1_R_5) := (hst9.cell (p := ⟨bV5, 1, none⟩) sz8_w0).trans bx8_w0_1
        have sz9_x0 : w6.heap.size < w9.heap.size := Nat.lt_of_lt_of_le sz8_x0 hst9.size
        have bx9_x0_0 : w9.cell? ⟨w6.heap.size, 0, none⟩ = some (.slice a0_vG_6 vG.fSymbols.length c0_vG_6) := (hst9.cell (p := ⟨w6.heap.size, 0, none⟩) sz8_x0).trans bx8_x0_0
        have bx9_x0_1 : w9.cell? ⟨w6.heap.size, 1, none⟩ = some (.slice a1_vG_6 vG.fRules.length c1_vG_6) := (hst9.cell (p := ⟨w6.heap.size, 1, none⟩) sz8_x0).trans bx8_x0_1
        have sz9_x1 : w7.heap.size < w9.heap.size := Nat.lt_of_lt_of_le sz8_x1 hst9.size
        have bx9_x1_0 : w9.cell? ⟨w7.heap.size, 0, none⟩ = some (.string vR.fName) := (hst9.cell (p := ⟨w7.heap.size, 0, none⟩) sz8_x1).trans bx8_x1_0
        have bx9_x1_1 : w9.cell? ⟨w7.heap.size, 1, none⟩ = some (.string vR.fLeft) := (hst9.cell (p := ⟨w7.heap.size, 1, none⟩) sz8_x1).trans bx8_x1_1
        have bx9_x1_2 : w9.cell? ⟨w7.heap.size, 2, none⟩ = some (.slice a2_vR_7 vR.fRight.length c2_vR_7) := (hst9.cell (p := ⟨w7.heap.size, 2, none⟩) sz8_x1).trans bx8_x1_2
        have bx9_x1_3 : w9.cell? ⟨w7.heap.size, 3, none⟩ = some (.bool vR.fLiteral) := (hst9.cell (p := ⟨w7.heap.size, 3, none⟩) sz8_x1).trans bx8_x1_3
        have bx9_x1_4 : w9.cell? ⟨w7.heap.size, 4, none⟩ = some (.slice a4_vR_7 vR.fEquations.length c4_vR_7) := (hst9.cell (p := ⟨w7.heap.size, 4, none⟩) sz8_x1).trans bx8_x1_4
        have bx9_x1_5 : w9.cell? ⟨w7.heap.size, 5, none⟩ = some (.slice a5_vR_7 vR.fContributions.length c5_vR_7) := (hst9.cell (p := ⟨w7.heap.size, 5, none⟩) sz8_x1).trans bx8_x1_5
        have sz9_g0 : w8.heap.size < w9.heap.size := Nat.lt_of_lt_of_le (by first | omega | (simp; done) | (simp; omega) | (simp [World.setCell]; omega)) hb9.size
        have bx9_g0_0 : w9.cell? ⟨w8.heap.size, 0, none⟩ = some (.int .i64 (locRel vG vR).fN) := (hb9.cell (p := ⟨w8.heap.size, 0, none⟩) (by first | omega | (simp; done) | (simp; omega) | (simp [World.setCell]; omega))).trans (by go_simp)
        have bx9_g0_1 : w9.cell? ⟨w8.heap.size, 1, none⟩ = some (.slice a1_R_8 (locRel vG vR).fRows.length c1_R_8) := (hb9.cell (p := ⟨w8.heap.size, 1, none⟩) (by first | omega | (simp; done) | (simp; omega) | (simp [World.setCell]; omega))).trans (by go_simp)
        have HO9_1_R_5 := Lib.hid (HO8_1_R_5.out.kept (Kept.of_below_all hst9))
        have HO9_0_vG_6 := Lib.hid (HO8_0_vG_6.out.kept (Kept.of_below_all hst9))
        have HO9_1_vG_6 := Lib.hid (HO8_1_vG_6.out.kept (Kept.of_below_all hst9))
        have HO9_2_vR_7 := Lib.hid (HO8_2_vR_7.out.kept (Kept.of_below_all hst9))
        have HO9_4_vR_7 := Lib.hid (HO8_4_vR_7.out.kept (Kept.of_below_all hst9))
        have HO9_5_vR_7 := Lib.hid (HO8_5_vR_7.out.kept (Kept.of_below_all hst9))
        have HO9_1_R_8 := Lib.hid (HO8_1_R_8.out.kept (Kept.of_below_all hst9))
        have HR9_vG_6 := Lib.hid (HR8_vG_6.out.kept (Kept.of_below_all hst9))
        have HR9_vR_7 := Lib.hid (HR8_vR_7.out.kept (Kept.of_below_all hst9))
        have HB9 := Lib.hid (HB8.out.trans (hst9.mono HB8.out.size))
        clear bx8_paG_0 bx8_paG_1 sz8_paG bx8_paR_0 bx8_paR_1 bx8_paR_2 bx8_paR_3 bx8_paR_4 bx8_paR_5 sz8_paR bx8_w0_0 bx8_w0_1 sz8_w0 bx8_x0_0 bx8_x0_1 sz8_x0 bx8_x1_0 bx8_x1_1 bx8_x1_2 bx8_x1_3 bx8_x1_4 bx8_x1_5 sz8_x1 HO8_1_R_5 HO8_0_vG_6 HO8_1_vG_6 HO8_2_vR_7 HO8_4_vR_7 HO8_5_vR_7 HO8_1_R_8 HR8_vG_6 HR8_vR_7 hb9 hst9 HB8
        go_wp2_with fail
        go_region_with ((first | (go_at_call 7; refine (laws_toGrammar (c0 := c0_vG) (c1 := c1_vG) vG hq_vG _ (Below.size (by repeat (first | (with_reducible exact Below.refl _ _) | (with_reducible apply Below.drew) | (with_reducible refine below_drewN ?_ _) | (refine Below.setCell ?_ (by simp <;> omega) _) | (refine Below.alloc ?_ (by simp <;> omega) _)) : Below w9.heap.size w9 _)) ((HS_0_vG.out.later (HB9.out.trans ((by repeat (first | (with_reducible exact Below.refl _ _) | (with_reducible apply Below.drew) | (with_reducible refine below_drewN ?_ _) | (refine Below.setCell ?_ (by simp <;> omega) _) | (refine Below.alloc ?_ (by simp <;> omega) _)) : Below w9.heap.size w9 _).mono HB9.out.size)) (Nat.le_refl _)).mono (Nat.le_refl _) HB9.out.size) ((HS_1_vG.out.later (HB9.out.trans ((by repeat (first | (with_reducible exact Below.refl _ _) | (with_reducible apply Below.drew) | (with_reducible refine below_drewN ?_ _) | (refine Below.setCell ?_ (by simp <;> omega) _) | (refine Below.alloc ?_ (by simp <;> omega) _)) : Below w9.heap.size w9 _).mono HB9.out.size)) (Nat.le_refl _)).mono (Nat.le_refl _) HB9.out.size)).mono ?_; rintro e w10 ⟨a0_vG_10, c0_vG_10, a1_vG_10, c1_vG_10, rfl, ho10, hb10⟩; have hst10 : Below w9.heap.size w9 w10 := Below.trans (by repeat (first | (with_reducible exact Below.refl _ _) | (with_reducible apply Below.drew) | (with_reducible refine below_drewN ?_ _) | (refine Below.setCell ?_ (by simp <;> omega) _) | (refine Below.alloc ?_ (by simp <;> omega) _)) : Below w9.heap.size w9 _) (hb10.mono (Below.size (by repeat (first | (with_reducible exact Below.refl _ _) | (with_reducible apply Below.drew) | (with_reducible refine below_drewN ?_ _) | (refine Below.setCell ?_ (by simp <;> omega) _) | (refine Below.alloc ?_ (by simp <;> omega) _)) : Below w9.heap.size w9 _))); have hr10 : w9.heap.size ≤ w10.heap.size := Nat.le_trans (by first | exact Nat.le_refl _ | (simp; done) | (simp; omega) | (simp [World.setCell]; done) | (simp [World.setCell]; omega)) hb10.size; have sz10_paG : w.heap.size < w10.heap.size := Nat.lt_of_lt_of_le sz9_paG hst10.size; have bx10_paG_0 : w10.cell? ⟨w.heap.size, 0, none⟩ = some (.slice a0_vG vG.fSymbols.length c0_vG) := (hst10.cell (p := ⟨w.heap.size, 0, none⟩) sz9_paG).trans bx9_paG_0; have bx10_paG_1 : w10.cell? ⟨w.heap.size, 1, none⟩ = some (.slice a1_vG vG.fRules.length c1_vG) := (hst10.cell (p := ⟨w.heap.size, 1, none⟩) sz9_paG).trans bx9_paG_1; have sz10_paR : w.heap.size + 1 < w10.heap.size := Nat.lt_of_lt_of_le sz9_paR hst10.size; have bx10_paR_0 : w10.cell? ⟨w.heap.size + 1, 0, none⟩ = some (.string vR.fName) := (hst10.cell (p := ⟨w.heap.size + 1, 0, none⟩) sz9_paR).trans bx9_paR_0; have bx10_paR_1 : w10.cell? ⟨w.heap.size + 1, 1, none⟩ = some (.string vR.fLeft) := (hst10.cell (p := ⟨w.heap.size + 1, 1, none⟩) sz9_paR).trans bx9_paR_1; have bx10_paR_2 : w10.cell? ⟨w.heap.size + 1, 2, none⟩ = some (.slice a2_vR vR.fRight.length c2_vR) := (hst10.cell (p := ⟨w.heap.size + 1, 2, none⟩) sz9_paR).trans bx9_paR_2; have bx10_paR_3 : w10.cell? ⟨w.heap.size + 1, 3, none⟩ = some (.bool vR.fLiteral) := (hst10.cell (p := ⟨w.heap.size + 1, 3, none⟩) sz9_paR).trans bx9_paR_3; have bx10_paR_4 : w10.cell? ⟨w.heap.size + 1, 4, none⟩ = some (.slice a4_vR vR.fEquations.length c4_vR) := (hst10.cell (p := ⟨w.heap.size + 1, 4, none⟩) sz9_paR).trans bx9_paR_4; have bx10_paR_5 : w10.cell? ⟨w.heap.size + 1, 5, none⟩ = some (.slice a5_vR vR.fContributions.length c5_vR) := (hst10.cell (p := ⟨w.heap.size + 1, 5, none⟩) sz9_paR).trans bx9_paR_5; have sz10_w0 : bV5 < w10.heap.size := Nat.lt_of_lt_of_le sz9_w0 hst10.size; have bx10_w0_0 : w10.cell? ⟨bV5, 0, none⟩ = some (.int .i64 (locRel vG vR).fN) := (hst10.cell (p := ⟨bV5, 0, none⟩) sz9_w0).trans bx9_w0_0; have bx10_w0_1 : w10.cell? ⟨bV5, 1, none⟩ = some (.slice a1_R_5 (locRel vG vR).fRows.length c1_R_5) := (hst10.cell (p := ⟨bV5, 1, none⟩) sz9_w0).trans bx9_w0_1; have sz10_x0 : w6.heap.size < w10.heap.size := Nat.lt_of_lt_of_le sz9_x0 hst10.size; have bx10_x0_0 : w10.cell? ⟨w6.heap.size, 0, none⟩ = some (.slice a0_vG_6 vG.fSymbols.length c0_vG_6) := (hst10.cell (p := ⟨w6.heap.size, 0, none⟩) sz9_x0).trans bx9_x0_0; have bx10_x0_1 : w10.cell? ⟨w6.heap.size, 1, none⟩ = some (.slice a1_vG_6 vG.fRules.length c1_vG_6) := (hst10.cell (p := ⟨w6.heap.size, 1, none⟩) sz9_x0).trans bx9_x0_1; have sz10_x1 : w7.heap.size < w10.heap.size := Nat.lt_of_lt_of_le sz9_x1 hst10.size; have bx10_x1_0 : w10.cell? ⟨w7.heap.size, 0, none⟩ = some (.string vR.fName) := (hst10.cell (p := ⟨w7.heap.size, 0, none⟩) sz9_x1).trans bx9_x1_0; have bx10_x1_1 : w10.cell? ⟨w7.heap.size, 1, none⟩ = some (.string vR.fLeft) := (hst10.cell (p := ⟨w7.heap.size, 1, none⟩) sz9_x1).trans bx9_x1_1; have bx10_x1_2 : w10.cell? ⟨w7.heap.size, 2, none⟩ = some (.slice a2_vR_7 vR.fRight.length c2_vR_7) := (hst10.cell (p := ⟨w7.heap.size, 2, none⟩) sz9_x1).trans bx9_x1_2; have bx10_x1_3 : w10.cell? ⟨w7.heap.size, 3, none⟩ = some (.bool vR.fLiteral) := (hst10.cell (p := ⟨w7.heap.size, 3, none⟩) sz9_x1).trans bx9_x1_3; have bx10_x1_4 : w10.cell? ⟨w7.heap.size, 4, none⟩ = some (.slice a4_vR_7 vR.fEquations.length c4_vR_7) := (hst10.cell (p := ⟨w7.heap.size, 4, none⟩) sz9_x1).trans bx9_x1_4; have bx10_x1_5 : w10.cell? ⟨w7.heap.size, 5, none⟩ = some (.slice a5_vR_7 vR.fContributions.length c5_vR_7) := (hst10.cell (p := ⟨w7.heap.size, 5, none⟩) sz9_x1).trans bx9_x1_5; have sz10_g0 : w8.heap.size < w10.heap.size := Nat.lt_of_lt_of_le sz9_g0 hst10.size; have bx10_g0_0 : w10.cell? ⟨w8.heap.size, 0, none⟩ = some (.int .i64 (locRel vG vR).fN) := (hst10.cell (p := ⟨w8.heap.size, 0, none⟩) sz9_g0).trans bx9_g0_0; have bx10_g0_1 : w10.cell? ⟨w8.heap.size, 1, none⟩ = some (.slice a1_R_8 (locRel vG vR).fRows.length c1_R_8) := (hst10.cell (p := ⟨w8.heap.size, 1, none⟩) sz9_g0).trans bx9_g0_1; have HO10_1_R_5 := Lib.hid (HO9_1_R_5.out.kept (Kept.of_below_all hst10)); have HO10_0_vG_6 := Lib.hid (HO9_0_vG_6.out.kept (Kept.of_below_all hst10)); have HO10_1_vG_6 := Lib.hid (HO9_1_vG_6.out.kept (Kept.of_below_all hst10)); have HO10_2_vR_7 := Lib.hid (HO9_2_vR_7.out.kept (Kept.of_below_all hst10)); have HO10_4_vR_7 := Lib.hid (HO9_4_vR_7.out.kept (Kept.of_below_all hst10)); have HO10_5_vR_7 := Lib.hid (HO9_5_vR_7.out.kept (Kept.of_below_all hst10)); have HO10_1_R_8 := Lib.hid (HO9_1_R_8.out.kept (Kept.of_below_all hst10)); have HR10_vG_6 := Lib.hid (HR9_vG_6.out.kept (Kept.of_below_all hst10)); have HR10_vR_7 := Lib.hid (HR9_vR_7.out.kept (Kept.of_below_all hst10)); have HO10_0_vG_10 := Lib.hid (show Own w10 (fun y => w9.heap.size ≤ y ∧ y < w10.heap.size) (.sl 2 vG.fSymbols.length (fun k => DSymbol.ct (vG.fSymbols.getD k default))) (.slice a0_vG_10 vG.fSymbols.length c0_vG_10) from Own.sub (F := fun y => _ ≤ y ∧ y < _) (OwnR.at ho10 0 (by decide)) (fun y hy => ⟨Nat.le_trans (by first | exact Nat.le_refl _ | (simp; done) | (simp; omega) | (simp [World.setCell]; done) | (simp [World.setCell]; omega)) hy.1, hy.2⟩)); have HO10_1_vG_10 := Lib.hid (show Own w10 (fun y => w9.heap.size ≤ y ∧ y < w10.heap.size) (.sl 6 vG.fRules.length (fun k => DRule.ct (vG.fRules.getD k default))) (.slice a1_vG_10 vG.fRules.length c1_vG_10) from Own.sub (F := fun y => _ ≤ y ∧ y < _) (OwnR.at ho10 1 (by decide)) (fun y hy => ⟨Nat.le_trans (by first | exact Nat.le_refl _ | (simp; done) | (simp; omega) | (simp [World.setCell]; done) | (simp [World.setCell]; omega)) hy.1, hy.2⟩)); have HB10 := Lib.hid (HB9.out.trans (hst10.mono HB9.out.size)); clear bx9_paG_0 bx9_paG_1 sz9_paG bx9_paR_0 bx9_paR_1 bx9_paR_2 bx9_paR_3 bx9_paR_4 bx9_paR_5 sz9_paR bx9_w0_0 bx9_w0_1 sz9_w0 bx9_x0_0 bx9_x0_1 sz9_x0 bx9_x1_0 bx9_x1_1 bx9_x1_2 bx9_x1_3 bx9_x1_4 bx9_x1_5 sz9_x1 bx9_g0_0 bx9_g0_1 sz9_g0 HO9_1_R_5 HO9_0_vG_6 HO9_1_vG_6 HO9_2_vR_7 HO9_4_vR_7 HO9_5_vR_7 HO9_1_R_8 HR9_vG_6 HR9_vR_7 ho10 hb10 hst10 HB9) | (go_at_call 11; refine (laws_eqGrammar (c0 := c0_vG_6) (c1 := c1_vG_6) (c0q := c0_vG_10) (c1q := c1_vG_10) vG hq_vG _ (Below.size (by repeat (first | (with_reducible exact Below.refl _ _) | (with_reducible apply Below.drew) | (with_reducible refine below_drewN ?_ _) | (refine Below.setCell ?_ (by simp <;> omega) _) | (refine Below.alloc ?_ (by simp <;> omega) _)) : Below w10.heap.size w10 _)) (Below.size (by repeat (first | (with_reducible exact Below.refl _ _) | (with_reducible apply Below.drew) | (with_reducible refine below_drewN ?_ _) | (refine Below.setCell ?_ (by simp <;> omega) _) | (refine Below.alloc ?_ (by simp <;> omega) _)) : Below w10.heap.size w10 _)) ((Sl.of (HO10_0_vG_6.out.lies (lo := 0) (hi := w10.heap.size) (fun y hy => ⟨Nat.zero_le _, by have := hy.2; omega⟩))).later (by repeat (first | (with_reducible exact Below.refl _ _) | (with_reducible apply Below.drew) | (with_reducible refine below_drewN ?_ _) | (refine Below.setCell ?_ (by simp <;> omega) _) | (refine Below.alloc ?_ (by simp <;> omega) _)) : Below w10.heap.size w10 _) (Nat.le_refl _)) ((Sl.of (HO10_1_vG_6.out.lies (lo := 0) (hi := w10.heap.size) (fun y hy => ⟨Nat.zero_le _, by have := hy.2; omega⟩))).later (by repeat (first | (with_reducible exact Below.refl _ _) | (with_reducible apply Below.drew) | (with_reducible refine below_drewN ?_ _) | (refine Below.setCell ?_ (by simp <;> omega) _) | (refine Below.alloc ?_ (by simp <;> omega) _)) : Below w10.heap.size w10 _) (Nat.le_refl _)) ((Sl.of (HO10_0_vG_10.out.lies (lo := 0) (hi := w10.heap.size) (fun y hy => ⟨Nat.zero_le _, by have := hy.2; omega⟩))).later (by repeat (first | (with_reducible exact Below.refl _ _) | (with_reducible apply Below.drew) | (with_reducible refine below_drewN ?_ _) | (refine Below.setCell ?_ (by simp <;> omega) _) | (refine Below.alloc ?_ (by simp <;> omega) _)) : Below w10.heap.size w10 _) (Nat.le_refl _)) ((Sl.of (HO10_1_vG_10.out.lies (lo := 0) (hi := w10.heap.size) (fun y hy => ⟨Nat.zero_le _, by have := hy.2; omega⟩))).later (by repeat (first | (with_reducible exact Below.refl _ _) | (with_reducible apply Below.drew) | (with_reducible refine below_drewN ?_ _) | (refine Below.setCell ?_ (by simp <;> omega) _) | (refine Below.alloc ?_ (by simp <;> omega) _)) : Below w10.heap.size w10 _) (Nat.le_refl _))).mono ?_; rintro e w11 ⟨rfl, hb11⟩; have hst11 : Below w10.heap.size w10 w11 := Below.trans (by repeat (first | (with_reducible exact Below.refl _ _) | (with_reducible apply Below.drew) | (with_reducible refine below_drewN ?_ _) | (refine Below.setCell ?_ (by simp <;> omega) _) | (refine Below.alloc ?_ (by simp <;> omega) _)) : Below w10.heap.size w10 _) (hb11.mono (Below.size (by repeat (first | (with_reducible exact Below.refl _ _) | (with_reducible apply Below.drew) | (with_reducible refine below_drewN ?_ _) | (refine Below.setCell ?_ (by simp <;> omega) _) | (refine Below.alloc ?_ (by simp <;> omega) _)) : Below w10.heap.size w10 _))); have hr11 : w10.heap.size ≤ w11.heap.size := Nat.le_trans (by first | exact Nat.le_refl _ | (simp; done) | (simp; omega) | (simp [World.setCell]; done) | (simp [World.setCell]; omega)) hb11.size; have sz11_paG : w.heap.size < w11.heap.size := Nat.lt_of_lt_of_le sz10_paG hst11.size; have bx11_paG_0 : w11.cell? ⟨w.heap.size, 0, none⟩ = some (.slice a0_vG vG.fSymbols.length c0_vG) := (hst11.cell (p := ⟨w.heap.size, 0, none⟩) sz10_paG).trans bx10_paG_0; have bx11_paG_1 : w11.cell? ⟨w.heap.size, 1, none⟩ = some (.slice a1_vG vG.fRules.length c1_vG) := (hst11.cell (p := ⟨w.heap.size, 1, none⟩) sz10_paG).trans bx10_paG_1; have sz11_paR : w.heap.size + 1 < w11.heap.size := Nat.lt_of_lt_of_le sz10_paR hst11.size; have bx11_paR_0 : w11.cell? ⟨w.heap.size + 1, 0, none⟩ = some (.string vR.fName) := (hst11.cell (p := ⟨w.heap.size + 1, 0, none⟩) sz10_paR).trans bx10_paR_0; have bx11_paR_1 : w11.cell? ⟨w.heap.size + 1, 1, none⟩ = some (.string vR.fLeft) := (hst11.cell (p := ⟨w.heap.size + 1, 1, none⟩) sz10_paR).trans bx10_paR_1; have bx11_paR_2 : w11.cell? ⟨w.heap.size + 1, 2, none⟩ = some (.slice a2_vR vR.fRight.length c2_vR) := (hst11.cell (p := ⟨w.heap.size + 1, 2, none⟩) sz10_paR).trans bx10_paR_2; have bx11_paR_3 : w11.cell? ⟨w.heap.size + 1, 3, none⟩ = some (.bool vR.fLiteral) := (hst11.cell (p := ⟨w.heap.size + 1, 3, none⟩) sz10_paR).trans bx10_paR_3; have bx11_paR_4 : w11.cell? ⟨w.heap.size + 1, 4, none⟩ = some (.slice a4_vR vR.fEquations.length c4_vR) := (hst11.cell (p := ⟨w.heap.size + 1, 4, none⟩) sz10_paR).trans bx10_paR_4; have bx11_paR_5 : w11.cell? ⟨w.heap.size + 1, 5, none⟩ = some (.slice a5_vR vR.fContributions.length c5_vR) := (hst11.cell (p := ⟨w.heap.size + 1, 5, none⟩) sz10_paR).trans bx10_paR_5; have sz11_w0 : bV5 < w11.heap.size := Nat.lt_of_lt_of_le sz10_w0 hst11.size; have bx11_w0_0 : w11.cell? ⟨bV5, 0, none⟩ = some (.int .i64 (locRel vG vR).fN) := (hst11.cell (p := ⟨bV5, 0, none⟩) sz10_w0).trans bx10_w0_0; have bx11_w0_1 : w11.cell? ⟨bV5, 1, none⟩ = some (.slice a1_R_5 (locRel vG vR).fRows.length c1_R_5) := (hst11.cell (p := ⟨bV5, 1, none⟩) sz10_w0).trans bx10_w0_1; have sz11_x0 : w6.heap.size < w11.heap.size := Nat.lt_of_lt_of_le sz10_x0 hst11.size; have bx11_x0_0 : w11.cell? ⟨w6.heap.size, 0, none⟩ = some (.slice a0_vG_6 vG.fSymbols.length c0_vG_6) := (hst11.cell (p := ⟨w6.heap.size, 0, none⟩) sz10_x0).trans bx10_x0_0; have bx11_x0_1 : w11.cell? ⟨w6.heap.size, 1, none⟩ = some (.slice a1_vG_6 vG.fRules.length c1_vG_6) := (hst11.cell (p := ⟨w6.heap.size, 1, none⟩) sz10_x0).trans bx10_x0_1; have sz11_x1 : w7.heap.size < w11.heap.size := Nat.lt_of_lt_of_le sz10_x1 hst11.size; have bx11_x1_0 : w11.cell? ⟨w7.heap.size, 0, none⟩ = some (.string vR.fName) := (hst11.cell (p := ⟨w7.heap.size, 0, none⟩) sz10_x1).trans bx10_x1_0; have bx11_x1_1 : w11.cell? ⟨w7.heap.size, 1, none⟩ = some (.string vR.fLeft) := (hst11.cell (p := ⟨w7.heap.size, 1, none⟩) sz10_x1).trans bx10_x1_1; have bx11_x1_2 : w11.cell? ⟨w7.heap.size, 2, none⟩ = some (.slice a2_vR_7 vR.fRight.length c2_vR_7) := (hst11.cell (p := ⟨w7.heap.size, 2, none⟩) sz10_x1).trans bx10_x1_2; have bx11_x1_3 : w11.cell? ⟨w7.heap.size, 3, none⟩ = some (.bool vR.fLiteral) := (hst11.cell (p := ⟨w7.heap.size, 3, none⟩) sz10_x1).trans bx10_x1_3; have bx11_x1_4 : w11.cell? ⟨w7.heap.size, 4, none⟩ = some (.slice a4_vR_7 vR.fEquations.length c4_vR_7) := (hst11.cell (p := ⟨w7.heap.size, 4, none⟩) sz10_x1).trans bx10_x1_4; have bx11_x1_5 : w11.cell? ⟨w7.heap.size, 5, none⟩ = some (.slice a5_vR_7 vR.fContributions.length c5_vR_7) := (hst11.cell (p := ⟨w7.heap.size, 5, none⟩) sz10_x1).trans bx10_x1_5; have sz11_g0 : w8.heap.size < w11.heap.size := Nat.lt_of_lt_of_le sz10_g0 hst11.size; have bx11_g0_0 : w11.cell? ⟨w8.heap.size, 0, none⟩ = some (.int .i64 (locRel vG vR).fN) := (hst11.cell (p := ⟨w8.heap.size, 0, none⟩) sz10_g0).trans bx10_g0_0; have bx11_g0_1 : w11.cell? ⟨w8.heap.size, 1, none⟩ = some (.slice a1_R_8 (locRel vG vR).fRows.length c1_R_8) := (hst11.cell (p := ⟨w8.heap.size, 1, none⟩) sz10_g0).trans bx10_g0_1; have HO11_1_R_5 := Lib.hid (HO10_1_R_5.out.kept (Kept.of_below_all hst11)); have HO11_0_vG_6 := Lib.hid (HO10_0_vG_6.out.kept (Kept.of_below_all hst11)); have HO11_1_vG_6 := Lib.hid (HO10_1_vG_6.out.kept (Kept.of_below_all hst11)); have HO11_2_vR_7 := Lib.hid (HO10_2_vR_7.out.kept (Kept.of_below_all hst11)); have HO11_4_vR_7 := Lib.hid (HO10_4_vR_7.out.kept (Kept.of_below_all hst11)); have HO11_5_vR_7 := Lib.hid (HO10_5_vR_7.out.kept (Kept.of_below_all hst11)); have HO11_1_R_8 := Lib.hid (HO10_1_R_8.out.kept (Kept.of_below_all hst11)); have HO11_0_vG_10 := Lib.hid (HO10_0_vG_10.out.kept (Kept.of_below_all hst11)); have HO11_1_vG_10 := Lib.hid (HO10_1_vG_10.out.kept (Kept.of_below_all hst11)); have HR11_vG_6 := Lib.hid (HR10_vG_6.out.kept (Kept.of_below_all hst11)); have HR11_vR_7 := Lib.hid (HR10_vR_7.out.kept (Kept.of_below_all hst11)); have HB11 := Lib.hid (HB10.out.trans (hst11.mono HB10.out.size)); clear bx10_paG_0 bx10_paG_1 sz10_paG bx10_paR_0 bx10_paR_1 bx10_paR_2 bx10_paR_3 bx10_paR_4 bx10_paR_5 sz10_paR bx10_w0_0 bx10_w0_1 sz10_w0 bx10_x0_0 bx10_x0_1 sz10_x0 bx10_x1_0 bx10_x1_1 bx10_x1_2 bx10_x1_3 bx10_x1_4 bx10_x1_5 sz10_x1 bx10_g0_0 bx10_g0_1 sz10_g0 HO10_1_R_5 HO10_0_vG_6 HO10_1_vG_6 HO10_2_vR_7 HO10_4_vR_7 HO10_5_vR_7 HO10_1_R_8 HO10_0_vG_10 HO10_1_vG_10 HR10_vG_6 HR10_vR_7 hb11 hst11 HB10)))
        all_goals
          go_wp2_with fail
          go_region_with ((first | (go_at_call 8; refine (laws_toRule (c2 := c2_vR) (c4 := c4_vR) (c5 := c5_vR) vR hq_vR _ (Below.size (by repeat (first | (with_reducible exact Below.refl _ _) | (with_reducible apply Below.drew) | (with_reducible refine below_drewN ?_ _) | (refine Below.setCell ?_ (by simp <;> omega) _) | (refine Below.alloc ?_ (by simp <;> omega) _)) : Below w11.heap.size w11 _)) ((HS_2_vR.out.later (HB11.out.trans ((by repeat (first | (with_reducible exact Below.refl _ _) | (with_reducible apply Below.drew) | (with_reducible refine below_drewN ?_ _) | (refine Below.setCell ?_ (by simp <;> omega) _) | (refine Below.alloc ?_ (by simp <;> omega) _)) : Below w11.heap.size w11 _).mono HB11.out.size)) (Nat.le_refl _)).mono (Nat.le_refl _) HB11.out.size) ((HS_4_vR.out.later (HB11.out.trans ((by repeat (first | (with_reducible exact Below.refl _ _) | (with_reducible apply Below.drew) | (with_reducible refine below_drewN ?_ _) | (refine Below.setCell ?_ (by simp <;> omega) _) | (refine Below.alloc ?_ (by simp <;> omega) _)) : Below w11.heap.size w11 _).mono HB11.out.size)) (Nat.le_refl _)).mono (Nat.le_refl _) HB11.out.size) ((HS_5_vR.out.later (HB11.out.trans ((by repeat (first | (with_reducible exact Below.refl _ _) | (with_reducible apply Below.drew) | (with_reducible refine below_drewN ?_ _) | (refine Below.setCell ?_ (by simp <;> omega) _) | (refine Below.alloc ?_ (by simp <;> omega) _)) : Below w11.heap.size w11 _).mono HB11.out.size)) (Nat.le_refl _)).mono (Nat.le_refl _) HB11.out.size)).mono ?_; rintro e w12 ⟨a2_vR_12, c2_vR_12, a4_vR_12, c4_vR_12, a5_vR_12, c5_vR_12, rfl, ho12, hb12⟩; have hst12 : Below w11.heap.size w11 w12 := Below.trans (by repeat (first | (with_reducible exact Below.refl _ _) | (with_reducible apply Below.drew) | (with_reducible refine below_drewN ?_ _) | (refine Below.setCell ?_ (by simp <;> omega) _) | (refine Below.alloc ?_ (by simp <;> omega) _)) : Below w11.heap.size w11 _) (hb12.mono (Below.size (by repeat (first | (with_reducible exact Below.refl _ _) | (with_reducible apply Below.drew) | (with_reducible refine below_drewN ?_ _) | (refine Below.setCell ?_ (by simp <;> omega) _) | (refine Below.alloc ?_ (by simp <;> omega) _)) : Below w11.heap.size w11 _))); have hr12 : w11.heap.size ≤ w12.heap.size := Nat.le_trans (by first | exact Nat.le_refl _ | (simp; done) | (simp; omega) | (simp [World.setCell]; done) | (simp [World.setCell]; omega)) hb12.size; have sz12_paG : w.heap.size < w12.heap.size := Nat.lt_of_lt_of_le sz11_paG hst12.size; have bx12_paG_0 : w12.cell? ⟨w.heap.size, 0, none⟩ = some (.slice a0_vG vG.fSymbols.length c0_vG) := (hst12.cell (p := ⟨w.heap.size, 0, none⟩) sz11_paG).trans bx11_paG_0; have bx12_paG_1 : w12.cell? ⟨w.heap.size, 1, none⟩ = some (.slice a1_vG vG.fRules.length c1_vG) := (hst12.cell (p := ⟨w.heap.size, 1, none⟩) sz11_paG).trans bx11_paG_1; have sz12_paR : w.heap.size + 1 < w12.heap.size := Nat.lt_of_lt_of_le sz11_paR hst12.size; have bx12_paR_0 : w12.cell? ⟨w.heap.size + 1, 0, none⟩ = some (.string vR.fName) := (hst12.cell (p := ⟨w.heap.size + 1, 0, none⟩) sz11_paR).trans bx11_paR_0; have bx12_paR_1 : w12.cell? ⟨w.heap.size + 1, 1, none⟩ = some (.string vR.fLeft) := (hst12.cell (p := ⟨w.heap.size + 1, 1, none⟩) sz11_paR).trans bx11_paR_1; have bx12_paR_2 : w12.cell? ⟨w.heap.size + 1, 2, none⟩ = some (.slice a2_vR vR.fRight.length c2_vR) := (hst12.cell (p := ⟨w.heap.size + 1, 2, none⟩) sz11_paR).trans bx11_paR_2; have bx12_paR_3 : w12.cell? ⟨w.heap.size + 1, 3, none⟩ = some (.bool vR.fLiteral) := (hst12.cell (p := ⟨w.heap.size + 1, 3, none⟩) sz11_paR).trans bx11_paR_3; have bx12_paR_4 : w12.cell? ⟨w.heap.size + 1, 4, none⟩ = some (.slice a4_vR vR.fEquations.length c4_vR) := (hst12.cell (p := ⟨w.heap.size + 1, 4, none⟩) sz11_paR).trans bx11_paR_4; have bx12_paR_5 : w12.cell? ⟨w.heap.size + 1, 5, none⟩ = some (.slice a5_vR vR.fContributions.length c5_vR) := (hst12.cell (p := ⟨w.heap.size + 1, 5, none⟩) sz11_paR).trans bx11_paR_5; have sz12_w0 : bV5 < w12.heap.size := Nat.lt_of_lt_of_le sz11_w0 hst12.size; have bx12_w0_0 : w12.cell? ⟨bV5, 0, none⟩ = some (.int .i64 (locRel vG vR).fN) := (hst12.cell (p := ⟨bV5, 0, none⟩) sz11_w0).trans bx11_w0_0; have bx12_w0_1 : w12.cell? ⟨bV5, 1, none⟩ = some (.slice a1_R_5 (locRel vG vR).fRows.length c1_R_5) := (hst12.cell (p := ⟨bV5, 1, none⟩) sz11_w0).trans bx11_w0_1; have sz12_x0 : w6.heap.size < w12.heap.size := Nat.lt_of_lt_of_le sz11_x0 hst12.size; have bx12_x0_0 : w12.cell? ⟨w6.heap.size, 0, none⟩ = some (.slice a0_vG_6 vG.fSymbols.length c0_vG_6) := (hst12.cell (p := ⟨w6.heap.size, 0, none⟩) sz11_x0).trans bx11_x0_0; have bx12_x0_1 : w12.cell? ⟨w6.heap.size, 1, none⟩ = some (.slice a1_vG_6 vG.fRules.length c1_vG_6) := (hst12.cell (p := ⟨w6.heap.size, 1, none⟩) sz11_x0).trans bx11_x0_1; have sz12_x1 : w7.heap.size < w12.heap.size := Nat.lt_of_lt_of_le sz11_x1 hst12.size; have bx12_x1_0 : w12.cell? ⟨w7.heap.size, 0, none⟩ = some (.string vR.fName) := (hst12.cell (p := ⟨w7.heap.size, 0, none⟩) sz11_x1).trans bx11_x1_0; have bx12_x1_1 : w12.cell? ⟨w7.heap.size, 1, none⟩ = some (.string vR.fLeft) := (hst12.cell (p := ⟨w7.heap.size, 1, none⟩) sz11_x1).trans bx11_x1_1; have bx12_x1_2 : w12.cell? ⟨w7.heap.size, 2, none⟩ = some (.slice a2_vR_7 vR.fRight.length c2_vR_7) := (hst12.cell (p := ⟨w7.heap.size, 2, none⟩) sz11_x1).trans bx11_x1_2; have bx12_x1_3 : w12.cell? ⟨w7.heap.size, 3, none⟩ = some (.bool vR.fLiteral) := (hst12.cell (p := ⟨w7.heap.size, 3, none⟩) sz11_x1).trans bx11_x1_3; have bx12_x1_4 : w12.cell? ⟨w7.heap.size, 4, none⟩ = some (.slice a4_vR_7 vR.fEquations.length c4_vR_7) := (hst12.cell (p := ⟨w7.heap.size, 4, none⟩) sz11_x1).trans bx11_x1_4; have bx12_x1_5 : w12.cell? ⟨w7.heap.size, 5, none⟩ = some (.slice a5_vR_7 vR.fContributions.length c5_vR_7) := (hst12.cell (p := ⟨w7.heap.size, 5, none⟩) sz11_x1).trans bx11_x1_5; have sz12_g0 : w8.heap.size < w12.heap.size := Nat.lt_of_lt_of_le sz11_g0 hst12.size; have bx12_g0_0 : w12.cell? ⟨w8.heap.size, 0, none⟩ = some (.int .i64 (locRel vG vR).fN) := (hst12.cell (p := ⟨w8.heap.size, 0, none⟩) sz11_g0).trans bx11_g0_0; have bx12_g0_1 : w12.cell? ⟨w8.heap.size, 1, none⟩ = some (.slice a1_R_8 (locRel vG vR).fRows.length c1_R_8) := (hst12.cell (p := ⟨w8.heap.size, 1, none⟩) sz11_g0).trans bx11_g0_1; have HO12_1_R_5 := Lib.hid (HO11_1_R_5.out.kept (Kept.of_below_all hst12)); have HO12_0_vG_6 := Lib.hid (HO11_0_vG_6.out.kept (Kept.of_below_all hst12)); have HO12_1_vG_6 := Lib.hid (HO11_1_vG_6.out.kept (Kept.of_below_all hst12)); have HO12_2_vR_7 := Lib.hid (HO11_2_vR_7.out.kept (Kept.of_below_all hst12)); have HO12_4_vR_7 := Lib.hid (HO11_4_vR_7.out.kept (Kept.of_below_all hst12)); have HO12_5_vR_7 := Lib.hid (HO11_5_vR_7.out.kept (Kept.of_below_all hst12)); have HO12_1_R_8 := Lib.hid (HO11_1_R_8.out.kept (Kept.of_below_all hst12)); have HO12_0_vG_10 := Lib.hid (HO11_0_vG_10.out.kept (Kept.of_below_all hst12)); have HO12_1_vG_10 := Lib.hid (HO11_1_vG_10.out.kept (Kept.of_below_all hst12)); have HR12_vG_6 := Lib.hid (HR11_vG_6.out.kept (Kept.of_below_all hst12)); have HR12_vR_7 := Lib.hid (HR11_vR_7.out.kept (Kept.of_below_all hst12)); have HO12_2_vR_12 := Lib.hid (show Own w12 (fun y => w11.heap.size ≤ y ∧ y < w12.heap.size) (.sl 1 vR.fRight.length (fun k => ictS (vR.fRight.getD k default))) (.slice a2_vR_12 vR.fRight.length c2_vR_12) from Own.sub (F := fun y => _ ≤ y ∧ y < _) (OwnR.at ho12 2 (by decide)) (fun y hy => ⟨Nat.le_trans (by first | exact Nat.le_refl _ | (simp; done) | (simp; omega) | (simp [World.setCell]; done) | (simp [World.setCell]; omega)) hy.1, hy.2⟩)); have HO12_4_vR_12 := Lib.hid (show Own w12 (fun y => w11.heap.size ≤ y ∧ y < w12.heap.size) (.sl 9 vR.fEquations.length (fun k => DEquation.ct (vR.fEquations.getD k default))) (.slice a4_vR_12 vR.fEquations.length c4_vR_12) from Own.sub (F := fun y => _ ≤ y ∧ y < _) (OwnR.at ho12 4 (by decide)) (fun y hy => ⟨Nat.le_trans (by first | exact Nat.le_refl _ | (simp; done) | (simp; omega) | (simp [World.setCell]; done) | (simp [World.setCell]; omega)) hy.1, hy.2⟩)); have HO12_5_vR_12 := Lib.hid (show Own w12 (fun y => w11.heap.size ≤ y ∧ y < w12.heap.size) (.sl 16 vR.fContributions.length (fun k => DContribution.ct (vR.fContributions.getD k default))) (.slice a5_vR_12 vR.fContributions.length c5_vR_12) from Own.sub (F := fun y => _ ≤ y ∧ y < _) (OwnR.at ho12 5 (by decide)) (fun y hy => ⟨Nat.le_trans (by first | exact Nat.le_refl _ | (simp; done) | (simp; omega) | (simp [World.setCell]; done) | (simp [World.setCell]; omega)) hy.1, hy.2⟩)); have HB12 := Lib.hid (HB11.out.trans (hst12.mono HB11.out.size)); clear bx11_paG_0 bx11_paG_1 sz11_paG bx11_paR_0 bx11_paR_1 bx11_paR_2 bx11_paR_3 bx11_paR_4 bx11_paR_5 sz11_paR bx11_w0_0 bx11_w0_1 sz11_w0 bx11_x0_0 bx11_x0_1 sz11_x0 bx11_x1_0 bx11_x1_1 bx11_x1_2 bx11_x1_3 bx11_x1_4 bx11_x1_5 sz11_x1 bx11_g0_0 bx11_g0_1 sz11_g0 HO11_1_R_5 HO11_0_vG_6 HO11_1_vG_6 HO11_2_vR_7 HO11_4_vR_7 HO11_5_vR_7 HO11_1_R_8 HO11_0_vG_10 HO11_1_vG_10 HR11_vG_6 HR11_vR_7 ho12 hb12 hst12 HB11) | (go_at_call 12; refine (laws_eqRule (c2 := c2_vR_7) (c4 := c4_vR_7) (c5 := c5_vR_7) (c2q := c2_vR_12) (c4q := c4_vR_12) (c5q := c5_vR_12) vR hq_vR _ (Below.size (by repeat (first | (with_reducible exact Below.refl _ _) | (with_reducible apply Below.drew) | (with_reducible refine below_drewN ?_ _) | (refine Below.setCell ?_ (by simp <;> omega) _) | (refine Below.alloc ?_ (by simp <;> omega) _)) : Below w12.heap.size w12 _)) (Below.size (by repeat (first | (with_reducible exact Below.refl _ _) | (with_reducible apply Below.drew) | (with_reducible refine below_drewN ?_ _) | (refine Below.setCell ?_ (by simp <;> omega) _) | (refine Below.alloc ?_ (by simp <;> omega) _)) : Below w12.heap.size w12 _)) ((Sl.of (HO12_2_vR_7.out.lies (lo := 0) (hi := w12.heap.size) (fun y hy => ⟨Nat.zero_le _, by have := hy.2; omega⟩))).later (by repeat (first | (with_reducible exact Below.refl _ _) | (with_reducible apply Below.drew) | (with_reducible refine below_drewN ?_ _) | (refine Below.setCell ?_ (by simp <;> omega) _) | (refine Below.alloc ?_ (by simp <;> omega) _)) : Below w12.heap.size w12 _) (Nat.le_refl _)) ((Sl.of (HO12_4_vR_7.out.lies (lo := 0) (hi := w12.heap.size) (fun y hy => ⟨Nat.zero_le _, by have := hy.2; omega⟩))).later (by repeat (first | (with_reducible exact Below.refl _ _) | (with_reducible apply Below.drew) | (with_reducible refine below_drewN ?_ _) | (refine Below.setCell ?_ (by simp <;> omega) _) | (refine Below.alloc ?_ (by simp <;> omega) _)) : Below w12.heap.size w12 _) (Nat.le_refl _)) ((Sl.of (HO12_5_vR_7.out.lies (lo := 0) (hi := w12.heap.size) (fun y hy => ⟨Nat.zero_le _, by have := hy.2; omega⟩))).later (by repeat (first | (with_reducible exact Below.refl _ _) | (with_reducible apply Below.drew) | (with_reducible refine below_drewN ?_ _) | (refine Below.setCell ?_ (by simp <;> omega) _) | (refine Below.alloc ?_ (by simp <;> omega) _)) : Below w12.heap.size w12 _) (Nat.le_refl _)) ((Sl.of (HO12_2_vR_12.out.lies (lo := 0) (hi := w12.heap.size) (fun y hy => ⟨Nat.zero_le _, by have := hy.2; omega⟩))).later (by repeat (first | (with_reducible exact Below.refl _ _) | (with_reducible apply Below.drew) | (with_reducible refine below_drewN ?_ _) | (refine Below.setCell ?_ (by simp <;> omega) _) | (refine Below.alloc ?_ (by simp <;> omega) _)) : Below w12.heap.size w12 _) (Nat.le_refl _)) ((Sl.of (HO12_4_vR_12.out.lies (lo := 0) (hi := w12.heap.size) (fun y hy => ⟨Nat.zero_le _, by have := hy.2; omega⟩))).later (by repeat (first | (with_reducible exact Below.refl _ _) | (with_reducible apply Below.drew) | (with_reducible refine below_drewN ?_ _) | (refine Below.setCell ?_ (by simp <;> omega) _) | (refine Below.alloc ?_ (by simp <;> omega) _)) : Below w12.heap.size w12 _) (Nat.le_refl _)) ((Sl.of (HO12_5_vR_12.out.lies (lo := 0) (hi := w12.heap.size) (fun y hy => ⟨Nat.zero_le _, by have := hy.2; omega⟩))).later (by repeat (first | (with_reducible exact Below.refl _ _) | (with_reducible apply Below.drew) | (with_reducible refine below_drewN ?_ _) | (refine Below.setCell ?_ (by simp <;> omega) _) | (refine Below.alloc ?_ (by simp <;> omega) _)) : Below w12.heap.size w12 _) (Nat.le_refl _))).mono ?_; rintro e w13 ⟨rfl, hb13⟩; have hst13 : Below w12.heap.size w12 w13 := Below.trans (by repeat (first | (with_reducible exact Below.refl _ _) | (with_reducible apply Below.drew) | (with_reducible refine below_drewN ?_ _) | (refine Below.setCell ?_ (by simp <;> omega) _) | (refine Below.alloc ?_ (by simp <;> omega) _)) : Below w12.heap.size w12 _) (hb13.mono (Below.size (by repeat (first | (with_reducible exact Below.refl _ _) | (with_reducible apply Below.drew) | (with_reducible refine below_drewN ?_ _) | (refine Below.setCell ?_ (by simp <;> omega) _) | (refine Below.alloc ?_ (by simp <;> omega) _)) : Below w12.heap.size w12 _))); have hr13 : w12.heap.size ≤ w13.heap.size := Nat.le_trans (by first | exact Nat.le_refl _ | (simp; done) | (simp; omega) | (simp [World.setCell]; done) | (simp [World.setCell]; omega)) hb13.size; have sz13_paG : w.heap.size < w13.heap.size := Nat.lt_of_lt_of_le sz12_paG hst13.size; have bx13_paG_0 : w13.cell? ⟨w.heap.size, 0, none⟩ = some (.slice a0_vG vG.fSymbols.length c0_vG) := (hst13.cell (p := ⟨w.heap.size, 0, none⟩) sz12_paG).trans bx12_paG_0; have bx13_paG_1 : w13.cell? ⟨w.heap.size, 1, none⟩ = some (.slice a1_vG vG.fRules.length c1_vG) := (hst13.cell (p := ⟨w.heap.size, 1, none⟩) sz12_paG).trans bx12_paG_1; have sz13_paR : w.heap.size + 1 < w13.heap.size := Nat.lt_of_lt_of_le sz12_paR hst13.size; have bx13_paR_0 : w13.cell? ⟨w.heap.size + 1, 0, none⟩ = some (.string vR.fName) := (hst13.cell (p := ⟨w.heap.size + 1, 0, none⟩) sz12_paR).trans bx12_paR_0; have bx13_paR_1 : w13.cell? ⟨w.heap.size + 1, 1, none⟩ = some (.string vR.fLeft) := (hst13.cell (p := ⟨w.heap.size + 1, 1, none⟩) sz12_paR).trans bx12_paR_1; have bx13_paR_2 : w13.cell? ⟨w.heap.size + 1, 2, none⟩ = some (.slice a2_vR vR.fRight.length c2_vR) := (hst13.cell (p := ⟨w.heap.size + 1, 2, none⟩) sz12_paR).trans bx12_paR_2; have bx13_paR_3 : w13.cell? ⟨w.heap.size + 1, 3, none⟩ = some (.bool vR.fLiteral) := (hst13.cell (p := ⟨w.heap.size + 1, 3, none⟩) sz12_paR).trans bx12_paR_3; have bx13_paR_4 : w13.cell? ⟨w.heap.size + 1, 4, none⟩ = some (.slice a4_vR vR.fEquations.length c4_vR) := (hst13.cell (p := ⟨w.heap.size + 1, 4, none⟩) sz12_paR).trans bx12_paR_4; have bx13_paR_5 : w13.cell? ⟨w.heap.size + 1, 5, none⟩ = some (.slice a5_vR vR.fContributions.length c5_vR) := (hst13.cell (p := ⟨w.heap.size + 1, 5, none⟩) sz12_paR).trans bx12_paR_5; have sz13_w0 : bV5 < w13.heap.size := Nat.lt_of_lt_of_le sz12_w0 hst13.size; have bx13_w0_0 : w13.cell? ⟨bV5, 0, none⟩ = some (.int .i64 (locRel vG vR).fN) := (hst13.cell (p := ⟨bV5, 0, none⟩) sz12_w0).trans bx12_w0_0; have bx13_w0_1 : w13.cell? ⟨bV5, 1, none⟩ = some (.slice a1_R_5 (locRel vG vR).fRows.length c1_R_5) := (hst13.cell (p := ⟨bV5, 1, none⟩) sz12_w0).trans bx12_w0_1; have sz13_x0 : w6.heap.size < w13.heap.size := Nat.lt_of_lt_of_le sz12_x0 hst13.size; have bx13_x0_0 : w13.cell? ⟨w6.heap.size, 0, none⟩ = some (.slice a0_vG_6 vG.fSymbols.length c0_vG_6) := (hst13.cell (p := ⟨w6.heap.size, 0, none⟩) sz12_x0).trans bx12_x0_0; have bx13_x0_1 : w13.cell? ⟨w6.heap.size, 1, none⟩ = some (.slice a1_vG_6 vG.fRules.length c1_vG_6) := (hst13.cell (p := ⟨w6.heap.size, 1, none⟩) sz12_x0).trans bx12_x0_1; have sz13_x1 : w7.heap.size < w13.heap.size := Nat.lt_of_lt_of_le sz12_x1 hst13.size; have bx13_x1_0 : w13.cell? ⟨w7.heap.size, 0, none⟩ = some (.string vR.fName) := (hst13.cell (p := ⟨w7.heap.size, 0, none⟩) sz12_x1).trans bx12_x1_0; have bx13_x1_1 : w13.cell? ⟨w7.heap.size, 1, none⟩ = some (.string vR.fLeft) := (hst13.cell (p := ⟨w7.heap.size, 1, none⟩) sz12_x1).trans bx12_x1_1; have bx13_x1_2 : w13.cell? ⟨w7.heap.size, 2, none⟩ = some (.slice a2_vR_7 vR.fRight.length c2_vR_7) := (hst13.cell (p := ⟨w7.heap.size, 2, none⟩) sz12_x1).trans bx12_x1_2; have bx13_x1_3 : w13.cell? ⟨w7.heap.size, 3, none⟩ = some (.bool vR.fLiteral) := (hst13.cell (p := ⟨w7.heap.size, 3, none⟩) sz12_x1).trans bx12_x1_3; have bx13_x1_4 : w13.cell? ⟨w7.heap.size, 4, none⟩ = some (.slice a4_vR_7 vR.fEquations.length c4_vR_7) := (hst13.cell (p := ⟨w7.heap.size, 4, none⟩) sz12_x1).trans bx12_x1_4; have bx13_x1_5 : w13.cell? ⟨w7.heap.size, 5, none⟩ = some (.slice a5_vR_7 vR.fContributions.length c5_vR_7) := (hst13.cell (p := ⟨w7.heap.size, 5, none⟩) sz12_x1).trans bx12_x1_5; have sz13_g0 : w8.heap.size < w13.heap.size := Nat.lt_of_lt_of_le sz12_g0 hst13.size; have bx13_g0_0 : w13.cell? ⟨w8.heap.size, 0, none⟩ = some (.int .i64 (locRel vG vR).fN) := (hst13.cell (p := ⟨w8.heap.size, 0, none⟩) sz12_g0).trans bx12_g0_0; have bx13_g0_1 : w13.cell? ⟨w8.heap.size, 1, none⟩ = some (.slice a1_R_8 (locRel vG vR).fRows.length c1_R_8) := (hst13.cell (p := ⟨w8.heap.size, 1, none⟩) sz12_g0).trans bx12_g0_1; have HO13_1_R_5 := Lib.hid (HO12_1_R_5.out.kept (Kept.of_below_all hst13)); have HO13_0_vG_6 := Lib.hid (HO12_0_vG_6.out.kept (Kept.of_below_all hst13)); have HO13_1_vG_6 := Lib.hid (HO12_1_vG_6.out.kept (Kept.of_below_all hst13)); have HO13_2_vR_7 := Lib.hid (HO12_2_vR_7.out.kept (Kept.of_below_all hst13)); have HO13_4_vR_7 := Lib.hid (HO12_4_vR_7.out.kept (Kept.of_below_all hst13)); have HO13_5_vR_7 := Lib.hid (HO12_5_vR_7.out.kept (Kept.of_below_all hst13)); have HO13_1_R_8 := Lib.hid (HO12_1_R_8.out.kept (Kept.of_below_all hst13)); have HO13_0_vG_10 := Lib.hid (HO12_0_vG_10.out.kept (Kept.of_below_all hst13)); have HO13_1_vG_10 := Lib.hid (HO12_1_vG_10.out.kept (Kept.of_below_all hst13)); have HO13_2_vR_12 := Lib.hid (HO12_2_vR_12.out.kept (Kept.of_below_all hst13)); have HO13_4_vR_12 := Lib.hid (HO12_4_vR_12.out.kept (Kept.of_below_all hst13)); have HO13_5_vR_12 := Lib.hid (HO12_5_vR_12.out.kept (Kept.of_below_all hst13)); have HR13_vG_6 := Lib.hid (HR12_vG_6.out.kept (Kept.of_below_all hst13)); have HR13_vR_7 := Lib.hid (HR12_vR_7.out.kept (Kept.of_below_all hst13)); have HB13 := Lib.hid (HB12.out.trans (hst13.mono HB12.out.size)); clear bx12_paG_0 bx12_paG_1 sz12_paG bx12_paR_0 bx12_paR_1 bx12_paR_2 bx12_paR_3 bx12_paR_4 bx12_paR_5 sz12_paR bx12_w0_0 bx12_w0_1 sz12_w0 bx12_x0_0 bx12_x0_1 sz12_x0 bx12_x1_0 bx12_x1_1 bx12_x1_2 bx12_x1_3 bx12_x1_4 bx12_x1_5 sz12_x1 bx12_g0_0 bx12_g0_1 sz12_g0 HO12_1_R_5 HO12_0_vG_6 HO12_1_vG_6 HO12_2_vR_7 HO12_4_vR_7 HO12_5_vR_7 HO12_1_R_8 HO12_0_vG_10 HO12_1_vG_10 HO12_2_vR_12 HO12_4_vR_12 HO12_5_vR_12 HR12_vG_6 HR12_vR_7 hb13 hst13 HB12)))
          all_goals
            go_wp2_with fail
            refine (wmark_Grammar (c0 := c0_vG_6) (c1 := c1_vG_6) vG hq_vG 1 (by omega) (by omega) _ (fun y hy => Nat.lt_of_lt_of_le (show y < w13.heap.size by have := hy.2; omega) (Below.size (by repeat (first | (with_reducible exact Below.refl _ _) | (with_reducible apply Below.drew) | (with_reducible refine below_drewN ?_ _) | (refine Below.setCell ?_ (by simp <;> omega) _) | (refine Below.alloc ?_ (by simp <;> omega) _)) : Below w13.heap.size w13 _))) (HR13_vG_6.out.kept (Kept.of_below (by repeat (first | (with_reducible exact Below.refl _ _) | (with_reducible apply Below.drew) | (with_reducible refine below_drewN ?_ _) | (refine Below.setCell ?_ (by simp <;> omega) _) | (refine Below.alloc ?_ (by simp <;> omega) _)) : Below w13.heap.size w13 _) (fun y hy => by have := hy.2; omega)))).mono ?_
            rintro e w14 ⟨k14, rfl, hka14, hkb14, hw14⟩
            have hkz14 : 1 ≤ k14 ∧ k14 ≤ 4294967296 := by omega
            have hst14 : WritesF (fun y => w5.heap.size ≤ y ∧ y < w6.heap.size) w13 w14 := hw14.of_below (by repeat (first | (with_reducible exact Below.refl _ _) | (with_reducible apply Below.drew) | (with_reducible refine below_drewN ?_ _) | (refine Below.setCell ?_ (by simp <;> omega) _) | (refine Below.alloc ?_ (by simp <;> omega) _)) : Below w13.heap.size w13 _)
            have hr14 : w13.heap.size ≤ w14.heap.size := Nat.le_trans (by first | exact Nat.le_refl _ | (simp; done) | (simp; omega) | (simp [World.setCell]; done) | (simp [World.setCell]; omega)) hw14.size
            have sz14_paG : w.heap.size < w14.heap.size := Nat.lt_of_lt_of_le sz13_paG hst14.size
            have bx14_paG_0 : w14.cell? ⟨w.heap.size, 0, none⟩ = some (.slice a0_vG vG.fSymbols.length c0_vG) := (World.cell?_of_block (a := ⟨w.heap.size, 0, none⟩) (hst14.block (w.heap.size) sz13_paG (fun hf => by have h1 := hf.1; have h2 := hf.2; omega))).trans bx13_paG_0
            have bx14_paG_1 : w14.cell? ⟨w.heap.size, 1, none⟩ = some (.slice a1_vG vG.fRules.length c1_vG) := (World.cell?_of_block (a := ⟨w.heap.size, 1, none⟩) (hst14.block (w.heap.size) sz13_paG (fun hf => by have h1 := hf.1; have h2 := hf.2; omega))).trans bx13_paG_1
            have sz14_paR : w.heap.size + 1 < w14.heap.size := Nat.lt_of_lt_of_le sz13_paR hst14.size
            have bx14_paR_0 : w14.cell? ⟨w.heap.size + 1, 0, none⟩ = some (.string vR.fName) := (World.cell?_of_block (a := ⟨w.heap.size + 1, 0, none⟩) (hst14.block (w.heap.size + 1) sz13_paR (fun hf => by have h1 := hf.1; have h2 := hf.2; omega))).trans bx13_paR_0
            have bx14_paR_1 : w14.cell? ⟨w.heap.size + 1, 1, none⟩ = some (.string vR.fLeft) := (World.cell?_of_block (a := ⟨w.heap.size + 1, 1, none⟩) (hst14.block (w.heap.size + 1) sz13_paR (fun hf => by have h1 := hf.1; have h2 := hf.2; omega))).trans bx13_paR_1
            have bx14_paR_2 : w14.cell? ⟨w.heap.size + 1, 2, none⟩ = some (.slice a2_vR vR.fRight.length c2_vR) := (World.cell?_of_block (a := ⟨w.heap.size + 1, 2, none⟩) (hst14.block (w.heap.size + 1) sz13_paR (fun hf => by have h1 := hf.1; have h2 := hf.2; omega))).trans bx13_paR_2
            have bx14_paR_3 : w14.cell? ⟨w.heap.size + 1, 3, none⟩ = some (.bool vR.fLiteral) := (World.cell?_of_block (a := ⟨w.heap.size + 1, 3, none⟩) (hst14.block (w.heap.size + 1) sz13_paR (fun hf => by have h1 := hf.1; have h2 := hf.2; omega))).trans bx13_paR_3
            have bx14_paR_4 : w14.cell? ⟨w.heap.size + 1, 4, none⟩ = some (.slice a4_vR vR.fEquations.length c4_vR) := (World.cell?_of_block (a := ⟨w.heap.size + 1, 4, none⟩) (hst14.block (w.heap.size + 1) sz13_paR (fun hf => by have h1 := hf.1; have h2 := hf.2; omega))).trans bx13_paR_4
            have bx14_paR_5 : w14.cell? ⟨w.heap.size + 1, 5, none⟩ = some (.slice a5_vR vR.fContributions.length c5_vR) := (World.cell?_of_block (a := ⟨w.heap.size + 1, 5, none⟩) (hst14.block (w.heap.size + 1) sz13_paR (fun hf => by have h1 := hf.1; have h2 := hf.2; omega))).trans bx13_paR_5
            have sz14_w0 : bV5 < w14.heap.size := Nat.lt_of_lt_of_le sz13_w0 hst14.size
            have bx14_w0_0 : w14.cell? ⟨bV5, 0, none⟩ = some (.int .i64 (locRel vG vR).fN) := (World.cell?_of_block (a := ⟨bV5, 0, none⟩) (hst14.block (bV5) sz13_w0 (fun hf => by have h1 := hf.1; have h2 := hf.2; omega))).trans bx13_w0_0
            have bx14_w0_1 : w14.cell? ⟨bV5, 1, none⟩ = some (.slice a1_R_5 (locRel vG vR).fRows.length c1_R_5) := (World.cell?_of_block (a := ⟨bV5, 1, none⟩) (hst14.block (bV5) sz13_w0 (fun hf => by have h1 := hf.1; have h2 := hf.2; omega))).trans bx13_w0_1
            have sz14_x0 : w6.heap.size < w14.heap.size := Nat.lt_of_lt_of_le sz13_x0 hst14.size
            have bx14_x0_0 : w14.cell? ⟨w6.heap.size, 0, none⟩ = some (.slice a0_vG_6 vG.fSymbols.length c0_vG_6) := (World.cell?_of_block (a := ⟨w6.heap.size, 0, none⟩) (hst14.block (w6.heap.size) sz13_x0 (fun hf => by have h1 := hf.1; have h2 := hf.2; omega))).trans bx13_x0_0
            have bx14_x0_1 : w14.cell? ⟨w6.heap.size, 1, none⟩ = some (.slice a1_vG_6 vG.fRules.length c1_vG_6) := (World.cell?_of_block (a := ⟨w6.heap.size, 1, none⟩) (hst14.block (w6.heap.size) sz13_x0 (fun hf => by have h1 := hf.1; have h2 := hf.2; omega))).trans bx13_x0_1
            have sz14_x1 : w7.heap.size < w14.heap.size := Nat.lt_of_lt_of_le sz13_x1 hst14.size
            have bx14_x1_0 : w14.cell? ⟨w7.heap.size, 0, none⟩ = some (.string vR.fName) := (World.cell?_of_block (a := ⟨w7.heap.size, 0, none⟩) (hst14.block (w7.heap.size) sz13_x1 (fun hf => by have h1 := hf.1; have h2 := hf.2; omega))).trans bx13_x1_0
            have bx14_x1_1 : w14.cell? ⟨w7.heap.size, 1, none⟩ = some (.string vR.fLeft) := (World.cell?_of_block (a := ⟨w7.heap.size, 1, none⟩) (hst14.block (w7.heap.size) sz13_x1 (fun hf => by have h1 := hf.1; have h2 := hf.2; omega))).trans bx13_x1_1
            have bx14_x1_2 : w14.cell? ⟨w7.heap.size, 2, none⟩ = some (.slice a2_vR_7 vR.fRight.length c2_vR_7) := (World.cell?_of_block (a := ⟨w7.heap.size, 2, none⟩) (hst14.block (w7.heap.size) sz13_x1 (fun hf => by have h1 := hf.1; have h2 := hf.2; omega))).trans bx13_x1_2
            have bx14_x1_3 : w14.cell? ⟨w7.heap.size, 3, none⟩ = some (.bool vR.fLiteral) := (World.cell?_of_block (a := ⟨w7.heap.size, 3, none⟩) (hst14.block (w7.heap.size) sz13_x1 (fun hf => by have h1 := hf.1; have h2 := hf.2; omega))).trans bx13_x1_3
            have bx14_x1_4 : w14.cell? ⟨w7.heap.size, 4, none⟩ = some (.slice a4_vR_7 vR.fEquations.length c4_vR_7) := (World.cell?_of_block (a := ⟨w7.heap.size, 4, none⟩) (hst14.block (w7.heap.size) sz13_x1 (fun hf => by have h1 := hf.1; have h2 := hf.2; omega))).trans bx13_x1_4
            have bx14_x1_5 : w14.cell? ⟨w7.heap.size, 5, none⟩ = some (.slice a5_vR_7 vR.fContributions.length c5_vR_7) := (World.cell?_of_block (a := ⟨w7.heap.size, 5, none⟩) (hst14.block (w7.heap.size) sz13_x1 (fun hf => by have h1 := hf.1; have h2 := hf.2; omega))).trans bx13_x1_5
            have sz14_g0 : w8.heap.size < w14.heap.size := Nat.lt_of_lt_of_le sz13_g0 hst14.size
            have bx14_g0_0 : w14.cell? ⟨w8.heap.size, 0, none⟩ = some (.int .i64 (locRel vG vR).fN) := (World.cell?_of_block (a := ⟨w8.heap.size, 0, none⟩) (hst14.block (w8.heap.size) sz13_g0 (fun hf => by have h1 := hf.1; have h2 := hf.2; omega))).trans bx13_g0_0
            have bx14_g0_1 : w14.cell? ⟨w8.heap.size, 1, none⟩ = some (.slice a1_R_8 (locRel vG vR).fRows.length c1_R_8) := (World.cell?_of_block (a := ⟨w8.heap.size, 1, none⟩) (hst14.block (w8.heap.size) sz13_g0 (fun hf => by have h1 := hf.1; have h2 := hf.2; omega))).trans bx13_g0_1
            have HO14_1_R_5 := Lib.hid (HO13_1_R_5.out.kept (hst14.kept (fun y hy hf => by have h1 := hy.1; have h2 := hy.2; have h3 := hf.1; have h4 := hf.2; omega)))
            have HO14_2_vR_7 := Lib.hid (HO13_2_vR_7.out.kept (hst14.kept (fun y hy hf => by have h1 := hy.1; have h2 := hy.2; have h3 := hf.1; have h4 := hf.2; omega)))
            have HO14_4_vR_7 := Lib.hid (HO13_4_vR_7.out.kept (hst14.kept (fun y hy hf => by have h1 := hy.1; have h2 := hy.2; have h3 := hf.1; have h4 := hf.2; omega)))
            have HO14_5_vR_7 := Lib.hid (HO13_5_vR_7.out.kept (hst14.kept (fun y hy hf => by have h1 := hy.1; have h2 := hy.2; have h3 := hf.1; have h4 := hf.2; omega)))
            have HO14_1_R_8 := Lib.hid (HO13_1_R_8.out.kept (hst14.kept (fun y hy hf => by have h1 := hy.1; have h2 := hy.2; have h3 := hf.1; have h4 := hf.2; omega)))
            have HO14_0_vG_10 := Lib.hid (HO13_0_vG_10.out.kept (hst14.kept (fun y hy hf => by have h1 := hy.1; have h2 := hy.2; have h3 := hf.1; have h4 := hf.2; omega)))
            have HO14_1_vG_10 := Lib.hid (HO13_1_vG_10.out.kept (hst14.kept (fun y hy hf => by have h1 := hy.1; have h2 := hy.2; have h3 := hf.1; have h4 := hf.2; omega)))
            have HO14_2_vR_12 := Lib.hid (HO13_2_vR_12.out.kept (hst14.kept (fun y hy hf => by have h1 := hy.1; have h2 := hy.2; have h3 := hf.1; have h4 := hf.2; omega)))
            have HO14_4_vR_12 := Lib.hid (HO13_4_vR_12.out.kept (hst14.kept (fun y hy hf => by have h1 := hy.1; have h2 := hy.2; have h3 := hf.1; have h4 := hf.2; omega)))
            have HO14_5_vR_12 := Lib.hid (HO13_5_vR_12.out.kept (hst14.kept (fun y hy hf => by have h1 := hy.1; have h2 := hy.2; have h3 := hf.1; have h4 := hf.2; omega)))
            have HR14_vR_7 := Lib.hid (HR13_vR_7.out.kept (hst14.kept (fun y hy hf => by have h1 := hy.1; have h2 := hy.2; have h3 := hf.1; have h4 := hf.2; omega)))
            have HB14 := Lib.hid (HB13.out.trans (hst14.below (fun y hy => by have := hy.1; omega) HB13.out.size))
            clear bx13_paG_0 bx13_paG_1 sz13_paG bx13_paR_0 bx13_paR_1 bx13_paR_2 bx13_paR_3 bx13_paR_4 bx13_paR_5 sz13_paR bx13_w0_0 bx13_w0_1 sz13_w0 bx13_x0_0 bx13_x0_1 sz13_x0 bx13_x1_0 bx13_x1_1 bx13_x1_2 bx13_x1_3 bx13_x1_4 bx13_x1_5 sz13_x1 bx13_g0_0 bx13_g0_1 sz13_g0 HO13_0_vG_6 HO13_1_vG_6 HO13_1_R_5 HO13_2_vR_7 HO13_4_vR_7 HO13_5_vR_7 HO13_1_R_8 HO13_0_vG_10 HO13_1_vG_10 HO13_2_vR_12 HO13_4_vR_12 HO13_5_vR_12 HR13_vG_6 HR13_vR_7 hw14 hst14 HB13
            go_wp2_with fail
            refine (wmark_Rule (c2 := c2_vR_7) (c4 := c4_vR_7) (c5 := c5_vR_7) vR hq_vR k14 (by omega) (by omega) _ (fun y hy => Nat.lt_of_lt_of_le (show y < w14.heap.size by have := hy.2; omega) (Below.size (by repeat (first | (with_reducible exact Below.refl _ _) | (with_reducible apply Below.drew) | (with_reducible refine below_drewN ?_ _) | (refine Below.setCell ?_ (by simp <;> omega) _) | (refine Below.alloc ?_ (by simp <;> omega) _)) : Below w14.heap.size w14 _))) (HR14_vR_7.out.kept (Kept.of_below (by repeat (first | (with_reducible exact Below.refl _ _) | (with_reducible apply Below.drew) | (with_reducible refine below_drewN ?_ _) | (refine Below.setCell ?_ (by simp <;> omega) _) | (refine Below.alloc ?_ (by simp <;> omega) _)) : Below w14.heap.size w14 _) (fun y hy => by have := hy.2; omega)))).mono ?_
            rintro e w15 ⟨k15, rfl, hka15, hkb15, hw15⟩
            have hkz15 : 1 ≤ k15 ∧ k15 ≤ 4294967296 := by omega
            have hst15 : WritesF (fun y => w6.heap.size + 1 ≤ y ∧ y < w7.heap.size) w14 w15 := hw15.of_below (by repeat (first | (with_reducible exact Below.refl _ _) | (with_reducible apply Below.drew) | (with_reducible refine below_drewN ?_ _) | (refine Below.setCell ?_ (by simp <;> omega) _) | (refine Below.alloc ?_ (by simp <;> omega) _)) : Below w14.heap.size w14 _)
            have hr15 : w14.heap.size ≤ w15.heap.size := Nat.le_trans (by first | exact Nat.le_refl _ | (simp; done) | (simp; omega) | (simp [World.setCell]; done) | (simp [World.setCell]; omega)) hw15.size
            have sz15_paG : w.heap.size < w15.heap.size := Nat.lt_of_lt_of_le sz14_paG hst15.size
            have bx15_paG_0 : w15.cell? ⟨w.heap.size, 0, none⟩ = some (.slice a0_vG vG.fSymbols.length c0_vG) := (World.cell?_of_block (a := ⟨w.heap.size, 0, none⟩) (hst15.block (w.heap.size) sz14_paG (fun hf => by have h1 := hf.1; have h2 := hf.2; omega))).trans bx14_paG_0
            have bx15_paG_1 : w15.cell? ⟨w.heap.size, 1, none⟩ = some (.slice a1_vG vG.fRules.length c1_vG) := (World.cell?_of_block (a := ⟨w.heap.size, 1, none⟩) (hst15.block (w.heap.size) sz14_paG (fun hf => by have h1 := hf.1; have h2 := hf.2; omega))).trans bx14_paG_1
            have sz15_paR : w.heap.size + 1 < w15.heap.size := Nat.lt_of_lt_of_le sz14_paR hst15.size
            have bx15_paR_0 : w15.cell? ⟨w.heap.size + 1, 0, none⟩ = some (.string vR.fName) := (World.cell?_of_block (a := ⟨w.heap.size + 1, 0, none⟩) (hst15.block (w.heap.size + 1) sz14_paR (fun hf => by have h1 := hf.1; have h2 := hf.2; omega))).trans bx14_paR_0
            have bx15_paR_1 : w15.cell? ⟨w.heap.size + 1, 1, none⟩ = some (.string vR.fLeft) := (World.cell?_of_block (a := ⟨w.heap.size + 1, 1, none⟩) (hst15.block (w.heap.size + 1) sz14_paR (fun hf => by have h1 := hf.1; have h2 := hf.2; omega))).trans bx14_paR_1
            have bx15_paR_2 : w15.cell? ⟨w.heap.size + 1, 2, none⟩ = some (.slice a2_vR vR.fRight.length c2_vR) := (World.cell?_of_block (a := ⟨w.heap.size + 1, 2, none⟩) (hst15.block (w.heap.size + 1) sz14_paR (fun hf => by have h1 := hf.1; have h2 := hf.2; omega))).trans bx14_paR_2
            have bx15_paR_3 : w15.cell? ⟨w.heap.size + 1, 3, none⟩ = some (.bool vR.fLiteral) := (World.cell?_of_block (a := ⟨w.heap.size + 1, 3, none⟩) (hst15.block (w.heap.size + 1) sz14_paR (fun hf => by have h1 := hf.1; have h2 := hf.2; omega))).trans bx14_paR_3
            have bx15_paR_4 : w15.cell? ⟨w.heap.size + 1, 4, none⟩ = some (.slice a4_vR vR.fEquations.length c4_vR) := (World.cell?_of_block (a := ⟨w.heap.size + 1, 4, none⟩) (hst15.block (w.heap.size + 1) sz14_paR (fun hf => by have h1 := hf.1; have h2 := hf.2; omega))).trans bx14_paR_4
            have bx15_paR_5 : w15.cell? ⟨w.heap.size + 1, 5, none⟩ = some (.slice a5_vR vR.fContributions.length c5_vR) := (World.cell?_of_block (a := ⟨w.heap.size + 1, 5, none⟩) (hst15.block (w.heap.size + 1) sz14_paR (fun hf => by have h1 := hf.1; have h2 := hf.2; omega))).trans bx14_paR_5
            have sz15_w0 : bV5 < w15.heap.size := Nat.lt_of_lt_of_le sz14_w0 hst15.size
            have bx15_w0_0 : w15.cell? ⟨bV5, 0, none⟩ = some (.int .i64 (locRel vG vR).fN) := (World.cell?_of_block (a := ⟨bV5, 0, none⟩) (hst15.block (bV5) sz14_w0 (fun hf => by have h1 := hf.1; have h2 := hf.2; omega))).trans bx14_w0_0
            have bx15_w0_1 : w15.cell? ⟨bV5, 1, none⟩ = some (.slice a1_R_5 (locRel vG vR).fRows.length c1_R_5) := (World.cell?_of_block (a := ⟨bV5, 1, none⟩) (hst15.block (bV5) sz14_w0 (fun hf => by have h1 := hf.1; have h2 := hf.2; omega))).trans bx14_w0_1
            have sz15_x0 : w6.heap.size < w15.heap.size := Nat.lt_of_lt_of_le sz14_x0 hst15.size
            have bx15_x0_0 : w15.cell? ⟨w6.heap.size, 0, none⟩ = some (.slice a0_vG_6 vG.fSymbols.length c0_vG_6) := (World.cell?_of_block (a := ⟨w6.heap.size, 0, none⟩) (hst15.block (w6.heap.size) sz14_x0 (fun hf => by have h1 := hf.1; have h2 := hf.2; omega))).trans bx14_x0_0
            have bx15_x0_1 : w15.cell? ⟨w6.heap.size, 1, none⟩ = some (.slice a1_vG_6 vG.fRules.length c1_vG_6) := (World.cell?_of_block (a := ⟨w6.heap.size, 1, none⟩) (hst15.block (w6.heap.size) sz14_x0 (fun hf => by have h1 := hf.1; have h2 := hf.2; omega))).trans bx14_x0_1
            have sz15_x1 : w7.heap.size < w15.heap.size := Nat.lt_of_lt_of_le sz14_x1 hst15.size
            have bx15_x1_0 : w15.cell? ⟨w7.heap.size, 0, none⟩ = some (.string vR.fName) := (World.cell?_of_block (a := ⟨w7.heap.size, 0, none⟩) (hst15.block (w7.heap.size) sz14_x1 (fun hf => by have h1 := hf.1; have h2 := hf.2; omega))).trans bx14_x1_0
            have bx15_x1_1 : w15.cell? ⟨w7.heap.size, 1, none⟩ = some (.string vR.fLeft) := (World.cell?_of_block (a := ⟨w7.heap.size, 1, none⟩) (hst15.block (w7.heap.size) sz14_x1 (fun hf => by have h1 := hf.1; have h2 := hf.2; omega))).trans bx14_x1_1
            have bx15_x1_2 : w15.cell? ⟨w7.heap.size, 2, none⟩ = some (.slice a2_vR_7 vR.fRight.length c2_vR_7) := (World.cell?_of_block (a := ⟨w7.heap.size, 2, none⟩) (hst15.block (w7.heap.size) sz14_x1 (fun hf => by have h1 := hf.1; have h2 := hf.2; omega))).trans bx14_x1_2
            have bx15_x1_3 : w15.cell? ⟨w7.heap.size, 3, none⟩ = some (.bool vR.fLiteral) := (World.cell?_of_block (a := ⟨w7.heap.size, 3, none⟩) (hst15.block (w7.heap.size) sz14_x1 (fun hf => by have h1 := hf.1; have h2 := hf.2; omega))).trans bx14_x1_3
            have bx15_x1_4 : w15.cell? ⟨w7.heap.size, 4, none⟩ = some (.slice a4_vR_7 vR.fEquations.length c4_vR_7) := (World.cell?_of_block (a := ⟨w7.heap.size, 4, none⟩) (hst15.block (w7.heap.size) sz14_x1 (fun hf => by have h1 := hf.1; have h2 := hf.2; omega))).trans bx14_x1_4
            have bx15_x1_5 : w15.cell? ⟨w7.heap.size, 5, none⟩ = some (.slice a5_vR_7 vR.fContributions.length c5_vR_7) := (World.cell?_of_block (a := ⟨w7.heap.size, 5, none⟩) (hst15.block (w7.heap.size) sz14_x1 (fun hf => by have h1 := hf.1; have h2 := hf.2; omega))).trans bx14_x1_5
            have sz15_g0 : w8.heap.size < w15.heap.size := Nat.lt_of_lt_of_le sz14_g0 hst15.size
            have bx15_g0_0 : w15.cell? ⟨w8.heap.size, 0, none⟩ = some (.int .i64 (locRel vG vR).fN) := (World.cell?_of_block (a := ⟨w8.heap.size, 0, none⟩) (hst15.block (w8.heap.size) sz14_g0 (fun hf => by have h1 := hf.1; have h2 := hf.2; omega))).trans bx14_g0_0
            have bx15_g0_1 : w15.cell? ⟨w8.heap.size, 1, none⟩ = some (.slice a1_R_8 (locRel vG vR).fRows.length c1_R_8) := (World.cell?_of_block (a := ⟨w8.heap.size, 1, none⟩) (hst15.block (w8.heap.size) sz14_g0 (fun hf => by have h1 := hf.1; have h2 := hf.2; omega))).trans bx14_g0_1
            have HO15_1_R_5 := Lib.hid (HO14_1_R_5.out.kept (hst15.kept (fun y hy hf => by have h1 := hy.1; have h2 := hy.2; have h3 := hf.1; have h4 := hf.2; omega)))
            have HO15_1_R_8 := Lib.hid (HO14_1_R_8.out.kept (hst15.kept (fun y hy hf => by have h1 := hy.1; have h2 := hy.2; have h3 := hf.1; have h4 := hf.2; omega)))
            have HO15_0_vG_10 := Lib.hid (HO14_0_vG_10.out.kept (hst15.kept (fun y hy hf => by have h1 := hy.1; have h2 := hy.2; have h3 := hf.1; have h4 := hf.2; omega)))
            have HO15_1_vG_10 := Lib.hid (HO14_1_vG_10.out.kept (hst15.kept (fun y hy hf => by have h1 := hy.1; have h2 := hy.2; have h3 := hf.1; have h4 := hf.2; omega)))
            have HO15_2_vR_12 := Lib.hid (HO14_2_vR_12.out.kept (hst15.kept (fun y hy hf => by have h1 := hy.1; have h2 := hy.2; have h3 := hf.1; have h4 := hf.2; omega)))
            have HO15_4_vR_12 := Lib.hid (HO14_4_vR_12.out.kept (hst15.kept (fun y hy hf => by have h1 := hy.1; have h2 := hy.2; have h3 := hf.1; have h4 := hf.2; omega)))
            have HO15_5_vR_12 := Lib.hid (HO14_5_vR_12.out.kept (hst15.kept (fun y hy hf => by have h1 := hy.1; have h2 := hy.2; have h3 := hf.1; have h4 := hf.2; omega)))
            have HB15 := Lib.hid (HB14.out.trans (hst15.below (fun y hy => by have := hy.1; omega) HB14.out.size))
            clear bx14_paG_0 bx14_paG_1 sz14_paG bx14_paR_0 bx14_paR_1 bx14_paR_2 bx14_paR_3 bx14_paR_4 bx14_paR_5 sz14_paR bx14_w0_0 bx14_w0_1 sz14_w0 bx14_x0_0 bx14_x0_1 sz14_x0 bx14_x1_0 bx14_x1_1 bx14_x1_2 bx14_x1_3 bx14_x1_4 bx14_x1_5 sz14_x1 bx14_g0_0 bx14_g0_1 sz14_g0 HO14_2_vR_7 HO14_4_vR_7 HO14_5_vR_7 HO14_1_R_5 HO14_1_R_8 HO14_0_vG_10 HO14_1_vG_10 HO14_2_vR_12 HO14_4_vR_12 HO14_5_vR_12 HR14_vR_7 hw15 hst15 HB14
            go_wp2_with fail
            refine (laws_eqRelation (c1 := c1_R_8) (c1q := c1_R_5) (locRel vG vR) hq_R _ (Below.size (by repeat (first | (with_reducible exact Below.refl _ _) | (with_reducible apply Below.drew) | (with_reducible refine below_drewN ?_ _) | (refine Below.setCell ?_ (by simp <;> omega) _) | (refine Below.alloc ?_ (by simp <;> omega) _)) : Below w15.heap.size w15 _)) (Below.size (by repeat (first | (with_reducible exact Below.refl _ _) | (with_reducible apply Below.drew) | (with_reducible refine below_drewN ?_ _) | (refine Below.setCell ?_ (by simp <;> omega) _) | (refine Below.alloc ?_ (by simp <;> omega) _)) : Below w15.heap.size w15 _)) ((Sl.of (HO15_1_R_8.out.lies (lo := 0) (hi := w15.heap.size) (fun y hy => ⟨Nat.zero_le _, by have := hy.2; omega⟩))).later (by repeat (first | (with_reducible exact Below.refl _ _) | (with_reducible apply Below.drew) | (with_reducible refine below_drewN ?_ _) | (refine Below.setCell ?_ (by simp <;> omega) _) | (refine Below.alloc ?_ (by simp <;> omega) _)) : Below w15.heap.size w15 _) (Nat.le_refl _)) ((Sl.of (HO15_1_R_5.out.lies (lo := 0) (hi := w15.heap.size) (fun y hy => ⟨Nat.zero_le _, by have := hy.2; omega⟩))).later (by repeat (first | (with_reducible exact Below.refl _ _) | (with_reducible apply Below.drew) | (with_reducible refine below_drewN ?_ _) | (refine Below.setCell ?_ (by simp <;> omega) _) | (refine Below.alloc ?_ (by simp <;> omega) _)) : Below w15.heap.size w15 _) (Nat.le_refl _))).mono ?_
            rintro e w16 ⟨rfl, hb16⟩
            have hst16 : Below w15.heap.size w15 w16 := Below.trans (by repeat (first | (with_reducible exact Below.refl _ _) | (with_reducible apply Below.drew) | (with_reducible refine below_drewN ?_ _) | (refine Below.setCell ?_ (by simp <;> omega) _) | (refine Below.alloc ?_ (by simp <;> omega) _)) : Below w15.heap.size w15 _) (hb16.mono (Below.size (by repeat (first | (with_reducible exact Below.refl _ _) | (with_reducible apply Below.drew) | (with_reducible refine below_drewN ?_ _) | (refine Below.setCell ?_ (by simp <;> omega) _) | (refine Below.alloc ?_ (by simp <;> omega) _)) : Below w15.heap.size w15 _)))
            have hr16 : w15.heap.size ≤ w16.heap.size := Nat.le_trans (by first | exact Nat.le_refl _ | (simp; done) | (simp; omega) | (simp [World.setCell]; done) | (simp [World.setCell]; omega)) hb16.size
            have sz16_paG : w.heap.size < w16.heap.size := Nat.lt_of_lt_of_le sz15_paG hst16.size
            have bx16_paG_0 : w16.cell? ⟨w.heap.size, 0, none⟩ = some (.slice a0_vG vG.fSymbols.length c0_vG) := (hst16.cell (p := ⟨w.heap.size, 0, none⟩) sz15_paG).trans bx15_paG_0
            have bx16_paG_1 : w16.cell? ⟨w.heap.size, 1, none⟩ = some (.slice a1_vG vG.fRules.length c1_vG) := (hst16.cell (p := ⟨w.heap.size, 1, none⟩) sz15_paG).trans bx15_paG_1
            have sz16_paR : w.heap.size + 1 < w16.heap.size := Nat.lt_of_lt_of_le sz15_paR hst16.size
            have bx16_paR_0 : w16.cell? ⟨w.heap.size + 1, 0, none⟩ = some (.string vR.fName) := (hst16.cell (p := ⟨w.heap.size + 1, 0, none⟩) sz15_paR).trans bx15_paR_0
            have bx16_paR_1 : w16.cell? ⟨w.heap.size + 1, 1, none⟩ = some (.string vR.fLeft) := (hst16.cell (p := ⟨w.heap.size + 1, 1, none⟩) sz15_paR).trans bx15_paR_1
            have bx16_paR_2 : w16.cell? ⟨w.heap.size + 1, 2, none⟩ = some (.slice a2_vR vR.fRight.length c2_vR) := (hst16.cell (p := ⟨w.heap.size + 1, 2, none⟩) sz15_paR).trans bx15_paR_2
            have bx16_paR_3 : w16.cell? ⟨w.heap.size + 1, 3, none⟩ = some (.bool vR.fLiteral) := (hst16.cell (p := ⟨w.heap.size + 1, 3, none⟩) sz15_paR).trans bx15_paR_3
            have bx16_paR_4 : w16.cell? ⟨w.heap.size + 1, 4, none⟩ = some (.slice a4_vR vR.fEquations.length c4_vR) := (hst16.cell (p := ⟨w.heap.size + 1, 4, none⟩) sz15_paR).trans bx15_paR_4
            have bx16_paR_5 : w16.cell? ⟨w.heap.size + 1, 5, none⟩ = some (.slice a5_vR vR.fContributions.length c5_vR) := (hst16.cell (p := ⟨w.heap.size + 1, 5, none⟩) sz15_paR).trans bx15_paR_5
            have sz16_w0 : bV5 < w16.heap.size := Nat.lt_of_lt_of_le sz15_w0 hst16.size
            have bx16_w0_0 : w16.cell? ⟨bV5, 0, none⟩ = some (.int .i64 (locRel vG vR).fN) := (hst16.cell (p := ⟨bV5, 0, none⟩) sz15_w0).trans bx15_w0_0
            have bx16_w0_1 : w16.cell? ⟨bV5, 1, none⟩ = some (.slice a1_R_5 (locRel vG vR).fRows.length c1_R_5) := (hst16.cell (p := ⟨bV5, 1, none⟩) sz15_w0).trans bx15_w0_1
            have sz16_x0 : w6.heap.size < w16.heap.size := Nat.lt_of_lt_of_le sz15_x0 hst16.size
            have bx16_x0_0 : w16.cell? ⟨w6.heap.size, 0, none⟩ = some (.slice a0_vG_6 vG.fSymbols.length c0_vG_6) := (hst16.cell (p := ⟨w6.heap.size, 0, none⟩) sz15_x0).trans bx15_x0_0
            have bx16_x0_1 : w16.cell? ⟨w6.heap.size, 1, none⟩ = some (.slice a1_vG_6 vG.fRules.length c1_vG_6) := (hst16.cell (p := ⟨w6.heap.size, 1, none⟩) sz15_x0).trans bx15_x0_1
            have sz16_x1 : w7.heap.size < w16.heap.size := Nat.lt_of_lt_of_le sz15_x1 hst16.size
            have bx16_x1_0 : w16.cell? ⟨w7.heap.size, 0, none⟩ = some (.string vR.fName) := (hst16.cell (p := ⟨w7.heap.size, 0, none⟩) sz15_x1).trans bx15_x1_0
            have bx16_x1_1 : w16.cell? ⟨w7.heap.size, 1, none⟩ = some (.string vR.fLeft) := (hst16.cell (p := ⟨w7.heap.size, 1, none⟩) sz15_x1).trans bx15_x1_1
            have bx16_x1_2 : w16.cell? ⟨w7.heap.size, 2, none⟩ = some (.slice a2_vR_7 vR.fRight.length c2_vR_7) := (hst16.cell (p := ⟨w7.heap.size, 2, none⟩) sz15_x1).trans bx15_x1_2
            have bx16_x1_3 : w16.cell? ⟨w7.heap.size, 3, none⟩ = some (.bool vR.fLiteral) := (hst16.cell (p := ⟨w7.heap.size, 3, none⟩) sz15_x1).trans bx15_x1_3
            have bx16_x1_4 : w16.cell? ⟨w7.heap.size, 4, none⟩ = some (.slice a4_vR_7 vR.fEquations.length c4_vR_7) := (hst16.cell (p := ⟨w7.heap.size, 4, none⟩) sz15_x1).trans bx15_x1_4
            have bx16_x1_5 : w16.cell? ⟨w7.heap.size, 5, none⟩ = some (.slice a5_vR_7 vR.fContributions.length c5_vR_7) := (hst16.cell (p := ⟨w7.heap.size, 5, none⟩) sz15_x1).trans bx15_x1_5
            have sz16_g0 : w8.heap.size < w16.heap.size := Nat.lt_of_lt_of_le sz15_g0 hst16.size
            have bx16_g0_0 : w16.cell? ⟨w8.heap.size, 0, none⟩ = some (.int .i64 (locRel vG vR).fN) := (hst16.cell (p := ⟨w8.heap.size, 0, none⟩) sz15_g0).trans bx15_g0_0
            have bx16_g0_1 : w16.cell? ⟨w8.heap.size, 1, none⟩ = some (.slice a1_R_8 (locRel vG vR).fRows.length c1_R_8) := (hst16.cell (p := ⟨w8.heap.size, 1, none⟩) sz15_g0).trans bx15_g0_1
            have HO16_1_R_5 := Lib.hid (HO15_1_R_5.out.kept (Kept.of_below_all hst16))
            have HO16_1_R_8 := Lib.hid (HO15_1_R_8.out.kept (Kept.of_below_all hst16))
            have HO16_0_vG_10 := Lib.hid (HO15_0_vG_10.out.kept (Kept.of_below_all hst16))
            have HO16_1_vG_10 := Lib.hid (HO15_1_vG_10.out.kept (Kept.of_below_all hst16))
            have HO16_2_vR_12 := Lib.hid (HO15_2_vR_12.out.kept (Kept.of_below_all hst16))
            have HO16_4_vR_12 := Lib.hid (HO15_4_vR_12.out.kept (Kept.of_below_all hst16))
            have HO16_5_vR_12 := Lib.hid (HO15_5_vR_12.out.kept (Kept.of_below_all hst16))
            have HB16 := Lib.hid (HB15.out.trans (hst16.mono HB15.out.size))
            clear bx15_paG_0 bx15_paG_1 sz15_paG bx15_paR_0 bx15_paR_1 bx15_paR_2 bx15_paR_3 bx15_paR_4 bx15_paR_5 sz15_paR bx15_w0_0 bx15_w0_1 sz15_w0 bx15_x0_0 bx15_x0_1 sz15_x0 bx15_x1_0 bx15_x1_1 bx15_x1_2 bx15_x1_3 bx15_x1_4 bx15_x1_5 sz15_x1 bx15_g0_0 bx15_g0_1 sz15_g0 HO15_1_R_5 HO15_1_R_8 HO15_0_vG_10 HO15_1_vG_10 HO15_2_vR_12 HO15_4_vR_12 HO15_5_vR_12 hb16 hst16 HB15
            go_wp2_with fail
            refine (laws_markRelation (c1 := c1_R_8) (locRel vG vR) (by have h1 := locRel_len vG vR; omega) 1 (by have h1 := locRel_len vG vR; omega) _ (fun y hy => Nat.lt_of_lt_of_le (show y < w16.heap.size by have := hy.2; omega) (Below.size (by repeat (first | (with_reducible exact Below.refl _ _) | (with_reducible apply Below.drew) | (with_reducible refine below_drewN ?_ _) | (refine Below.setCell ?_ (by simp <;> omega) _) | (refine Below.alloc ?_ (by simp <;> omega) _)) : Below w16.heap.size w16 _))) (HO16_1_R_8.out.kept (Kept.of_below (by repeat (first | (with_reducible exact Below.refl _ _) | (with_reducible apply Below.drew) | (with_reducible refine below_drewN ?_ _) | (refine Below.setCell ?_ (by simp <;> omega) _) | (refine Below.alloc ?_ (by simp <;> omega) _)) : Below w16.heap.size w16 _) (fun y hy => by have := hy.2; omega)))).mono ?_
            rintro e w17 ⟨rfl, ho17, hw17⟩
            have hst17 : WritesF (fun y => w7.heap.size + 1 ≤ y ∧ y < w8.heap.size) w16 w17 := hw17.of_below (by repeat (first | (with_reducible exact Below.refl _ _) | (with_reducible apply Below.drew) | (with_reducible refine below_drewN ?_ _) | (refine Below.setCell ?_ (by simp <;> omega) _) | (refine Below.alloc ?_ (by simp <;> omega) _)) : Below w16.heap.size w16 _)
            have hr17 : w16.heap.size ≤ w17.heap.size := Nat.le_trans (by first | exact Nat.le_refl _ | (simp; done) | (simp; omega) | (simp [World.setCell]; done) | (simp [World.setCell]; omega)) hw17.size
            have sz17_paG : w.heap.size < w17.heap.size := Nat.lt_of_lt_of_le sz16_paG hst17.size
            have bx17_paG_0 : w17.cell? ⟨w.heap.size, 0, none⟩ = some (.slice a0_vG vG.fSymbols.length c0_vG) := (World.cell?_of_block (a := ⟨w.heap.size, 0, none⟩) (hst17.block (w.heap.size) sz16_paG (fun hf => by have h1 := hf.1; have h2 := hf.2; omega))).trans bx16_paG_0
            have bx17_paG_1 : w17.cell? ⟨w.heap.size, 1, none⟩ = some (.slice a1_vG vG.fRules.length c1_vG) := (World.cell?_of_block (a := ⟨w.heap.size, 1, none⟩) (hst17.block (w.heap.size) sz16_paG (fun hf => by have h1 := hf.1; have h2 := hf.2; omega))).trans bx16_paG_1
            have sz17_paR : w.heap.size + 1 < w17.heap.size := Nat.lt_of_lt_of_le sz16_paR hst17.size
            have bx17_paR_0 : w17.cell? ⟨w.heap.size + 1, 0, none⟩ = some (.string vR.fName) := (World.cell?_of_block (a := ⟨w.heap.size + 1, 0, none⟩) (hst17.block (w.heap.size + 1) sz16_paR (fun hf => by have h1 := hf.1; have h2 := hf.2; omega))).trans bx16_paR_0
            have bx17_paR_1 : w17.cell? ⟨w.heap.size + 1, 1, none⟩ = some (.string vR.fLeft) := (World.cell?_of_block (a := ⟨w.heap.size + 1, 1, none⟩) (hst17.block (w.heap.size + 1) sz16_paR (fun hf => by have h1 := hf.1; have h2 := hf.2; omega))).trans bx16_paR_1
            have bx17_paR_2 : w17.cell? ⟨w.heap.size + 1, 2, none⟩ = some (.slice a2_vR vR.fRight.length c2_vR) := (World.cell?_of_block (a := ⟨w.heap.size + 1, 2, none⟩) (hst17.block (w.heap.size + 1) sz16_paR (fun hf => by have h1 := hf.1; have h2 := hf.2; omega))).trans bx16_paR_2
            have bx17_paR_3 : w17.cell? ⟨w.heap.size + 1, 3, none⟩ = some (.bool vR.fLiteral) := (World.cell?_of_block (a := ⟨w.heap.size + 1, 3, none⟩) (hst17.block (w.heap.size + 1) sz16_paR (fun hf => by have h1 := hf.1; have h2 := hf.2; omega))).trans bx16_paR_3
            have bx17_paR_4 : w17.cell? ⟨w.heap.size + 1, 4, none⟩ = some (.slice a4_vR vR.fEquations.length c4_vR) := (World.cell?_of_block (a := ⟨w.heap.size + 1, 4, none⟩) (hst17.block (w.heap.size + 1) sz16_paR (fun hf => by have h1 := hf.1; have h2 := hf.2; omega))).trans bx16_paR_4
            have bx17_paR_5 : w17.cell? ⟨w.heap.size + 1, 5, none⟩ = some (.slice a5_vR vR.fContributions.length c5_vR) := (World.cell?_of_block (a := ⟨w.heap.size + 1, 5, none⟩) (hst17.block (w.heap.size + 1) sz16_paR (fun hf => by have h1 := hf.1; have h2 := hf.2; omega))).trans bx16_paR_5
            have sz17_w0 : bV5 < w17.heap.size := Nat.lt_of_lt_of_le sz16_w0 hst17.size
            have bx17_w0_0 : w17.cell? ⟨bV5, 0, none⟩ = some (.int .i64 (locRel vG vR).fN) := (World.cell?_of_block (a := ⟨bV5, 0, none⟩) (hst17.block (bV5) sz16_w0 (fun hf => by have h1 := hf.1; have h2 := hf.2; omega))).trans bx16_w0_0
            have bx17_w0_1 : w17.cell? ⟨bV5, 1, none⟩ = some (.slice a1_R_5 (locRel vG vR).fRows.length c1_R_5) := (World.cell?_of_block (a := ⟨bV5, 1, none⟩) (hst17.block (bV5) sz16_w0 (fun hf => by have h1 := hf.1; have h2 := hf.2; omega))).trans bx16_w0_1
            have sz17_x0 : w6.heap.size < w17.heap.size := Nat.lt_of_lt_of_le sz16_x0 hst17.size
            have bx17_x0_0 : w17.cell? ⟨w6.heap.size, 0, none⟩ = some (.slice a0_vG_6 vG.fSymbols.length c0_vG_6) := (World.cell?_of_block (a := ⟨w6.heap.size, 0, none⟩) (hst17.block (w6.heap.size) sz16_x0 (fun hf => by have h1 := hf.1; have h2 := hf.2; omega))).trans bx16_x0_0
            have bx17_x0_1 : w17.cell? ⟨w6.heap.size, 1, none⟩ = some (.slice a1_vG_6 vG.fRules.length c1_vG_6) := (World.cell?_of_block (a := ⟨w6.heap.size, 1, none⟩) (hst17.block (w6.heap.size) sz16_x0 (fun hf => by have h1 := hf.1; have h2 := hf.2; omega))).trans bx16_x0_1
            have sz17_x1 : w7.heap.size < w17.heap.size := Nat.lt_of_lt_of_le sz16_x1 hst17.size
            have bx17_x1_0 : w17.cell? ⟨w7.heap.size, 0, none⟩ = some (.string vR.fName) := (World.cell?_of_block (a := ⟨w7.heap.size, 0, none⟩) (hst17.block (w7.heap.size) sz16_x1 (fun hf => by have h1 := hf.1; have h2 := hf.2; omega))).trans bx16_x1_0
            have bx17_x1_1 : w17.cell? ⟨w7.heap.size, 1, none⟩ = some (.string vR.fLeft) := (World.cell?_of_block (a := ⟨w7.heap.size, 1, none⟩) (hst17.block (w7.heap.size) sz16_x1 (fun hf => by have h1 := hf.1; have h2 := hf.2; omega))).trans bx16_x1_1
            have bx17_x1_2 : w17.cell? ⟨w7.heap.size, 2, none⟩ = some (.slice a2_vR_7 vR.fRight.length c2_vR_7) := (World.cell?_of_block (a := ⟨w7.heap.size, 2, none⟩) (hst17.block (w7.heap.size) sz16_x1 (fun hf => by have h1 := hf.1; have h2 := hf.2; omega))).trans bx16_x1_2
            have bx17_x1_3 : w17.cell? ⟨w7.heap.size, 3, none⟩ = some (.bool vR.fLiteral) := (World.cell?_of_block (a := ⟨w7.heap.size, 3, none⟩) (hst17.block (w7.heap.size) sz16_x1 (fun hf => by have h1 := hf.1; have h2 := hf.2; omega))).trans bx16_x1_3
            have bx17_x1_4 : w17.cell? ⟨w7.heap.size, 4, none⟩ = some (.slice a4_vR_7 vR.fEquations.length c4_vR_7) := (World.cell?_of_block (a := ⟨w7.heap.size, 4, none⟩) (hst17.block (w7.heap.size) sz16_x1 (fun hf => by have h1 := hf.1; have h2 := hf.2; omega))).trans bx16_x1_4
            have bx17_x1_5 : w17.cell? ⟨w7.heap.size, 5, none⟩ = some (.slice a5_vR_7 vR.fContributions.length c5_vR_7) := (World.cell?_of_block (a := ⟨w7.heap.size, 5, none⟩) (hst17.block (w7.heap.size) sz16_x1 (fun hf => by have h1 := hf.1; have h2 := hf.2; omega))).trans bx16_x1_5
            have sz17_g0 : w8.heap.size < w17.heap.size := Nat.lt_of_lt_of_le sz16_g0 hst17.size
            have bx17_g0_0 : w17.cell? ⟨w8.heap.size, 0, none⟩ = some (.int .i64 (locRel vG vR).fN) := (World.cell?_of_block (a := ⟨w8.heap.size, 0, none⟩) (hst17.block (w8.heap.size) sz16_g0 (fun hf => by have h1 := hf.1; have h2 := hf.2; omega))).trans bx16_g0_0
            have bx17_g0_1 : w17.cell? ⟨w8.heap.size, 1, none⟩ = some (.slice a1_R_8 (locRel vG vR).fRows.length c1_R_8) := (World.cell?_of_block (a := ⟨w8.heap.size, 1, none⟩) (hst17.block (w8.heap.size) sz16_g0 (fun hf => by have h1 := hf.1; have h2 := hf.2; omega))).trans bx16_g0_1
            have HO17_1_R_5 := Lib.hid (HO16_1_R_5.out.kept (hst17.kept (fun y hy hf => by have h1 := hy.1; have h2 := hy.2; have h3 := hf.1; have h4 := hf.2; omega)))
            have HO17_1_R_8 := Lib.hid ho17
            have HO17_0_vG_10 := Lib.hid (HO16_0_vG_10.out.kept (hst17.kept (fun y hy hf => by have h1 := hy.1; have h2 := hy.2; have h3 := hf.1; have h4 := hf.2; omega)))
            have HO17_1_vG_10 := Lib.hid (HO16_1_vG_10.out.kept (hst17.kept (fun y hy hf => by have h1 := hy.1; have h2 := hy.2; have h3 := hf.1; have h4 := hf.2; omega)))
            have HO17_2_vR_12 := Lib.hid (HO16_2_vR_12.out.kept (hst17.kept (fun y hy hf => by have h1 := hy.1; have h2 := hy.2; have h3 := hf.1; have h4 := hf.2; omega)))
            have HO17_4_vR_12 := Lib.hid (HO16_4_vR_12.out.kept (hst17.kept (fun y hy hf => by have h1 := hy.1; have h2 := hy.2; have h3 := hf.1; have h4 := hf.2; omega)))
            have HO17_5_vR_12 := Lib.hid (HO16_5_vR_12.out.kept (hst17.kept (fun y hy hf => by have h1 := hy.1; have h2 := hy.2; have h3 := hf.1; have h4 := hf.2; omega)))
            have HB17 := Lib.hid (HB16.out.trans (hst17.below (fun y hy => by have := hy.1; omega) HB16.out.size))
            clear bx16_paG_0 bx16_paG_1 sz16_paG bx16_paR_0 bx16_paR_1 bx16_paR_2 bx16_paR_3 bx16_paR_4 bx16_paR_5 sz16_paR bx16_w0_0 bx16_w0_1 sz16_w0 bx16_x0_0 bx16_x0_1 sz16_x0 bx16_x1_0 bx16_x1_1 bx16_x1_2 bx16_x1_3 bx16_x1_4 bx16_x1_5 sz16_x1 bx16_g0_0 bx16_g0_1 sz16_g0 HO16_1_R_5 ho17 HO16_1_R_8 HO16_0_vG_10 HO16_1_vG_10 HO16_2_vR_12 HO16_4_vR_12 HO16_5_vR_12 hw17 hst17 HB16
            go_wp2_with fail
            refine (laws_heldRelation (c1 := c1_R_8) (locRel vG vR) (by have h1 := locRel_len vG vR; omega) 1 (by have h1 := locRel_len vG vR; omega) _ (fun y hy => Nat.lt_of_lt_of_le (show y < w17.heap.size by have := hy.2; omega) (Below.size (by repeat (first | (with_reducible exact Below.refl _ _) | (with_reducible apply Below.drew) | (with_reducible refine below_drewN ?_ _) | (refine Below.setCell ?_ (by simp <;> omega) _) | (refine Below.alloc ?_ (by simp <;> omega) _)) : Below w17.heap.size w17 _))) (HO17_1_R_8.out.kept (Kept.of_below (by repeat (first | (with_reducible exact Below.refl _ _) | (with_reducible apply Below.drew) | (with_reducible refine below_drewN ?_ _) | (refine Below.setCell ?_ (by simp <;> omega) _) | (refine Below.alloc ?_ (by simp <;> omega) _)) : Below w17.heap.size w17 _) (fun y hy => by have := hy.2; omega)))).mono ?_
            rintro e w18 ⟨rfl, hb18⟩
            have hst18 : Below w17.heap.size w17 w18 := Below.trans (by repeat (first | (with_reducible exact Below.refl _ _) | (with_reducible apply Below.drew) | (with_reducible refine below_drewN ?_ _) | (refine Below.setCell ?_ (by simp <;> omega) _) | (refine Below.alloc ?_ (by simp <;> omega) _)) : Below w17.heap.size w17 _) (hb18.mono (Below.size (by repeat (first | (with_reducible exact Below.refl _ _) | (with_reducible apply Below.drew) | (with_reducible refine below_drewN ?_ _) | (refine Below.setCell ?_ (by simp <;> omega) _) | (refine Below.alloc ?_ (by simp <;> omega) _)) : Below w17.heap.size w17 _)))
            have hr18 : w17.heap.size ≤ w18.heap.size := Nat.le_trans (by first | exact Nat.le_refl _ | (simp; done) | (simp; omega) | (simp [World.setCell]; done) | (simp [World.setCell]; omega)) hb18.size
            have sz18_paG : w.heap.size < w18.heap.size := Nat.lt_of_lt_of_le sz17_paG hst18.size
            have bx18_paG_0 : w18.cell? ⟨w.heap.size, 0, none⟩ = some (.slice a0_vG vG.fSymbols.length c0_vG) := (hst18.cell (p := ⟨w.heap.size, 0, none⟩) sz17_paG).trans bx17_paG_0
            have bx18_paG_1 : w18.cell? ⟨w.heap.size, 1, none⟩ = some (.slice a1_vG vG.fRules.length c1_vG) := (hst18.cell (p := ⟨w.heap.size, 1, none⟩) sz17_paG).trans bx17_paG_1
            have sz18_paR : w.heap.size + 1 < w18.heap.size := Nat.lt_of_lt_of_le sz17_paR hst18.size
            have bx18_paR_0 : w18.cell? ⟨w.heap.size + 1, 0, none⟩ = some (.string vR.fName) := (hst18.cell (p := ⟨w.heap.size + 1, 0, none⟩) sz17_paR).trans bx17_paR_0
            have bx18_paR_1 : w18.cell? ⟨w.heap.size + 1, 1, none⟩ = some (.string vR.fLeft) := (hst18.cell (p := ⟨w.heap.size + 1, 1, none⟩) sz17_paR).trans bx17_paR_1
            have bx18_paR_2 : w18.cell? ⟨w.heap.size + 1, 2, none⟩ = some (.slice a2_vR vR.fRight.length c2_vR) := (hst18.cell (p := ⟨w.heap.size + 1, 2, none⟩) sz17_paR).trans bx17_paR_2
            have bx18_paR_3 : w18.cell? ⟨w.heap.size + 1, 3, none⟩ = some (.bool vR.fLiteral) := (hst18.cell (p := ⟨w.heap.size + 1, 3, none⟩) sz17_paR).trans bx17_paR_3
            have bx18_paR_4 : w18.cell? ⟨w.heap.size + 1, 4, none⟩ = some (.slice a4_vR vR.fEquations.length c4_vR) := (hst18.cell (p := ⟨w.heap.size + 1, 4, none⟩) sz17_paR).trans bx17_paR_4
            have bx18_paR_5 : w18.cell? ⟨w.heap.size + 1, 5, none⟩ = some (.slice a5_vR vR.fContributions.length c5_vR) := (hst18.cell (p := ⟨w.heap.size + 1, 5, none⟩) sz17_paR).trans bx17_paR_5
            have sz18_w0 : bV5 < w18.heap.size := Nat.lt_of_lt_of_le sz17_w0 hst18.size
            have bx18_w0_0 : w18.cell? ⟨bV5, 0, none⟩ = some (.int .i64 (locRel vG vR).fN) := (hst18.cell (p := ⟨bV5, 0, none⟩) sz17_w0).trans bx17_w0_0
            have bx18_w0_1 : w18.cell? ⟨bV5, 1, none⟩ = some (.slice a1_R_5 (locRel vG vR).fRows.length c1_R_5) := (hst18.cell (p := ⟨bV5, 1, none⟩) sz17_w0).trans bx17_w0_1
            have sz18_x0 : w6.heap.size < w18.heap.size := Nat.lt_of_lt_of_le sz17_x0 hst18.size
            have bx18_x0_0 : w18.cell? ⟨w6.heap.size, 0, none⟩ = some (.slice a0_vG_6 vG.fSymbols.length c0_vG_6) := (hst18.cell (p := ⟨w6.heap.size, 0, none⟩) sz17_x0).trans bx17_x0_0
            have bx18_x0_1 : w18.cell? ⟨w6.heap.size, 1, none⟩ = some (.slice a1_vG_6 vG.fRules.length c1_vG_6) := (hst18.cell (p := ⟨w6.heap.size, 1, none⟩) sz17_x0).trans bx17_x0_1
            have sz18_x1 : w7.heap.size < w18.heap.size := Nat.lt_of_lt_of_le sz17_x1 hst18.size
            have bx18_x1_0 : w18.cell? ⟨w7.heap.size, 0, none⟩ = some (.string vR.fName) := (hst18.cell (p := ⟨w7.heap.size, 0, none⟩) sz17_x1).trans bx17_x1_0
            have bx18_x1_1 : w18.cell? ⟨w7.heap.size, 1, none⟩ = some (.string vR.fLeft) := (hst18.cell (p := ⟨w7.heap.size, 1, none⟩) sz17_x1).trans bx17_x1_1
            have bx18_x1_2 : w18.cell? ⟨w7.heap.size, 2, none⟩ = some (.slice a2_vR_7 vR.fRight.length c2_vR_7) := (hst18.cell (p := ⟨w7.heap.size, 2, none⟩) sz17_x1).trans bx17_x1_2
            have bx18_x1_3 : w18.cell? ⟨w7.heap.size, 3, none⟩ = some (.bool vR.fLiteral) := (hst18.cell (p := ⟨w7.heap.size, 3, none⟩) sz17_x1).trans bx17_x1_3
            have bx18_x1_4 : w18.cell? ⟨w7.heap.size, 4, none⟩ = some (.slice a4_vR_7 vR.fEquations.length c4_vR_7) := (hst18.cell (p := ⟨w7.heap.size, 4, none⟩) sz17_x1).trans bx17_x1_4
            have bx18_x1_5 : w18.cell? ⟨w7.heap.size, 5, none⟩ = some (.slice a5_vR_7 vR.fContributions.length c5_vR_7) := (hst18.cell (p := ⟨w7.heap.size, 5, none⟩) sz17_x1).trans bx17_x1_5
            have sz18_g0 : w8.heap.size < w18.heap.size := Nat.lt_of_lt_of_le sz17_g0 hst18.size
            have bx18_g0_0 : w18.cell? ⟨w8.heap.size, 0, none⟩ = some (.int .i64 (locRel vG vR).fN) := (hst18.cell (p := ⟨w8.heap.size, 0, none⟩) sz17_g0).trans bx17_g0_0
            have bx18_g0_1 : w18.cell? ⟨w8.heap.size, 1, none⟩ = some (.slice a1_R_8 (locRel vG vR).fRows.length c1_R_8) := (hst18.cell (p := ⟨w8.heap.size, 1, none⟩) sz17_g0).trans bx17_g0_1
            have HO18_1_R_5 := Lib.hid (HO17_1_R_5.out.kept (Kept.of_below_all hst18))
            have HO18_1_R_8 := Lib.hid (HO17_1_R_8.out.kept (Kept.of_below_all hst18))
            have HO18_0_vG_10 := Lib.hid (HO17_0_vG_10.out.kept (Kept.of_below_all hst18))
            have HO18_1_vG_10 := Lib.hid (HO17_1_vG_10.out.kept (Kept.of_below_all hst18))
            have HO18_2_vR_12 := Lib.hid (HO17_2_vR_12.out.kept (Kept.of_below_all hst18))
            have HO18_4_vR_12 := Lib.hid (HO17_4_vR_12.out.kept (Kept.of_below_all hst18))
            have HO18_5_vR_12 := Lib.hid (HO17_5_vR_12.out.kept (Kept.of_below_all hst18))
            have HB18 := Lib.hid (HB17.out.trans (hst18.mono HB17.out.size))
            clear bx17_paG_0 bx17_paG_1 sz17_paG bx17_paR_0 bx17_paR_1 bx17_paR_2 bx17_paR_3 bx17_paR_4 bx17_paR_5 sz17_paR bx17_w0_0 bx17_w0_1 sz17_w0 bx17_x0_0 bx17_x0_1 sz17_x0 bx17_x1_0 bx17_x1_1 bx17_x1_2 bx17_x1_3 bx17_x1_4 bx17_x1_5 sz17_x1 bx17_g0_0 bx17_g0_1 sz17_g0 HO17_1_R_5 HO17_1_R_8 HO17_0_vG_10 HO17_1_vG_10 HO17_2_vR_12 HO17_4_vR_12 HO17_5_vR_12 hb18 hst18 HB17
            go_upto_region 31 with fail
            go_cut [13] from 75 to 79 (fun sW wx => ∃ (bW lW hW : Nat) (aW : Option Addr) (cW : Nat), sW = .pointer (some ⟨bW, 0, none⟩) ∧ wx.cell? ⟨bW, 0, none⟩ = some (.int .i64 (locRel vG vR).fN) ∧ wx.cell? ⟨bW, 1, none⟩ = some (.slice aW (locRel vG vR).fRows.length cW) ∧ Own wx (fun y => lW ≤ y ∧ y < hW) (.sl 1 (locRel vG vR).fRows.length (fun k => ictI ((locRel vG vR).fRows.getD k default))) (.slice aW (locRel vG vR).fRows.length cW) ∧ bW < wx.heap.size ∧ w18.heap.size ≤ bW ∧ w18.heap.size ≤ lW ∧ hW ≤ wx.heap.size ∧ (bW < lW ∨ hW ≤ bW) ∧ Below w18.heap.size w18 wx)
            case first =>
              refine wp_region_free [([], none), ([0], none), ([], none), ([2], none), ([1, 3], none), ([], none), ([5, 4], some 5)] [0, 1, 2, 3, 4, 6] (fun jq9 V L H wx => match jq9 with | 0 => V 0 = .agg #[.slice a0_vG vG.fSymbols.length c0_vG, .slice a1_vG vG.fRules.length c1_vG] | 1 => ∃ a0_vG_f1 c0_vG_f1 a1_vG_f1 c1_vG_f1, V 1 = .agg #[.slice a0_vG_f1 vG.fSymbols.length c0_vG_f1, .slice a1_vG_f1 vG.fRules.length c1_vG_f1] ∧ OwnR wx (fun y => L ≤ y ∧ y < H) 2 vG.ct (fun j => [.slice a0_vG_f1 vG.fSymbols.length c0_vG_f1, .slice a1_vG_f1 vG.fRules.length c1_vG_f1].getD j .nilFunc) | 2 => V 2 = .agg #[.string vR.fName, .string vR.fLeft, .slice a2_vR vR.fRight.length c2_vR, .bool vR.fLiteral, .slice a4_vR vR.fEquations.length c4_vR, .slice a5_vR vR.fContributions.length c5_vR] | 3 => ∃ a2_vR_f3 c2_vR_f3 a4_vR_f3 c4_vR_f3 a5_vR_f3 c5_vR_f3, V 3 = .agg #[.string vR.fName, .string vR.fLeft, .slice a2_vR_f3 vR.fRight.length c2_vR_f3, .bool vR.fLiteral, .slice a4_vR_f3 vR.fEquations.length c4_vR_f3, .slice a5_vR_f3 vR.fContributions.length c5_vR_f3] ∧ OwnR wx (fun y => L ≤ y ∧ y < H) 6 vR.ct (fun j => [.string vR.fName, .string vR.fLeft, .slice a2_vR_f3 vR.fRight.length c2_vR_f3, .bool vR.fLiteral, .slice a4_vR_f3 vR.fEquations.length c4_vR_f3, .slice a5_vR_f3 vR.fContributions.length c5_vR_f3].getD j .nilFunc) | 4 => ∃ a1_R_f4 c1_R_f4, V 4 = .agg #[.int .i64 (locRel vG vR).fN, .slice a1_R_f4 (locRel vG vR).fRows.length c1_R_f4] ∧ Own wx (fun y => L ≤ y ∧ y < H) (.sl 1 (locRel vG vR).fRows.length (fun k => ictI ((locRel vG vR).fRows.getD k default))) (.slice a1_R_f4 (locRel vG vR).fRows.length c1_R_f4) | 5 => V 5 = .pointer (some ⟨L, 0, none⟩) ∧ L < H ∧ wx.cell? ⟨L, 0, none⟩ = some (.int .i64 0) ∧ wx.frozen? ⟨L, 0, none⟩ = false ∧ wx.cell? ⟨L, 1, none⟩ = some (.slice none 0 0) ∧ wx.frozen? ⟨L, 1, none⟩ = false | 6 => ∀ x0 x1, V 4 = .agg #[x0, x1] → L < H ∧ wx.cell? ⟨L, 0, none⟩ = some x0 ∧ wx.cell? ⟨L, 1, none⟩ = some x1 | _ => True) (by kernel_rfl) (by kernel_rfl) ?loc ?lasts ?walk
              case loc =>
                intro k V V' L H wx h0 h1 hG
                match k with
                | 0 =>
                  try dsimp only at hG ⊢
                  rw [← h0]
                  exact hG
                | 1 =>
                  have e0 := h1 0 (by decide)
                  try dsimp only at hG ⊢
                  rw [← h0]
                  exact hG
                | 2 =>
                  try dsimp only at hG ⊢
                  rw [← h0]
                  exact hG
                | 3 =>
                  have e2 := h1 2 (by decide)
                  try dsimp only at hG ⊢
                  rw [← h0]
                  exact hG
                | 4 =>
                  have e1 := h1 1 (by decide)
                  have e3 := h1 3 (by decide)
                  try dsimp only at hG ⊢
                  rw [← h0]
                  exact hG
                | 5 =>
                  try dsimp only at hG ⊢
                  rw [← h0]
                  exact hG
                | 6 =>
                  have e5 := h1 5 (by decide)
                  have e4 := h1 4 (by decide)
                  try dsimp only at hG ⊢
                  rw [← e4]
                  exact hG
                | n + 7 => trivial
              case lasts =>
                intro i hi V L H wx wy hB hH hk
                match i, hi with
                | 0, _ => exact fun h => h
                | 1, _ => exact fun ⟨a0_vG_f1, c0_vG_f1, a1_vG_f1, c1_vG_f1, hv, ho⟩ => ⟨a0_vG_f1, c0_vG_f1, a1_vG_f1, c1_vG_f1, hv, ho.kept (hk.sub fun x hx => .inr hx)⟩
                | 2, _ => exact fun h => h
                | 3, _ => exact fun ⟨a2_vR_f3, c2_vR_f3, a4_vR_f3, c4_vR_f3, a5_vR_f3, c5_vR_f3, hv, ho⟩ => ⟨a2_vR_f3, c2_vR_f3, a4_vR_f3, c4_vR_f3, a5_vR_f3, c5_vR_f3, hv, ho.kept (hk.sub fun x hx => .inr hx)⟩
                | 4, _ => exact fun ⟨a1_R_f4, c1_R_f4, hv, ho⟩ => ⟨a1_R_f4, c1_R_f4, hv, ho.kept (hk.sub fun x hx => .inr hx)⟩
                | 5, _ => exact fun ⟨hv, hl, hc0, hf0, hc1, hf1⟩ => ⟨hv, hl, (hk.cell (p := ⟨L, 0, none⟩) (.inr ⟨Nat.le_refl _, hl⟩) (Nat.lt_of_lt_of_le hl hH)).trans hc0, (hk.frozen (p := ⟨L, 0, none⟩) (.inr ⟨Nat.le_refl _, hl⟩) (Nat.lt_of_lt_of_le hl hH)).trans hf0, (hk.cell (p := ⟨L, 1, none⟩) (.inr ⟨Nat.le_refl _, hl⟩) (Nat.lt_of_lt_of_le hl hH)).trans hc1, (hk.frozen (p := ⟨L, 1, none⟩) (.inr ⟨Nat.le_refl _, hl⟩) (Nat.lt_of_lt_of_le hl hH)).trans hf1⟩
                | 6, _ => exact fun h x0 x1 hv => ⟨(h x0 x1 hv).1, (hk.cell (p := ⟨L, 0, none⟩) (.inr ⟨Nat.le_refl _, (h x0 x1 hv).1⟩) (Nat.lt_of_lt_of_le (h x0 x1 hv).1 hH)).trans (h x0 x1 hv).2.1, (hk.cell (p := ⟨L, 1, none⟩) (.inr ⟨Nat.le_refl _, (h x0 x1 hv).1⟩) (Nat.lt_of_lt_of_le (h x0 x1 hv).1 hH)).trans (h x0 x1 hv).2.2⟩
                | n + 7, hn => exact absurd hn (by simp)
              case walk =>
                simp only [free, Nat.reduceAdd, Act.put, List.setIfInBounds_toArray, List.set_cons_succ, List.set_cons_zero]
                refine ⟨?_, ?_, ?_, ?_, ?_, ?_, ?_, ?_⟩
                · intro V L H w19 hb19 hd
                  clear hd
                  have sz19_paG : w.heap.size < w19.heap.size := Nat.lt_of_lt_of_le sz18_paG hb19.size
                  have bx19_paG_0 : w19.cell? ⟨w.heap.size, 0, none⟩ = some (.slice a0_vG vG.fSymbols.length c0_vG) := (hb19.cell (p := ⟨w.heap.size, 0, none⟩) sz18_paG).trans bx18_paG_0
                  have bx19_paG_1 : w19.cell? ⟨w.heap.size, 1, none⟩ = some (.slice a1_vG vG.fRules.length c1_vG) := (hb19.cell (p := ⟨w.heap.size, 1, none⟩) sz18_paG).trans bx18_paG_1
                  have sz19_paR : w.heap.size + 1 < w19.heap.size := Nat.lt_of_lt_of_le sz18_paR hb19.size
                  have bx19_paR_0 : w19.cell? ⟨w.heap.size + 1, 0, none⟩ = some (.string vR.fName) := (hb19.cell (p := ⟨w.heap.size + 1, 0, none⟩) sz18_paR).trans bx18_paR_0
                  have bx19_paR_1 : w19.cell? ⟨w.heap.size + 1, 1, none⟩ = some (.string vR.fLeft) := (hb19.cell (p := ⟨w.heap.size + 1, 1, none⟩) sz18_paR).trans bx18_paR_1
                  have bx19_paR_2 : w19.cell? ⟨w.heap.size + 1, 2, none⟩ = some (.slice a2_vR vR.fRight.length c2_vR) := (hb19.cell (p := ⟨w.heap.size + 1, 2, none⟩) sz18_paR).trans bx18_paR_2
                  have bx19_paR_3 : w19.cell? ⟨w.heap.size + 1, 3, none⟩ = some (.bool vR.fLiteral) := (hb19.cell (p := ⟨w.heap.size + 1, 3, none⟩) sz18_paR).trans bx18_paR_3
                  have bx19_paR_4 : w19.cell? ⟨w.heap.size + 1, 4, none⟩ = some (.slice a4_vR vR.fEquations.length c4_vR) := (hb19.cell (p := ⟨w.heap.size + 1, 4, none⟩) sz18_paR).trans bx18_paR_4
                  have bx19_paR_5 : w19.cell? ⟨w.heap.size + 1, 5, none⟩ = some (.slice a5_vR vR.fContributions.length c5_vR) := (hb19.cell (p := ⟨w.heap.size + 1, 5, none⟩) sz18_paR).trans bx18_paR_5
                  have sz19_w0 : bV5 < w19.heap.size := Nat.lt_of_lt_of_le sz18_w0 hb19.size
                  have bx19_w0_0 : w19.cell? ⟨bV5, 0, none⟩ = some (.int .i64 (locRel vG vR).fN) := (hb19.cell (p := ⟨bV5, 0, none⟩) sz18_w0).trans bx18_w0_0
                  have bx19_w0_1 : w19.cell? ⟨bV5, 1, none⟩ = some (.slice a1_R_5 (locRel vG vR).fRows.length c1_R_5) := (hb19.cell (p := ⟨bV5, 1, none⟩) sz18_w0).trans bx18_w0_1
                  have sz19_x0 : w6.heap.size < w19.heap.size := Nat.lt_of_lt_of_le sz18_x0 hb19.size
                  have bx19_x0_0 : w19.cell? ⟨w6.heap.size, 0, none⟩ = some (.slice a0_vG_6 vG.fSymbols.length c0_vG_6) := (hb19.cell (p := ⟨w6.heap.size, 0, none⟩) sz18_x0).trans bx18_x0_0
                  have bx19_x0_1 : w19.cell? ⟨w6.heap.size, 1, none⟩ = some (.slice a1_vG_6 vG.fRules.length c1_vG_6) := (hb19.cell (p := ⟨w6.heap.size, 1, none⟩) sz18_x0).trans bx18_x0_1
                  have sz19_x1 : w7.heap.size < w19.heap.size := Nat.lt_of_lt_of_le sz18_x1 hb19.size
                  have bx19_x1_0 : w19.cell? ⟨w7.heap.size, 0, none⟩ = some (.string vR.fName) := (hb19.cell (p := ⟨w7.heap.size, 0, none⟩) sz18_x1).trans bx18_x1_0
                  have bx19_x1_1 : w19.cell? ⟨w7.heap.size, 1, none⟩ = some (.string vR.fLeft) := (hb19.cell (p := ⟨w7.heap.size, 1, none⟩) sz18_x1).trans bx18_x1_1
                  have bx19_x1_2 : w19.cell? ⟨w7.heap.size, 2, none⟩ = some (.slice a2_vR_7 vR.fRight.length c2_vR_7) := (hb19.cell (p := ⟨w7.heap.size, 2, none⟩) sz18_x1).trans bx18_x1_2
                  have bx19_x1_3 : w19.cell? ⟨w7.heap.size, 3, none⟩ = some (.bool vR.fLiteral) := (hb19.cell (p := ⟨w7.heap.size, 3, none⟩) sz18_x1).trans bx18_x1_3
                  have bx19_x1_4 : w19.cell? ⟨w7.heap.size, 4, none⟩ = some (.slice a4_vR_7 vR.fEquations.length c4_vR_7) := (hb19.cell (p := ⟨w7.heap.size, 4, none⟩) sz18_x1).trans bx18_x1_4
                  have bx19_x1_5 : w19.cell? ⟨w7.heap.size, 5, none⟩ = some (.slice a5_vR_7 vR.fContributions.length c5_vR_7) := (hb19.cell (p := ⟨w7.heap.size, 5, none⟩) sz18_x1).trans bx18_x1_5
                  have sz19_g0 : w8.heap.size < w19.heap.size := Nat.lt_of_lt_of_le sz18_g0 hb19.size
                  have bx19_g0_0 : w19.cell? ⟨w8.heap.size, 0, none⟩ = some (.int .i64 (locRel vG vR).fN) := (hb19.cell (p := ⟨w8.heap.size, 0, none⟩) sz18_g0).trans bx18_g0_0
                  have bx19_g0_1 : w19.cell? ⟨w8.heap.size, 1, none⟩ = some (.slice a1_R_8 (locRel vG vR).fRows.length c1_R_8) := (hb19.cell (p := ⟨w8.heap.size, 1, none⟩) sz18_g0).trans bx18_g0_1
                  have HO19_1_R_5 := Lib.hid (HO18_1_R_5.out.kept (Kept.of_below_all hb19))
                  have HO19_1_R_8 := Lib.hid (HO18_1_R_8.out.kept (Kept.of_below_all hb19))
                  have HO19_0_vG_10 := Lib.hid (HO18_0_vG_10.out.kept (Kept.of_below_all hb19))
                  have HO19_1_vG_10 := Lib.hid (HO18_1_vG_10.out.kept (Kept.of_below_all hb19))
                  have HO19_2_vR_12 := Lib.hid (HO18_2_vR_12.out.kept (Kept.of_below_all hb19))
                  have HO19_4_vR_12 := Lib.hid (HO18_4_vR_12.out.kept (Kept.of_below_all hb19))
                  have HO19_5_vR_12 := Lib.hid (HO18_5_vR_12.out.kept (Kept.of_below_all hb19))
                  have HB19 := Lib.hid (HB18.out.trans (hb19.mono HB18.out.size))
                  clear sz18_paG bx18_paG_0 bx18_paG_1 sz18_paR bx18_paR_0 bx18_paR_1 bx18_paR_2 bx18_paR_3 bx18_paR_4 bx18_paR_5 sz18_w0 bx18_w0_0 bx18_w0_1 sz18_x0 bx18_x0_0 bx18_x0_1 sz18_x1 bx18_x1_0 bx18_x1_1 bx18_x1_2 bx18_x1_3 bx18_x1_4 bx18_x1_5 sz18_g0 bx18_g0_0 bx18_g0_1
                  go_wp2_with fail
                  exact freePost _ rfl ⟨Below.refl _ _, upd_self⟩
                · intro V L H w19 hb19 hd
                  obtain ⟨⟨hL0, hM0, hH0, hv0⟩, -⟩ := hd
                  rw [hv0]
                  have HV0 := Lib.hid hv0
                  clear hv0
                  have sz19_paG : w.heap.size < w19.heap.size := Nat.lt_of_lt_of_le sz18_paG hb19.size
                  have bx19_paG_0 : w19.cell? ⟨w.heap.size, 0, none⟩ = some (.slice a0_vG vG.fSymbols.length c0_vG) := (hb19.cell (p := ⟨w.heap.size, 0, none⟩) sz18_paG).trans bx18_paG_0
                  have bx19_paG_1 : w19.cell? ⟨w.heap.size, 1, none⟩ = some (.slice a1_vG vG.fRules.length c1_vG) := (hb19.cell (p := ⟨w.heap.size, 1, none⟩) sz18_paG).trans bx18_paG_1
                  have sz19_paR : w.heap.size + 1 < w19.heap.size := Nat.lt_of_lt_of_le sz18_paR hb19.size
                  have bx19_paR_0 : w19.cell? ⟨w.heap.size + 1, 0, none⟩ = some (.string vR.fName) := (hb19.cell (p := ⟨w.heap.size + 1, 0, none⟩) sz18_paR).trans bx18_paR_0
                  have bx19_paR_1 : w19.cell? ⟨w.heap.size + 1, 1, none⟩ = some (.string vR.fLeft) := (hb19.cell (p := ⟨w.heap.size + 1, 1, none⟩) sz18_paR).trans bx18_paR_1
                  have bx19_paR_2 : w19.cell? ⟨w.heap.size + 1, 2, none⟩ = some (.slice a2_vR vR.fRight.length c2_vR) := (hb19.cell (p := ⟨w.heap.size + 1, 2, none⟩) sz18_paR).trans bx18_paR_2
                  have bx19_paR_3 : w19.cell? ⟨w.heap.size + 1, 3, none⟩ = some (.bool vR.fLiteral) := (hb19.cell (p := ⟨w.heap.size + 1, 3, none⟩) sz18_paR).trans bx18_paR_3
                  have bx19_paR_4 : w19.cell? ⟨w.heap.size + 1, 4, none⟩ = some (.slice a4_vR vR.fEquations.length c4_vR) := (hb19.cell (p := ⟨w.heap.size + 1, 4, none⟩) sz18_paR).trans bx18_paR_4
                  have bx19_paR_5 : w19.cell? ⟨w.heap.size + 1, 5, none⟩ = some (.slice a5_vR vR.fContributions.length c5_vR) := (hb19.cell (p := ⟨w.heap.size + 1, 5, none⟩) sz18_paR).trans bx18_paR_5
                  have sz19_w0 : bV5 < w19.heap.size := Nat.lt_of_lt_of_le sz18_w0 hb19.size
                  have bx19_w0_0 : w19.cell? ⟨bV5, 0, none⟩ = some (.int .i64 (locRel vG vR).fN) := (hb19.cell (p := ⟨bV5, 0, none⟩) sz18_w0).trans bx18_w0_0
                  have bx19_w0_1 : w19.cell? ⟨bV5, 1, none⟩ = some (.slice a1_R_5 (locRel vG vR).fRows.length c1_R_5) := (hb19.cell (p := ⟨bV5, 1, none⟩) sz18_w0).trans bx18_w0_1
                  have sz19_x0 : w6.heap.size < w19.heap.size := Nat.lt_of_lt_of_le sz18_x0 hb19.size
                  have bx19_x0_0 : w19.cell? ⟨w6.heap.size, 0, none⟩ = some (.slice a0_vG_6 vG.fSymbols.length c0_vG_6) := (hb19.cell (p := ⟨w6.heap.size, 0, none⟩) sz18_x0).trans bx18_x0_0
                  have bx19_x0_1 : w19.cell? ⟨w6.heap.size, 1, none⟩ = some (.slice a1_vG_6 vG.fRules.length c1_vG_6) := (hb19.cell (p := ⟨w6.heap.size, 1, none⟩) sz18_x0).trans bx18_x0_1
                  have sz19_x1 : w7.heap.size < w19.heap.size := Nat.lt_of_lt_of_le sz18_x1 hb19.size
                  have bx19_x1_0 : w19.cell? ⟨w7.heap.size, 0, none⟩ = some (.string vR.fName) := (hb19.cell (p := ⟨w7.heap.size, 0, none⟩) sz18_x1).trans bx18_x1_0
                  have bx19_x1_1 : w19.cell? ⟨w7.heap.size, 1, none⟩ = some (.string vR.fLeft) := (hb19.cell (p := ⟨w7.heap.size, 1, none⟩) sz18_x1).trans bx18_x1_1
                  have bx19_x1_2 : w19.cell? ⟨w7.heap.size, 2, none⟩ = some (.slice a2_vR_7 vR.fRight.length c2_vR_7) := (hb19.cell (p := ⟨w7.heap.size, 2, none⟩) sz18_x1).trans bx18_x1_2
                  have bx19_x1_3 : w19.cell? ⟨w7.heap.size, 3, none⟩ = some (.bool vR.fLiteral) := (hb19.cell (p := ⟨w7.heap.size, 3, none⟩) sz18_x1).trans bx18_x1_3
                  have bx19_x1_4 : w19.cell? ⟨w7.heap.size, 4, none⟩ = some (.slice a4_vR_7 vR.fEquations.length c4_vR_7) := (hb19.cell (p := ⟨w7.heap.size, 4, none⟩) sz18_x1).trans bx18_x1_4
                  have bx19_x1_5 : w19.cell? ⟨w7.heap.size, 5, none⟩ = some (.slice a5_vR_7 vR.fContributions.length c5_vR_7) := (hb19.cell (p := ⟨w7.heap.size, 5, none⟩) sz18_x1).trans bx18_x1_5
                  have sz19_g0 : w8.heap.size < w19.heap.size := Nat.lt_of_lt_of_le sz18_g0 hb19.size
                  have bx19_g0_0 : w19.cell? ⟨w8.heap.size, 0, none⟩ = some (.int .i64 (locRel vG vR).fN) := (hb19.cell (p := ⟨w8.heap.size, 0, none⟩) sz18_g0).trans bx18_g0_0
                  have bx19_g0_1 : w19.cell? ⟨w8.heap.size, 1, none⟩ = some (.slice a1_R_8 (locRel vG vR).fRows.length c1_R_8) := (hb19.cell (p := ⟨w8.heap.size, 1, none⟩) sz18_g0).trans bx18_g0_1
                  have HO19_1_R_5 := Lib.hid (HO18_1_R_5.out.kept (Kept.of_below_all hb19))
                  have HO19_1_R_8 := Lib.hid (HO18_1_R_8.out.kept (Kept.of_below_all hb19))
                  have HO19_0_vG_10 := Lib.hid (HO18_0_vG_10.out.kept (Kept.of_below_all hb19))
                  have HO19_1_vG_10 := Lib.hid (HO18_1_vG_10.out.kept (Kept.of_below_all hb19))
                  have HO19_2_vR_12 := Lib.hid (HO18_2_vR_12.out.kept (Kept.of_below_all hb19))
                  have HO19_4_vR_12 := Lib.hid (HO18_4_vR_12.out.kept (Kept.of_below_all hb19))
                  have HO19_5_vR_12 := Lib.hid (HO18_5_vR_12.out.kept (Kept.of_below_all hb19))
                  have HB19 := Lib.hid (HB18.out.trans (hb19.mono HB18.out.size))
                  clear sz18_paG bx18_paG_0 bx18_paG_1 sz18_paR bx18_paR_0 bx18_paR_1 bx18_paR_2 bx18_paR_3 bx18_paR_4 bx18_paR_5 sz18_w0 bx18_w0_0 bx18_w0_1 sz18_x0 bx18_x0_0 bx18_x0_1 sz18_x1 bx18_x1_0 bx18_x1_1 bx18_x1_2 bx18_x1_3 bx18_x1_4 bx18_x1_5 sz18_g0 bx18_g0_0 bx18_g0_1
                  go_wp2_with fail
                  refine (laws_toGrammar (c0 := c0_vG) (c1 := c1_vG) vG hq_vG _ (Below.size (by repeat (first | (with_reducible exact Below.refl _ _) | (with_reducible apply Below.drew) | (with_reducible refine below_drewN ?_ _) | (refine Below.setCell ?_ (by simp <;> omega) _) | (refine Below.alloc ?_ (by simp <;> omega) _)) : Below w19.heap.size w19 _)) ((HS_0_vG.out.later (HB19.out.trans ((by repeat (first | (with_reducible exact Below.refl _ _) | (with_reducible apply Below.drew) | (with_reducible refine below_drewN ?_ _) | (refine Below.setCell ?_ (by simp <;> omega) _) | (refine Below.alloc ?_ (by simp <;> omega) _)) : Below w19.heap.size w19 _).mono HB19.out.size)) (Nat.le_refl _)).mono (Nat.le_refl _) HB19.out.size) ((HS_1_vG.out.later (HB19.out.trans ((by repeat (first | (with_reducible exact Below.refl _ _) | (with_reducible apply Below.drew) | (with_reducible refine below_drewN ?_ _) | (refine Below.setCell ?_ (by simp <;> omega) _) | (refine Below.alloc ?_ (by simp <;> omega) _)) : Below w19.heap.size w19 _).mono HB19.out.size)) (Nat.le_refl _)).mono (Nat.le_refl _) HB19.out.size)).mono ?_
                  rintro e w20 ⟨a0_vG_f1, c0_vG_f1, a1_vG_f1, c1_vG_f1, rfl, ho, hb20⟩
                  go_wp2_with fail
                  exact freePost _ rfl ⟨hb20, Exists.intro a0_vG_f1 (Exists.intro c0_vG_f1 (Exists.intro a1_vG_f1 (Exists.intro c1_vG_f1 (And.intro upd_self ho))))⟩
                · intro V L H w19 hb19 hd
                  clear hd
                  have sz19_paG : w.heap.size < w19.heap.size := Nat.lt_of_lt_of_le sz18_paG hb19.size
                  have bx19_paG_0 : w19.cell? ⟨w.heap.size, 0, none⟩ = some (.slice a0_vG vG.fSymbols.length c0_vG) := (hb19.cell (p := ⟨w.heap.size, 0, none⟩) sz18_paG).trans bx18_paG_0
                  have bx19_paG_1 : w19.cell? ⟨w.heap.size, 1, none⟩ = some (.slice a1_vG vG.fRules.length c1_vG) := (hb19.cell (p := ⟨w.heap.size, 1, none⟩) sz18_paG).trans bx18_paG_1
                  have sz19_paR : w.heap.size + 1 < w19.heap.size := Nat.lt_of_lt_of_le sz18_paR hb19.size
                  have bx19_paR_0 : w19.cell? ⟨w.heap.size + 1, 0, none⟩ = some (.string vR.fName) := (hb19.cell (p := ⟨w.heap.size + 1, 0, none⟩) sz18_paR).trans bx18_paR_0
                  have bx19_paR_1 : w19.cell? ⟨w.heap.size + 1, 1, none⟩ = some (.string vR.fLeft) := (hb19.cell (p := ⟨w.heap.size + 1, 1, none⟩) sz18_paR).trans bx18_paR_1
                  have bx19_paR_2 : w19.cell? ⟨w.heap.size + 1, 2, none⟩ = some (.slice a2_vR vR.fRight.length c2_vR) := (hb19.cell (p := ⟨w.heap.size + 1, 2, none⟩) sz18_paR).trans bx18_paR_2
                  have bx19_paR_3 : w19.cell? ⟨w.heap.size + 1, 3, none⟩ = some (.bool vR.fLiteral) := (hb19.cell (p := ⟨w.heap.size + 1, 3, none⟩) sz18_paR).trans bx18_paR_3
                  have bx19_paR_4 : w19.cell? ⟨w.heap.size + 1, 4, none⟩ = some (.slice a4_vR vR.fEquations.length c4_vR) := (hb19.cell (p := ⟨w.heap.size + 1, 4, none⟩) sz18_paR).trans bx18_paR_4
                  have bx19_paR_5 : w19.cell? ⟨w.heap.size + 1, 5, none⟩ = some (.slice a5_vR vR.fContributions.length c5_vR) := (hb19.cell (p := ⟨w.heap.size + 1, 5, none⟩) sz18_paR).trans bx18_paR_5
                  have sz19_w0 : bV5 < w19.heap.size := Nat.lt_of_lt_of_le sz18_w0 hb19.size
                  have bx19_w0_0 : w19.cell? ⟨bV5, 0, none⟩ = some (.int .i64 (locRel vG vR).fN) := (hb19.cell (p := ⟨bV5, 0, none⟩) sz18_w0).trans bx18_w0_0
                  have bx19_w0_1 : w19.cell? ⟨bV5, 1, none⟩ = some (.slice a1_R_5 (locRel vG vR).fRows.length c1_R_5) := (hb19.cell (p := ⟨bV5, 1, none⟩) sz18_w0).trans bx18_w0_1
                  have sz19_x0 : w6.heap.size < w19.heap.size := Nat.lt_of_lt_of_le sz18_x0 hb19.size
                  have bx19_x0_0 : w19.cell? ⟨w6.heap.size, 0, none⟩ = some (.slice a0_vG_6 vG.fSymbols.length c0_vG_6) := (hb19.cell (p := ⟨w6.heap.size, 0, none⟩) sz18_x0).trans bx18_x0_0
                  have bx19_x0_1 : w19.cell? ⟨w6.heap.size, 1, none⟩ = some (.slice a1_vG_6 vG.fRules.length c1_vG_6) := (hb19.cell (p := ⟨w6.heap.size, 1, none⟩) sz18_x0).trans bx18_x0_1
                  have sz19_x1 : w7.heap.size < w19.heap.size := Nat.lt_of_lt_of_le sz18_x1 hb19.size
                  have bx19_x1_0 : w19.cell? ⟨w7.heap.size, 0, none⟩ = some (.string vR.fName) := (hb19.cell (p := ⟨w7.heap.size, 0, none⟩) sz18_x1).trans bx18_x1_0
                  have bx19_x1_1 : w19.cell? ⟨w7.heap.size, 1, none⟩ = some (.string vR.fLeft) := (hb19.cell (p := ⟨w7.heap.size, 1, none⟩) sz18_x1).trans bx18_x1_1
                  have bx19_x1_2 : w19.cell? ⟨w7.heap.size, 2, none⟩ = some (.slice a2_vR_7 vR.fRight.length c2_vR_7) := (hb19.cell (p := ⟨w7.heap.size, 2, none⟩) sz18_x1).trans bx18_x1_2
                  have bx19_x1_3 : w19.cell? ⟨w7.heap.size, 3, none⟩ = some (.bool vR.fLiteral) := (hb19.cell (p := ⟨w7.heap.size, 3, none⟩) sz18_x1).trans bx18_x1_3
                  have bx19_x1_4 : w19.cell? ⟨w7.heap.size, 4, none⟩ = some (.slice a4_vR_7 vR.fEquations.length c4_vR_7) := (hb19.cell (p := ⟨w7.heap.size, 4, none⟩) sz18_x1).trans bx18_x1_4
                  have bx19_x1_5 : w19.cell? ⟨w7.heap.size, 5, none⟩ = some (.slice a5_vR_7 vR.fContributions.length c5_vR_7) := (hb19.cell (p := ⟨w7.heap.size, 5, none⟩) sz18_x1).trans bx18_x1_5
                  have sz19_g0 : w8.heap.size < w19.heap.size := Nat.lt_of_lt_of_le sz18_g0 hb19.size
                  have bx19_g0_0 : w19.cell? ⟨w8.heap.size, 0, none⟩ = some (.int .i64 (locRel vG vR).fN) := (hb19.cell (p := ⟨w8.heap.size, 0, none⟩) sz18_g0).trans bx18_g0_0
                  have bx19_g0_1 : w19.cell? ⟨w8.heap.size, 1, none⟩ = some (.slice a1_R_8 (locRel vG vR).fRows.length c1_R_8) := (hb19.cell (p := ⟨w8.heap.size, 1, none⟩) sz18_g0).trans bx18_g0_1
                  have HO19_1_R_5 := Lib.hid (HO18_1_R_5.out.kept (Kept.of_below_all hb19))
                  have HO19_1_R_8 := Lib.hid (HO18_1_R_8.out.kept (Kept.of_below_all hb19))
                  have HO19_0_vG_10 := Lib.hid (HO18_0_vG_10.out.kept (Kept.of_below_all hb19))
                  have HO19_1_vG_10 := Lib.hid (HO18_1_vG_10.out.kept (Kept.of_below_all hb19))
                  have HO19_2_vR_12 := Lib.hid (HO18_2_vR_12.out.kept (Kept.of_below_all hb19))
                  have HO19_4_vR_12 := Lib.hid (HO18_4_vR_12.out.kept (Kept.of_below_all hb19))
                  have HO19_5_vR_12 := Lib.hid (HO18_5_vR_12.out.kept (Kept.of_below_all hb19))
                  have HB19 := Lib.hid (HB18.out.trans (hb19.mono HB18.out.size))
                  clear sz18_paG bx18_paG_0 bx18_paG_1 sz18_paR bx18_paR_0 bx18_paR_1 bx18_paR_2 bx18_paR_3 bx18_paR_4 bx18_paR_5 sz18_w0 bx18_w0_0 bx18_w0_1 sz18_x0 bx18_x0_0 bx18_x0_1 sz18_x1 bx18_x1_0 bx18_x1_1 bx18_x1_2 bx18_x1_3 bx18_x1_4 bx18_x1_5 sz18_g0 bx18_g0_0 bx18_g0_1
                  go_wp2_with fail
                  exact freePost _ rfl ⟨Below.refl _ _, upd_self⟩
                · intro V L H w19 hb19 hd
                  obtain ⟨⟨hL2, hM2, hH2, hv2⟩, -⟩ := hd
                  rw [hv2]
                  have HV2 := Lib.hid hv2
                  clear hv2
                  have sz19_paG : w.heap.size < w19.heap.size := Nat.lt_of_lt_of_le sz18_paG hb19.size
                  have bx19_paG_0 : w19.cell? ⟨w.heap.size, 0, none⟩ = some (.slice a0_vG vG.fSymbols.length c0_vG) := (hb19.cell (p := ⟨w.heap.size, 0, none⟩) sz18_paG).trans bx18_paG_0
                  have bx19_paG_1 : w19.cell? ⟨w.heap.size, 1, none⟩ = some (.slice a1_vG vG.fRules.length c1_vG) := (hb19.cell (p := ⟨w.heap.size, 1, none⟩) sz18_paG).trans bx18_paG_1
                  have sz19_paR : w.heap.size + 1 < w19.heap.size := Nat.lt_of_lt_of_le sz18_paR hb19.size
                  have bx19_paR_0 : w19.cell? ⟨w.heap.size + 1, 0, none⟩ = some (.string vR.fName) := (hb19.cell (p := ⟨w.heap.size + 1, 0, none⟩) sz18_paR).trans bx18_paR_0
                  have bx19_paR_1 : w19.cell? ⟨w.heap.size + 1, 1, none⟩ = some (.string vR.fLeft) := (hb19.cell (p := ⟨w.heap.size + 1, 1, none⟩) sz18_paR).trans bx18_paR_1
                  have bx19_paR_2 : w19.cell? ⟨w.heap.size + 1, 2, none⟩ = some (.slice a2_vR vR.fRight.length c2_vR) := (hb19.cell (p := ⟨w.heap.size + 1, 2, none⟩) sz18_paR).trans bx18_paR_2
                  have bx19_paR_3 : w19.cell? ⟨w.heap.size + 1, 3, none⟩ = some (.bool vR.fLiteral) := (hb19.cell (p := ⟨w.heap.size + 1, 3, none⟩) sz18_paR).trans bx18_paR_3
                  have bx19_paR_4 : w19.cell? ⟨w.heap.size + 1, 4, none⟩ = some (.slice a4_vR vR.fEquations.length c4_vR) := (hb19.cell (p := ⟨w.heap.size + 1, 4, none⟩) sz18_paR).trans bx18_paR_4
                  have bx19_paR_5 : w19.cell? ⟨w.heap.size + 1, 5, none⟩ = some (.slice a5_vR vR.fContributions.length c5_vR) := (hb19.cell (p := ⟨w.heap.size + 1, 5, none⟩) sz18_paR).trans bx18_paR_5
                  have sz19_w0 : bV5 < w19.heap.size := Nat.lt_of_lt_of_le sz18_w0 hb19.size
                  have bx19_w0_0 : w19.cell? ⟨bV5, 0, none⟩ = some (.int .i64 (locRel vG vR).fN) := (hb19.cell (p := ⟨bV5, 0, none⟩) sz18_w0).trans bx18_w0_0
                  have bx19_w0_1 : w19.cell? ⟨bV5, 1, none⟩ = some (.slice a1_R_5 (locRel vG vR).fRows.length c1_R_5) := (hb19.cell (p := ⟨bV5, 1, none⟩) sz18_w0).trans bx18_w0_1
                  have sz19_x0 : w6.heap.size < w19.heap.size := Nat.lt_of_lt_of_le sz18_x0 hb19.size
                  have bx19_x0_0 : w19.cell? ⟨w6.heap.size, 0, none⟩ = some (.slice a0_vG_6 vG.fSymbols.length c0_vG_6) := (hb19.cell (p := ⟨w6.heap.size, 0, none⟩) sz18_x0).trans bx18_x0_0
                  have bx19_x0_1 : w19.cell? ⟨w6.heap.size, 1, none⟩ = some (.slice a1_vG_6 vG.fRules.length c1_vG_6) := (hb19.cell (p := ⟨w6.heap.size, 1, none⟩) sz18_x0).trans bx18_x0_1
                  have sz19_x1 : w7.heap.size < w19.heap.size := Nat.lt_of_lt_of_le sz18_x1 hb19.size
                  have bx19_x1_0 : w19.cell? ⟨w7.heap.size, 0, none⟩ = some (.string vR.fName) := (hb19.cell (p := ⟨w7.heap.size, 0, none⟩) sz18_x1).trans bx18_x1_0
                  have bx19_x1_1 : w19.cell? ⟨w7.heap.size, 1, none⟩ = some (.string vR.fLeft) := (hb19.cell (p := ⟨w7.heap.size, 1, none⟩) sz18_x1).trans bx18_x1_1
                  have bx19_x1_2 : w19.cell? ⟨w7.heap.size, 2, none⟩ = some (.slice a2_vR_7 vR.fRight.length c2_vR_7) := (hb19.cell (p := ⟨w7.heap.size, 2, none⟩) sz18_x1).trans bx18_x1_2
                  have bx19_x1_3 : w19.cell? ⟨w7.heap.size, 3, none⟩ = some (.bool vR.fLiteral) := (hb19.cell (p := ⟨w7.heap.size, 3, none⟩) sz18_x1).trans bx18_x1_3
                  have bx19_x1_4 : w19.cell? ⟨w7.heap.size, 4, none⟩ = some (.slice a4_vR_7 vR.fEquations.length c4_vR_7) := (hb19.cell (p := ⟨w7.heap.size, 4, none⟩) sz18_x1).trans bx18_x1_4
                  have bx19_x1_5 : w19.cell? ⟨w7.heap.size, 5, none⟩ = some (.slice a5_vR_7 vR.fContributions.length c5_vR_7) := (hb19.cell (p := ⟨w7.heap.size, 5, none⟩) sz18_x1).trans bx18_x1_5
                  have sz19_g0 : w8.heap.size < w19.heap.size := Nat.lt_of_lt_of_le sz18_g0 hb19.size
                  have bx19_g0_0 : w19.cell? ⟨w8.heap.size, 0, none⟩ = some (.int .i64 (locRel vG vR).fN) := (hb19.cell (p := ⟨w8.heap.size, 0, none⟩) sz18_g0).trans bx18_g0_0
                  have bx19_g0_1 : w19.cell? ⟨w8.heap.size, 1, none⟩ = some (.slice a1_R_8 (locRel vG vR).fRows.length c1_R_8) := (hb19.cell (p := ⟨w8.heap.size, 1, none⟩) sz18_g0).trans bx18_g0_1
                  have HO19_1_R_5 := Lib.hid (HO18_1_R_5.out.kept (Kept.of_below_all hb19))
                  have HO19_1_R_8 := Lib.hid (HO18_1_R_8.out.kept (Kept.of_below_all hb19))
                  have HO19_0_vG_10 := Lib.hid (HO18_0_vG_10.out.kept (Kept.of_below_all hb19))
                  have HO19_1_vG_10 := Lib.hid (HO18_1_vG_10.out.kept (Kept.of_below_all hb19))
                  have HO19_2_vR_12 := Lib.hid (HO18_2_vR_12.out.kept (Kept.of_below_all hb19))
                  have HO19_4_vR_12 := Lib.hid (HO18_4_vR_12.out.kept (Kept.of_below_all hb19))
                  have HO19_5_vR_12 := Lib.hid (HO18_5_vR_12.out.kept (Kept.of_below_all hb19))
                  have HB19 := Lib.hid (HB18.out.trans (hb19.mono HB18.out.size))
                  clear sz18_paG bx18_paG_0 bx18_paG_1 sz18_paR bx18_paR_0 bx18_paR_1 bx18_paR_2 bx18_paR_3 bx18_paR_4 bx18_paR_5 sz18_w0 bx18_w0_0 bx18_w0_1 sz18_x0 bx18_x0_0 bx18_x0_1 sz18_x1 bx18_x1_0 bx18_x1_1 bx18_x1_2 bx18_x1_3 bx18_x1_4 bx18_x1_5 sz18_g0 bx18_g0_0 bx18_g0_1
                  go_wp2_with fail
                  refine (laws_toRule (c2 := c2_vR) (c4 := c4_vR) (c5 := c5_vR) vR hq_vR _ (Below.size (by repeat (first | (with_reducible exact Below.refl _ _) | (with_reducible apply Below.drew) | (with_reducible refine below_drewN ?_ _) | (refine Below.setCell ?_ (by simp <;> omega) _) | (refine Below.alloc ?_ (by simp <;> omega) _)) : Below w19.heap.size w19 _)) ((HS_2_vR.out.later (HB19.out.trans ((by repeat (first | (with_reducible exact Below.refl _ _) | (with_reducible apply Below.drew) | (with_reducible refine below_drewN ?_ _) | (refine Below.setCell ?_ (by simp <;> omega) _) | (refine Below.alloc ?_ (by simp <;> omega) _)) : Below w19.heap.size w19 _).mono HB19.out.size)) (Nat.le_refl _)).mono (Nat.le_refl _) HB19.out.size) ((HS_4_vR.out.later (HB19.out.trans ((by repeat (first | (with_reducible exact Below.refl _ _) | (with_reducible apply Below.drew) | (with_reducible refine below_drewN ?_ _) | (refine Below.setCell ?_ (by simp <;> omega) _) | (refine Below.alloc ?_ (by simp <;> omega) _)) : Below w19.heap.size w19 _).mono HB19.out.size)) (Nat.le_refl _)).mono (Nat.le_refl _) HB19.out.size) ((HS_5_vR.out.later (HB19.out.trans ((by repeat (first | (with_reducible exact Below.refl _ _) | (with_reducible apply Below.drew) | (with_reducible refine below_drewN ?_ _) | (refine Below.setCell ?_ (by simp <;> omega) _) | (refine Below.alloc ?_ (by simp <;> omega) _)) : Below w19.heap.size w19 _).mono HB19.out.size)) (Nat.le_refl _)).mono (Nat.le_refl _) HB19.out.size)).mono ?_
                  rintro e w20 ⟨a2_vR_f3, c2_vR_f3, a4_vR_f3, c4_vR_f3, a5_vR_f3, c5_vR_f3, rfl, ho, hb20⟩
                  go_wp2_with fail
                  exact freePost _ rfl ⟨hb20, Exists.intro a2_vR_f3 (Exists.intro c2_vR_f3 (Exists.intro a4_vR_f3 (Exists.intro c4_vR_f3 (Exists.intro a5_vR_f3 (Exists.intro c5_vR_f3 (And.intro upd_self ho))))))⟩
                · intro V L H w19 hb19 hd
                  obtain ⟨⟨hL1, hM1, hH1, a0_vG_f1, c0_vG_f1, a1_vG_f1, c1_vG_f1, hv1, ho1_⟩, ⟨hL3, hM3, hH3, a2_vR_f3, c2_vR_f3, a4_vR_f3, c4_vR_f3, a5_vR_f3, c5_vR_f3, hv3, ho3_⟩, -⟩ := hd
                  rw [hv1, hv3]
                  have HV1 := Lib.hid hv1
                  have HV3 := Lib.hid hv3
                  clear hv1 hv3
                  have sz19_paG : w.heap.size < w19.heap.size := Nat.lt_of_lt_of_le sz18_paG hb19.size
                  have bx19_paG_0 : w19.cell? ⟨w.heap.size, 0, none⟩ = some (.slice a0_vG vG.fSymbols.length c0_vG) := (hb19.cell (p := ⟨w.heap.size, 0, none⟩) sz18_paG).trans bx18_paG_0
                  have bx19_paG_1 : w19.cell? ⟨w.heap.size, 1, none⟩ = some (.slice a1_vG vG.fRules.length c1_vG) := (hb19.cell (p := ⟨w.heap.size, 1, none⟩) sz18_paG).trans bx18_paG_1
                  have sz19_paR : w.heap.size + 1 < w19.heap.size := Nat.lt_of_lt_of_le sz18_paR hb19.size
                  have bx19_paR_0 : w19.cell? ⟨w.heap.size + 1, 0, none⟩ = some (.string vR.fName) := (hb19.cell (p := ⟨w.heap.size + 1, 0, none⟩) sz18_paR).trans bx18_paR_0
                  have bx19_paR_1 : w19.cell? ⟨w.heap.size + 1, 1, none⟩ = some (.string vR.fLeft) := (hb19.cell (p := ⟨w.heap.size + 1, 1, none⟩) sz18_paR).trans bx18_paR_1
                  have bx19_paR_2 : w19.cell? ⟨w.heap.size + 1, 2, none⟩ = some (.slice a2_vR vR.fRight.length c2_vR) := (hb19.cell (p := ⟨w.heap.size + 1, 2, none⟩) sz18_paR).trans bx18_paR_2
                  have bx19_paR_3 : w19.cell? ⟨w.heap.size + 1, 3, none⟩ = some (.bool vR.fLiteral) := (hb19.cell (p := ⟨w.heap.size + 1, 3, none⟩) sz18_paR).trans bx18_paR_3
                  have bx19_paR_4 : w19.cell? ⟨w.heap.size + 1, 4, none⟩ = some (.slice a4_vR vR.fEquations.length c4_vR) := (hb19.cell (p := ⟨w.heap.size + 1, 4, none⟩) sz18_paR).trans bx18_paR_4
                  have bx19_paR_5 : w19.cell? ⟨w.heap.size + 1, 5, none⟩ = some (.slice a5_vR vR.fContributions.length c5_vR) := (hb19.cell (p := ⟨w.heap.size + 1, 5, none⟩) sz18_paR).trans bx18_paR_5
                  have sz19_w0 : bV5 < w19.heap.size := Nat.lt_of_lt_of_le sz18_w0 hb19.size
                  have bx19_w0_0 : w19.cell? ⟨bV5, 0, none⟩ = some (.int .i64 (locRel vG vR).fN) := (hb19.cell (p := ⟨bV5, 0, none⟩) sz18_w0).trans bx18_w0_0
                  have bx19_w0_1 : w19.cell? ⟨bV5, 1, none⟩ = some (.slice a1_R_5 (locRel vG vR).fRows.length c1_R_5) := (hb19.cell (p := ⟨bV5, 1, none⟩) sz18_w0).trans bx18_w0_1
                  have sz19_x0 : w6.heap.size < w19.heap.size := Nat.lt_of_lt_of_le sz18_x0 hb19.size
                  have bx19_x0_0 : w19.cell? ⟨w6.heap.size, 0, none⟩ = some (.slice a0_vG_6 vG.fSymbols.length c0_vG_6) := (hb19.cell (p := ⟨w6.heap.size, 0, none⟩) sz18_x0).trans bx18_x0_0
                  have bx19_x0_1 : w19.cell? ⟨w6.heap.size, 1, none⟩ = some (.slice a1_vG_6 vG.fRules.length c1_vG_6) := (hb19.cell (p := ⟨w6.heap.size, 1, none⟩) sz18_x0).trans bx18_x0_1
                  have sz19_x1 : w7.heap.size < w19.heap.size := Nat.lt_of_lt_of_le sz18_x1 hb19.size
                  have bx19_x1_0 : w19.cell? ⟨w7.heap.size, 0, none⟩ = some (.string vR.fName) := (hb19.cell (p := ⟨w7.heap.size, 0, none⟩) sz18_x1).trans bx18_x1_0
                  have bx19_x1_1 : w19.cell? ⟨w7.heap.size, 1, none⟩ = some (.string vR.fLeft) := (hb19.cell (p := ⟨w7.heap.size, 1, none⟩) sz18_x1).trans bx18_x1_1
                  have bx19_x1_2 : w19.cell? ⟨w7.heap.size, 2, none⟩ = some (.slice a2_vR_7 vR.fRight.length c2_vR_7) := (hb19.cell (p := ⟨w7.heap.size, 2, none⟩) sz18_x1).trans bx18_x1_2
                  have bx19_x1_3 : w19.cell? ⟨w7.heap.size, 3, none⟩ = some (.bool vR.fLiteral) := (hb19.cell (p := ⟨w7.heap.size, 3, none⟩) sz18_x1).trans bx18_x1_3
                  have bx19_x1_4 : w19.cell? ⟨w7.heap.size, 4, none⟩ = some (.slice a4_vR_7 vR.fEquations.length c4_vR_7) := (hb19.cell (p := ⟨w7.heap.size, 4, none⟩) sz18_x1).trans bx18_x1_4
                  have bx19_x1_5 : w19.cell? ⟨w7.heap.size, 5, none⟩ = some (.slice a5_vR_7 vR.fContributions.length c5_vR_7) := (hb19.cell (p := ⟨w7.heap.size, 5, none⟩) sz18_x1).trans bx18_x1_5
                  have sz19_g0 : w8.heap.size < w19.heap.size := Nat.lt_of_lt_of_le sz18_g0 hb19.size
                  have bx19_g0_0 : w19.cell? ⟨w8.heap.size, 0, none⟩ = some (.int .i64 (locRel vG vR).fN) := (hb19.cell (p := ⟨w8.heap.size, 0, none⟩) sz18_g0).trans bx18_g0_0
                  have bx19_g0_1 : w19.cell? ⟨w8.heap.size, 1, none⟩ = some (.slice a1_R_8 (locRel vG vR).fRows.length c1_R_8) := (hb19.cell (p := ⟨w8.heap.size, 1, none⟩) sz18_g0).trans bx18_g0_1
                  have HO19_1_R_5 := Lib.hid (HO18_1_R_5.out.kept (Kept.of_below_all hb19))
                  have HO19_1_R_8 := Lib.hid (HO18_1_R_8.out.kept (Kept.of_below_all hb19))
                  have HO19_0_vG_10 := Lib.hid (HO18_0_vG_10.out.kept (Kept.of_below_all hb19))
                  have HO19_1_vG_10 := Lib.hid (HO18_1_vG_10.out.kept (Kept.of_below_all hb19))
                  have HO19_2_vR_12 := Lib.hid (HO18_2_vR_12.out.kept (Kept.of_below_all hb19))
                  have HO19_4_vR_12 := Lib.hid (HO18_4_vR_12.out.kept (Kept.of_below_all hb19))
                  have HO19_5_vR_12 := Lib.hid (HO18_5_vR_12.out.kept (Kept.of_below_all hb19))
                  have HB19 := Lib.hid (HB18.out.trans (hb19.mono HB18.out.size))
                  clear sz18_paG bx18_paG_0 bx18_paG_1 sz18_paR bx18_paR_0 bx18_paR_1 bx18_paR_2 bx18_paR_3 bx18_paR_4 bx18_paR_5 sz18_w0 bx18_w0_0 bx18_w0_1 sz18_x0 bx18_x0_0 bx18_x0_1 sz18_x1 bx18_x1_0 bx18_x1_1 bx18_x1_2 bx18_x1_3 bx18_x1_4 bx18_x1_5 sz18_g0 bx18_g0_0 bx18_g0_1
                  have HO_0_vG_f1 := Lib.hid (show Own w19 (fun y => L 1 ≤ y ∧ y < H 1) (.sl 2 vG.fSymbols.length (fun k => DSymbol.ct (vG.fSymbols.getD k default))) (.slice a0_vG_f1 vG.fSymbols.length c0_vG_f1) from OwnR.at ho1_ 0 (by decide))
                  have HO_1_vG_f1 := Lib.hid (show Own w19 (fun y => L 1 ≤ y ∧ y < H 1) (.sl 6 vG.fRules.length (fun k => DRule.ct (vG.fRules.getD k default))) (.slice a1_vG_f1 vG.fRules.length c1_vG_f1) from OwnR.at ho1_ 1 (by decide))
                  clear ho1_
                  have HO_2_vR_f3 := Lib.hid (show Own w19 (fun y => L 3 ≤ y ∧ y < H 3) (.sl 1 vR.fRight.length (fun k => ictS (vR.fRight.getD k default))) (.slice a2_vR_f3 vR.fRight.length c2_vR_f3) from OwnR.at ho3_ 2 (by decide))
                  have HO_4_vR_f3 := Lib.hid (show Own w19 (fun y => L 3 ≤ y ∧ y < H 3) (.sl 9 vR.fEquations.length (fun k => DEquation.ct (vR.fEquations.getD k default))) (.slice a4_vR_f3 vR.fEquations.length c4_vR_f3) from OwnR.at ho3_ 4 (by decide))
                  have HO_5_vR_f3 := Lib.hid (show Own w19 (fun y => L 3 ≤ y ∧ y < H 3) (.sl 16 vR.fContributions.length (fun k => DContribution.ct (vR.fContributions.getD k default))) (.slice a5_vR_f3 vR.fContributions.length c5_vR_f3) from OwnR.at ho3_ 5 (by decide))
                  clear ho3_
                  go_wp2_with fail
                  refine (impl_LocalRelation (c0_0 := c0_vG_f1) (c0_1 := c1_vG_f1) (c1_0 := c2_vR_f3) (c1_1 := c4_vR_f3) (c1_2 := c5_vR_f3) vG OK_vG.out hq_vG vR OK_vR.out hq_vR _ (Below.size (by repeat (first | (with_reducible exact Below.refl _ _) | (with_reducible apply Below.drew) | (with_reducible refine below_drewN ?_ _) | (refine Below.setCell ?_ (by simp <;> omega) _) | (refine Below.alloc ?_ (by simp <;> omega) _)) : Below w19.heap.size w19 _)) ((Sf.of (HO_0_vG_f1.out.soft (lo := 0) (hi := w19.heap.size) (fun y hy => ⟨Nat.zero_le _, by have := hy.2; omega⟩))).later (by repeat (first | (with_reducible exact Below.refl _ _) | (with_reducible apply Below.drew) | (with_reducible refine below_drewN ?_ _) | (refine Below.setCell ?_ (by simp <;> omega) _) | (refine Below.alloc ?_ (by simp <;> omega) _)) : Below w19.heap.size w19 _) (Nat.le_refl _)) ((Sf.of (HO_1_vG_f1.out.soft (lo := 0) (hi := w19.heap.size) (fun y hy => ⟨Nat.zero_le _, by have := hy.2; omega⟩))).later (by repeat (first | (with_reducible exact Below.refl _ _) | (with_reducible apply Below.drew) | (with_reducible refine below_drewN ?_ _) | (refine Below.setCell ?_ (by simp <;> omega) _) | (refine Below.alloc ?_ (by simp <;> omega) _)) : Below w19.heap.size w19 _) (Nat.le_refl _)) ((Sf.of (HO_2_vR_f3.out.soft (lo := 0) (hi := w19.heap.size) (fun y hy => ⟨Nat.zero_le _, by have := hy.2; omega⟩))).later (by repeat (first | (with_reducible exact Below.refl _ _) | (with_reducible apply Below.drew) | (with_reducible refine below_drewN ?_ _) | (refine Below.setCell ?_ (by simp <;> omega) _) | (refine Below.alloc ?_ (by simp <;> omega) _)) : Below w19.heap.size w19 _) (Nat.le_refl _)) ((Sf.of (HO_4_vR_f3.out.soft (lo := 0) (hi := w19.heap.size) (fun y hy => ⟨Nat.zero_le _, by have := hy.2; omega⟩))).later (by repeat (first | (with_reducible exact Below.refl _ _) | (with_reducible apply Below.drew) | (with_reducible refine below_drewN ?_ _) | (refine Below.setCell ?_ (by simp <;> omega) _) | (refine Below.alloc ?_ (by simp <;> omega) _)) : Below w19.heap.size w19 _) (Nat.le_refl _)) ((Sf.of (HO_5_vR_f3.out.soft (lo := 0) (hi := w19.heap.size) (fun y hy => ⟨Nat.zero_le _, by have := hy.2; omega⟩))).later (by repeat (first | (with_reducible exact Below.refl _ _) | (with_reducible apply Below.drew) | (with_reducible refine below_drewN ?_ _) | (refine Below.setCell ?_ (by simp <;> omega) _) | (refine Below.alloc ?_ (by simp <;> omega) _)) : Below w19.heap.size w19 _) (Nat.le_refl _))).mono ?_
                  rintro e w20 ⟨a1_R_f4, c1_R_f4, rfl, ho, hb20⟩
                  go_wp2_with fail
                  exact freePost _ rfl ⟨hb20, Exists.intro a1_R_f4 (Exists.intro c1_R_f4 (And.intro upd_self ho))⟩
                · intro V L H w19 hb19 hd
                  clear hd
                  have HB19 := Lib.hid (HB18.out.trans (hb19.mono HB18.out.size))
                  clear sz18_paG bx18_paG_0 bx18_paG_1 sz18_paR bx18_paR_0 bx18_paR_1 bx18_paR_2 bx18_paR_3 bx18_paR_4 bx18_paR_5 sz18_w0 bx18_w0_0 bx18_w0_1 sz18_x0 bx18_x0_0 bx18_x0_1 sz18_x1 bx18_x1_0 bx18_x1_1 bx18_x1_2 bx18_x1_3 bx18_x1_4 bx18_x1_5 sz18_g0 bx18_g0_0 bx18_g0_1
                  go_wp2_with fail
                  refine freePost _ rfl ⟨Below.alloc (Below.refl _ _) (Nat.le_refl _) _, upd_self, ?_, ?_, ?_, ?_, ?_⟩
                  · simp
                  all_goals go_simp
                · intro V L H w19 hb19 hd
                  obtain ⟨⟨hL5, hM5, hH5, hv5, hlt5, hc5_0, hf5_0, hc5_1, hf5_1⟩, ⟨hL4, hM4, hH4, a1_R_f4, c1_R_f4, hv4, ho4_⟩, -⟩ := hd
                  rw [hv5, hv4]
                  have HV5 := Lib.hid hv5
                  have HV4 := Lib.hid hv4
                  clear hv5 hv4
                  have HB19 := Lib.hid (HB18.out.trans (hb19.mono HB18.out.size))
                  clear sz18_paG bx18_paG_0 bx18_paG_1 sz18_paR bx18_paR_0 bx18_paR_1 bx18_paR_2 bx18_paR_3 bx18_paR_4 bx18_paR_5 sz18_w0 bx18_w0_0 bx18_w0_1 sz18_x0 bx18_x0_0 bx18_x0_1 sz18_x1 bx18_x1_0 bx18_x1_1 bx18_x1_2 bx18_x1_3 bx18_x1_4 bx18_x1_5 sz18_g0 bx18_g0_0 bx18_g0_1
                  go_wp2_with fail
                  refine freePost undef rfl ⟨(Touches.put (L := L 5) (H := H 5) (Touches.put (L := L 5) (H := H 5) Touches.refl (p := ⟨L 5, 0, none⟩) ⟨Nat.le_refl _, hlt5⟩ _) (p := ⟨L 5, 1, none⟩) ⟨Nat.le_refl _, hlt5⟩ _), fun x0 x1 h => ?_⟩
                  cases (HV4.out.symm.trans ((upd_ne (by decide)).symm.trans h))
                  refine ⟨hlt5, ?_, ?_⟩
                  all_goals go_simp
                · intro V L H w19 hb19 hd hap hdead
                  obtain ⟨⟨hL0, hM0, hH0, hv0⟩, ⟨hL1, hM1, hH1, a0_vG_f1, c0_vG_f1, a1_vG_f1, c1_vG_f1, hv1, ho1_⟩, ⟨hL2, hM2, hH2, hv2⟩, ⟨hL3, hM3, hH3, a2_vR_f3, c2_vR_f3, a4_vR_f3, c4_vR_f3, a5_vR_f3, c5_vR_f3, hv3, ho3_⟩, ⟨hL4, hM4, hH4, a1_R_f4, c1_R_f4, hv4, ho4_⟩, ⟨hL6, hM6, hH6, hst6_⟩, -⟩ := hd
                  obtain ⟨hLe, hHe, wo, hva, -⟩ := hdead 6 5 (by decide) rfl
                  have hv4' := hv4
                  obtain ⟨hlt, hc0, hc1⟩ := hst6_ _ _ hv4'
                  rw [hv0, hv2, hv4', hva, hv1, hv3]
                  clear hv0 hv2 hv4' hva hv1 hv3 hv4
                  have hdis := hap 6 4 (by decide) (by decide) (by decide)
                  clear hap hdead
                  have HLe := Lib.hid hLe
                  have HHe := Lib.hid hHe
                  clear hLe hHe
                  go_wp2_with fail
                  go_meet
                  have hLe := HLe.out
                  have hHe := HHe.out
                  refine ⟨L 5, L 4, H 4, a1_R_f4, c1_R_f4, rfl, ?_, ?_, ho4_, ?_, ?_, ?_, ?_, ?_, hb19⟩
                  · rw [← hLe]; exact hc0
                  · rw [← hLe]; exact hc1
                  · omega
                  · omega
                  · omega
                  · omega
                  · omega
            case rest =>
              obtain ⟨bV21, lV21, hV21, a1_R_21, c1_R_21, rfl, bx21_h0_0, bx21_h0_1, ho21, sz21_h0, hB21, hL21, hH21, hD21, hb21⟩ := hcut
              obtain ⟨w21, rfl⟩ : ∃ w_ : World, w_ = wc := ⟨_, rfl⟩
              have hr21 : w18.heap.size ≤ w21.heap.size := hb21.size
              have hK21 : bV21 < w21.heap.size := sz21_h0
              have sz21_paG : w.heap.size < w21.heap.size := Nat.lt_of_lt_of_le sz18_paG hb21.size
              have bx21_paG_0 : w21.cell? ⟨w.heap.size, 0, none⟩ = some (.slice a0_vG vG.fSymbols.length c0_vG) := (hb21.cell (p := ⟨w.heap.size, 0, none⟩) sz18_paG).trans bx18_paG_0
              have bx21_paG_1 : w21.cell? ⟨w.heap.size, 1, none⟩ = some (.slice a1_vG vG.fRules.length c1_vG) := (hb21.cell (p := ⟨w.heap.size, 1, none⟩) sz18_paG).trans bx18_paG_1
              have sz21_paR : w.heap.size + 1 < w21.heap.size := Nat.lt_of_lt_of_le sz18_paR hb21.size
              have bx21_paR_0 : w21.cell? ⟨w.heap.size + 1, 0, none⟩ = some (.string vR.fName) := (hb21.cell (p := ⟨w.heap.size + 1, 0, none⟩) sz18_paR).trans bx18_paR_0
              have bx21_paR_1 : w21.cell? ⟨w.heap.size + 1, 1, none⟩ = some (.string vR.fLeft) := (hb21.cell (p := ⟨w.heap.size + 1, 1, none⟩) sz18_paR).trans bx18_paR_1
              have bx21_paR_2 : w21.cell? ⟨w.heap.size + 1, 2, none⟩ = some (.slice a2_vR vR.fRight.length c2_vR) := (hb21.cell (p := ⟨w.heap.size + 1, 2, none⟩) sz18_paR).trans bx18_paR_2
              have bx21_paR_3 : w21.cell? ⟨w.heap.size + 1, 3, none⟩ = some (.bool vR.fLiteral) := (hb21.cell (p := ⟨w.heap.size + 1, 3, none⟩) sz18_paR).trans bx18_paR_3
              have bx21_paR_4 : w21.cell? ⟨w.heap.size + 1, 4, none⟩ = some (.slice a4_vR vR.fEquations.length c4_vR) := (hb21.cell (p := ⟨w.heap.size + 1, 4, none⟩) sz18_paR).trans bx18_paR_4
              have bx21_paR_5 : w21.cell? ⟨w.heap.size + 1, 5, none⟩ = some (.slice a5_vR vR.fContributions.length c5_vR) := (hb21.cell (p := ⟨w.heap.size + 1, 5, none⟩) sz18_paR).trans bx18_paR_5
              have sz21_w0 : bV5 < w21.heap.size := Nat.lt_of_lt_of_le sz18_w0 hb21.size
              have bx21_w0_0 : w21.cell? ⟨bV5, 0, none⟩ = some (.int .i64 (locRel vG vR).fN) := (hb21.cell (p := ⟨bV5, 0, none⟩) sz18_w0).trans bx18_w0_0
              have bx21_w0_1 : w21.cell? ⟨bV5, 1, none⟩ = some (.slice a1_R_5 (locRel vG vR).fRows.length c1_R_5) := (hb21.cell (p := ⟨bV5, 1, none⟩) sz18_w0).trans bx18_w0_1
              have sz21_x0 : w6.heap.size < w21.heap.size := Nat.lt_of_lt_of_le sz18_x0 hb21.size
              have bx21_x0_0 : w21.cell? ⟨w6.heap.size, 0, none⟩ = some (.slice a0_vG_6 vG.fSymbols.length c0_vG_6) := (hb21.cell (p := ⟨w6.heap.size, 0, none⟩) sz18_x0).trans bx18_x0_0
              have bx21_x0_1 : w21.cell? ⟨w6.heap.size, 1, none⟩ = some (.slice a1_vG_6 vG.fRules.length c1_vG_6) := (hb21.cell (p := ⟨w6.heap.size, 1, none⟩) sz18_x0).trans bx18_x0_1
              have sz21_x1 : w7.heap.size < w21.heap.size := Nat.lt_of_lt_of_le sz18_x1 hb21.size
              have bx21_x1_0 : w21.cell? ⟨w7.heap.size, 0, none⟩ = some (.string vR.fName) := (hb21.cell (p := ⟨w7.heap.size, 0, none⟩) sz18_x1).trans bx18_x1_0
              have bx21_x1_1 : w21.cell? ⟨w7.heap.size, 1, none⟩ = some (.string vR.fLeft) := (hb21.cell (p := ⟨w7.heap.size, 1, none⟩) sz18_x1).trans bx18_x1_1
              have bx21_x1_2 : w21.cell? ⟨w7.heap.size, 2, none⟩ = some (.slice a2_vR_7 vR.fRight.length c2_vR_7) := (hb21.cell (p := ⟨w7.heap.size, 2, none⟩) sz18_x1).trans bx18_x1_2
              have bx21_x1_3 : w21.cell? ⟨w7.heap.size, 3, none⟩ = some (.bool vR.fLiteral) := (hb21.cell (p := ⟨w7.heap.size, 3, none⟩) sz18_x1).trans bx18_x1_3
              have bx21_x1_4 : w21.cell? ⟨w7.heap.size, 4, none⟩ = some (.slice a4_vR_7 vR.fEquations.length c4_vR_7) := (hb21.cell (p := ⟨w7.heap.size, 4, none⟩) sz18_x1).trans bx18_x1_4
              have bx21_x1_5 : w21.cell? ⟨w7.heap.size, 5, none⟩ = some (.slice a5_vR_7 vR.fContributions.length c5_vR_7) := (hb21.cell (p := ⟨w7.heap.size, 5, none⟩) sz18_x1).trans bx18_x1_5
              have sz21_g0 : w8.heap.size < w21.heap.size := Nat.lt_of_lt_of_le sz18_g0 hb21.size
              have bx21_g0_0 : w21.cell? ⟨w8.heap.size, 0, none⟩ = some (.int .i64 (locRel vG vR).fN) := (hb21.cell (p := ⟨w8.heap.size, 0, none⟩) sz18_g0).trans bx18_g0_0
              have bx21_g0_1 : w21.cell? ⟨w8.heap.size, 1, none⟩ = some (.slice a1_R_8 (locRel vG vR).fRows.length c1_R_8) := (hb21.cell (p := ⟨w8.heap.size, 1, none⟩) sz18_g0).trans bx18_g0_1
              have HO21_1_R_5 := Lib.hid (HO18_1_R_5.out.kept (Kept.of_below_all hb21))
              have HO21_1_R_8 := Lib.hid (HO18_1_R_8.out.kept (Kept.of_below_all hb21))
              have HO21_0_vG_10 := Lib.hid (HO18_0_vG_10.out.kept (Kept.of_below_all hb21))
              have HO21_1_vG_10 := Lib.hid (HO18_1_vG_10.out.kept (Kept.of_below_all hb21))
              have HO21_2_vR_12 := Lib.hid (HO18_2_vR_12.out.kept (Kept.of_below_all hb21))
              have HO21_4_vR_12 := Lib.hid (HO18_4_vR_12.out.kept (Kept.of_below_all hb21))
              have HO21_5_vR_12 := Lib.hid (HO18_5_vR_12.out.kept (Kept.of_below_all hb21))
              have HO21_1_R_21 := Lib.hid ho21
              have HB21 := Lib.hid (HB18.out.trans (hb21.mono HB18.out.size))
              clear hb21 ho21 bx18_paG_0 bx18_paG_1 sz18_paG bx18_paR_0 bx18_paR_1 bx18_paR_2 bx18_paR_3 bx18_paR_4 bx18_paR_5 sz18_paR bx18_w0_0 bx18_w0_1 sz18_w0 bx18_x0_0 bx18_x0_1 sz18_x0 bx18_x1_0 bx18_x1_1 bx18_x1_2 bx18_x1_3 bx18_x1_4 bx18_x1_5 sz18_x1 bx18_g0_0 bx18_g0_1 sz18_g0 HO18_1_R_5 HO18_1_R_8 HO18_0_vG_10 HO18_1_vG_10 HO18_2_vR_12 HO18_4_vR_12 HO18_5_vR_12 HB18
              go_wp2_with fail
              refine (laws_eqRelation (c1 := c1_R_21) (c1q := c1_R_5) (locRel vG vR) hq_R _ (Below.size (by repeat (first | (with_reducible exact Below.refl _ _) | (with_reducible apply Below.drew) | (with_reducible refine below_drewN ?_ _) | (refine Below.setCell ?_ (by simp <;> omega) _) | (refine Below.alloc ?_ (by simp <;> omega) _)) : Below w21.heap.size w21 _)) (Below.size (by repeat (first | (with_reducible exact Below.refl _ _) | (with_reducible apply Below.drew) | (with_reducible refine below_drewN ?_ _) | (refine Below.setCell ?_ (by simp <;> omega) _) | (refine Below.alloc ?_ (by simp <;> omega) _)) : Below w21.heap.size w21 _)) ((Sl.of (HO21_1_R_21.out.lies (lo := 0) (hi := w21.heap.size) (fun y hy => ⟨Nat.zero_le _, by have := hy.2; omega⟩))).later (by repeat (first | (with_reducible exact Below.refl _ _) | (with_reducible apply Below.drew) | (with_reducible refine below_drewN ?_ _) | (refine Below.setCell ?_ (by simp <;> omega) _) | (refine Below.alloc ?_ (by simp <;> omega) _)) : Below w21.heap.size w21 _) (Nat.le_refl _)) ((Sl.of (HO21_1_R_5.out.lies (lo := 0) (hi := w21.heap.size) (fun y hy => ⟨Nat.zero_le _, by have := hy.2; omega⟩))).later (by repeat (first | (with_reducible exact Below.refl _ _) | (with_reducible apply Below.drew) | (with_reducible refine below_drewN ?_ _) | (refine Below.setCell ?_ (by simp <;> omega) _) | (refine Below.alloc ?_ (by simp <;> omega) _)) : Below w21.heap.size w21 _) (Nat.le_refl _))).mono ?_
              rintro e w22 ⟨rfl, hb22⟩
              have hst22 : Below w21.heap.size w21 w22 := Below.trans (by repeat (first | (with_reducible exact Below.refl _ _) | (with_reducible apply Below.drew) | (with_reducible refine below_drewN ?_ _) | (refine Below.setCell ?_ (by simp <;> omega) _) | (refine Below.alloc ?_ (by simp <;> omega) _)) : Below w21.heap.size w21 _) (hb22.mono (Below.size (by repeat (first | (with_reducible exact Below.refl _ _) | (with_reducible apply Below.drew) | (with_reducible refine below_drewN ?_ _) | (refine Below.setCell ?_ (by simp <;> omega) _) | (refine Below.alloc ?_ (by simp <;> omega) _)) : Below w21.heap.size w21 _)))
              have hr22 : w21.heap.size ≤ w22.heap.size := Nat.le_trans (by first | exact Nat.le_refl _ | (simp; done) | (simp; omega) | (simp [World.setCell]; done) | (simp [World.setCell]; omega)) hb22.size
              have sz22_paG : w.heap.size < w22.heap.size := Nat.lt_of_lt_of_le sz21_paG hst22.size
              have bx22_paG_0 : w22.cell? ⟨w.heap.size, 0, none⟩ = some (.slice a0_vG vG.fSymbols.length c0_vG) := (hst22.cell (p := ⟨w.heap.size, 0, none⟩) sz21_paG).trans bx21_paG_0
              have bx22_paG_1 : w22.cell? ⟨w.heap.size, 1, none⟩ = some (.slice a1_vG vG.fRules.length c1_vG) := (hst22.cell (p := ⟨w.heap.size, 1, none⟩) sz21_paG).trans bx21_paG_1
              have sz22_paR : w.heap.size + 1 < w22.heap.size := Nat.lt_of_lt_of_le sz21_paR hst22.size
              have bx22_paR_0 : w22.cell? ⟨w.heap.size + 1, 0, none⟩ = some (.string vR.fName) := (hst22.cell (p := ⟨w.heap.size + 1, 0, none⟩) sz21_paR).trans bx21_paR_0
              have bx22_paR_1 : w22.cell? ⟨w.heap.size + 1, 1, none⟩ = some (.string vR.fLeft) := (hst22.cell (p := ⟨w.heap.size + 1, 1, none⟩) sz21_paR).trans bx21_paR_1
              have bx22_paR_2 : w22.cell? ⟨w.heap.size + 1, 2, none⟩ = some (.slice a2_vR vR.fRight.length c2_vR) := (hst22.cell (p := ⟨w.heap.size + 1, 2, none⟩) sz21_paR).trans bx21_paR_2
              have bx22_paR_3 : w22.cell? ⟨w.heap.size + 1, 3, none⟩ = some (.bool vR.fLiteral) := (hst22.cell (p := ⟨w.heap.size + 1, 3, none⟩) sz21_paR).trans bx21_paR_3
              have bx22_paR_4 : w22.cell? ⟨w.heap.size + 1, 4, none⟩ = some (.slice a4_vR vR.fEquations.length c4_vR) := (hst22.cell (p := ⟨w.heap.size + 1, 4, none⟩) sz21_paR).trans bx21_paR_4
              have bx22_paR_5 : w22.cell? ⟨w.heap.size + 1, 5, none⟩ = some (.slice a5_vR vR.fContributions.length c5_vR) := (hst22.cell (p := ⟨w.heap.size + 1, 5, none⟩) sz21_paR).trans bx21_paR_5
              have sz22_w0 : bV5 < w22.heap.size := Nat.lt_of_lt_of_le sz21_w0 hst22.size
              have bx22_w0_0 : w22.cell? ⟨bV5, 0, none⟩ = some (.int .i64 (locRel vG vR).fN) := (hst22.cell (p := ⟨bV5, 0, none⟩) sz21_w0).trans bx21_w0_0
              have bx22_w0_1 : w22.cell? ⟨bV5, 1, none⟩ = some (.slice a1_R_5 (locRel vG vR).fRows.length c1_R_5) := (hst22.cell (p := ⟨bV5, 1, none⟩) sz21_w0).trans bx21_w0_1
              have sz22_x0 : w6.heap.size < w22.heap.size := Nat.lt_of_lt_of_le sz21_x0 hst22.size
              have bx22_x0_0 : w22.cell? ⟨w6.heap.size, 0, none⟩ = some (.slice a0_vG_6 vG.fSymbols.length c0_vG_6) := (hst22.cell (p := ⟨w6.heap.size, 0, none⟩) sz21_x0).trans bx21_x0_0
              have bx22_x0_1 : w22.cell? ⟨w6.heap.size, 1, none⟩ = some (.slice a1_vG_6 vG.fRules.length c1_vG_6) := (hst22.cell (p := ⟨w6.heap.size, 1, none⟩) sz21_x0).trans bx21_x0_1
              have sz22_x1 : w7.heap.size < w22.heap.size := Nat.lt_of_lt_of_le sz21_x1 hst22.size
              have bx22_x1_0 : w22.cell? ⟨w7.heap.size, 0, none⟩ = some (.string vR.fName) := (hst22.cell (p := ⟨w7.heap.size, 0, none⟩) sz21_x1).trans bx21_x1_0
              have bx22_x1_1 : w22.cell? ⟨w7.heap.size, 1, none⟩ = some (.string vR.fLeft) := (hst22.cell (p := ⟨w7.heap.size, 1, none⟩) sz21_x1).trans bx21_x1_1
              have bx22_x1_2 : w22.cell? ⟨w7.heap.size, 2, none⟩ = some (.slice a2_vR_7 vR.fRight.length c2_vR_7) := (hst22.cell (p := ⟨w7.heap.size, 2, none⟩) sz21_x1).trans bx21_x1_2
              have bx22_x1_3 : w22.cell? ⟨w7.heap.size, 3, none⟩ = some (.bool vR.fLiteral) := (hst22.cell (p := ⟨w7.heap.size, 3, none⟩) sz21_x1).trans bx21_x1_3
              have bx22_x1_4 : w22.cell? ⟨w7.heap.size, 4, none⟩ = some (.slice a4_vR_7 vR.fEquations.length c4_vR_7) := (hst22.cell (p := ⟨w7.heap.size, 4, none⟩) sz21_x1).trans bx21_x1_4
              have bx22_x1_5 : w22.cell? ⟨w7.heap.size, 5, none⟩ = some (.slice a5_vR_7 vR.fContributions.length c5_vR_7) := (hst22.cell (p := ⟨w7.heap.size, 5, none⟩) sz21_x1).trans bx21_x1_5
              have sz22_g0 : w8.heap.size < w22.heap.size := Nat.lt_of_lt_of_le sz21_g0 hst22.size
              have bx22_g0_0 : w22.cell? ⟨w8.heap.size, 0, none⟩ = some (.int .i64 (locRel vG vR).fN) := (hst22.cell (p := ⟨w8.heap.size, 0, none⟩) sz21_g0).trans bx21_g0_0
              have bx22_g0_1 : w22.cell? ⟨w8.heap.size, 1, none⟩ = some (.slice a1_R_8 (locRel vG vR).fRows.length c1_R_8) := (hst22.cell (p := ⟨w8.heap.size, 1, none⟩) sz21_g0).trans bx21_g0_1
              have sz22_h0 : bV21 < w22.heap.size := Nat.lt_of_lt_of_le sz21_h0 hst22.size
              have bx22_h0_0 : w22.cell? ⟨bV21, 0, none⟩ = some (.int .i64 (locRel vG vR).fN) := (hst22.cell (p := ⟨bV21, 0, none⟩) sz21_h0).trans bx21_h0_0
              have bx22_h0_1 : w22.cell? ⟨bV21, 1, none⟩ = some (.slice a1_R_21 (locRel vG vR).fRows.length c1_R_21) := (hst22.cell (p := ⟨bV21, 1, none⟩) sz21_h0).trans bx21_h0_1
              have HO22_1_R_5 := Lib.hid (HO21_1_R_5.out.kept (Kept.of_below_all hst22))
              have HO22_1_R_8 := Lib.hid (HO21_1_R_8.out.kept (Kept.of_below_all hst22))
              have HO22_0_vG_10 := Lib.hid (HO21_0_vG_10.out.kept (Kept.of_below_all hst22))
              have HO22_1_vG_10 := Lib.hid (HO21_1_vG_10.out.kept (Kept.of_below_all hst22))
              have HO22_2_vR_12 := Lib.hid (HO21_2_vR_12.out.kept (Kept.of_below_all hst22))
              have HO22_4_vR_12 := Lib.hid (HO21_4_vR_12.out.kept (Kept.of_below_all hst22))
              have HO22_5_vR_12 := Lib.hid (HO21_5_vR_12.out.kept (Kept.of_below_all hst22))
              have HO22_1_R_21 := Lib.hid (HO21_1_R_21.out.kept (Kept.of_below_all hst22))
              have HB22 := Lib.hid (HB21.out.trans (hst22.mono HB21.out.size))
              clear bx21_paG_0 bx21_paG_1 sz21_paG bx21_paR_0 bx21_paR_1 bx21_paR_2 bx21_paR_3 bx21_paR_4 bx21_paR_5 sz21_paR bx21_w0_0 bx21_w0_1 sz21_w0 bx21_x0_0 bx21_x0_1 sz21_x0 bx21_x1_0 bx21_x1_1 bx21_x1_2 bx21_x1_3 bx21_x1_4 bx21_x1_5 sz21_x1 bx21_g0_0 bx21_g0_1 sz21_g0 bx21_h0_0 bx21_h0_1 sz21_h0 HO21_1_R_5 HO21_1_R_8 HO21_0_vG_10 HO21_1_vG_10 HO21_2_vR_12 HO21_4_vR_12 HO21_5_vR_12 HO21_1_R_21 hb22 hst22 HB21
              go_wp2_with fail
              refine (laws_heldRelation (c1 := c1_R_8) (locRel vG vR) (by have h1 := locRel_len vG vR; omega) 1 (by have h1 := locRel_len vG vR; omega) _ (fun y hy => Nat.lt_of_lt_of_le (show y < w22.heap.size by have := hy.2; omega) (Below.size (by repeat (first | (with_reducible exact Below.refl _ _) | (with_reducible apply Below.drew) | (with_reducible refine below_drewN ?_ _) | (refine Below.setCell ?_ (by simp <;> omega) _) | (refine Below.alloc ?_ (by simp <;> omega) _)) : Below w22.heap.size w22 _))) (HO22_1_R_8.out.kept (Kept.of_below (by repeat (first | (with_reducible exact Below.refl _ _) | (with_reducible apply Below.drew) | (with_reducible refine below_drewN ?_ _) | (refine Below.setCell ?_ (by simp <;> omega) _) | (refine Below.alloc ?_ (by simp <;> omega) _)) : Below w22.heap.size w22 _) (fun y hy => by have := hy.2; omega)))).mono ?_
              rintro e w23 ⟨rfl, hb23⟩
              have hst23 : Below w22.heap.size w22 w23 := Below.trans (by repeat (first | (with_reducible exact Below.refl _ _) | (with_reducible apply Below.drew) | (with_reducible refine below_drewN ?_ _) | (refine Below.setCell ?_ (by simp <;> omega) _) | (refine Below.alloc ?_ (by simp <;> omega) _)) : Below w22.heap.size w22 _) (hb23.mono (Below.size (by repeat (first | (with_reducible exact Below.refl _ _) | (with_reducible apply Below.drew) | (with_reducible refine below_drewN ?_ _) | (refine Below.setCell ?_ (by simp <;> omega) _) | (refine Below.alloc ?_ (by simp <;> omega) _)) : Below w22.heap.size w22 _)))
              have hr23 : w22.heap.size ≤ w23.heap.size := Nat.le_trans (by first | exact Nat.le_refl _ | (simp; done) | (simp; omega) | (simp [World.setCell]; done) | (simp [World.setCell]; omega)) hb23.size
              have sz23_paG : w.heap.size < w23.heap.size := Nat.lt_of_lt_of_le sz22_paG hst23.size
              have bx23_paG_0 : w23.cell? ⟨w.heap.size, 0, none⟩ = some (.slice a0_vG vG.fSymbols.length c0_vG) := (hst23.cell (p := ⟨w.heap.size, 0, none⟩) sz22_paG).trans bx22_paG_0
              have bx23_paG_1 : w23.cell? ⟨w.heap.size, 1, none⟩ = some (.slice a1_vG vG.fRules.length c1_vG) := (hst23.cell (p := ⟨w.heap.size, 1, none⟩) sz22_paG).trans bx22_paG_1
              have sz23_paR : w.heap.size + 1 < w23.heap.size := Nat.lt_of_lt_of_le sz22_paR hst23.size
              have bx23_paR_0 : w23.cell? ⟨w.heap.size + 1, 0, none⟩ = some (.string vR.fName) := (hst23.cell (p := ⟨w.heap.size + 1, 0, none⟩) sz22_paR).trans bx22_paR_0
              have bx23_paR_1 : w23.cell? ⟨w.heap.size + 1, 1, none⟩ = some (.string vR.fLeft) := (hst23.cell (p := ⟨w.heap.size + 1, 1, none⟩) sz22_paR).trans bx22_paR_1
              have bx23_paR_2 : w23.cell? ⟨w.heap.size + 1, 2, none⟩ = some (.slice a2_vR vR.fRight.length c2_vR) := (hst23.cell (p := ⟨w.heap.size + 1, 2, none⟩) sz22_paR).trans bx22_paR_2
              have bx23_paR_3 : w23.cell? ⟨w.heap.size + 1, 3, none⟩ = some (.bool vR.fLiteral) := (hst23.cell (p := ⟨w.heap.size + 1, 3, none⟩) sz22_paR).trans bx22_paR_3
              have bx23_paR_4 : w23.cell? ⟨w.heap.size + 1, 4, none⟩ = some (.slice a4_vR vR.fEquations.length c4_vR) := (hst23.cell (p := ⟨w.heap.size + 1, 4, none⟩) sz22_paR).trans bx22_paR_4
              have bx23_paR_5 : w23.cell? ⟨w.heap.size + 1, 5, none⟩ = some (.slice a5_vR vR.fContributions.length c5_vR) := (hst23.cell (p := ⟨w.heap.size + 1, 5, none⟩) sz22_paR).trans bx22_paR_5
              have sz23_w0 : bV5 < w23.heap.size := Nat.lt_of_lt_of_le sz22_w0 hst23.size
              have bx23_w0_0 : w23.cell? ⟨bV5, 0, none⟩ = some (.int .i64 (locRel vG vR).fN) := (hst23.cell (p := ⟨bV5, 0, none⟩) sz22_w0).trans bx22_w0_0
              have bx23_w0_1 : w23.cell? ⟨bV5, 1, none⟩ = some (.slice a1_R_5 (locRel vG vR).fRows.length c1_R_5) := (hst23.cell (p := ⟨bV5, 1, none⟩) sz22_w0).trans bx22_w0_1
              have sz23_x0 : w6.heap.size < w23.heap.size := Nat.lt_of_lt_of_le sz22_x0 hst23.size
              have bx23_x0_0 : w23.cell? ⟨w6.heap.size, 0, none⟩ = some (.slice a0_vG_6 vG.fSymbols.length c0_vG_6) := (hst23.cell (p := ⟨w6.heap.size, 0, none⟩) sz22_x0).trans bx22_x0_0
              have bx23_x0_1 : w23.cell? ⟨w6.heap.size, 1, none⟩ = some (.slice a1_vG_6 vG.fRules.length c1_vG_6) := (hst23.cell (p := ⟨w6.heap.size, 1, none⟩) sz22_x0).trans bx22_x0_1
              have sz23_x1 : w7.heap.size < w23.heap.size := Nat.lt_of_lt_of_le sz22_x1 hst23.size
              have bx23_x1_0 : w23.cell? ⟨w7.heap.size, 0, none⟩ = some (.string vR.fName) := (hst23.cell (p := ⟨w7.heap.size, 0, none⟩) sz22_x1).trans bx22_x1_0
              have bx23_x1_1 : w23.cell? ⟨w7.heap.size, 1, none⟩ = some (.string vR.fLeft) := (hst23.cell (p := ⟨w7.heap.size, 1, none⟩) sz22_x1).trans bx22_x1_1
              have bx23_x1_2 : w23.cell? ⟨w7.heap.size, 2, none⟩ = some (.slice a2_vR_7 vR.fRight.length c2_vR_7) := (hst23.cell (p := ⟨w7.heap.size, 2, none⟩) sz22_x1).trans bx22_x1_2
              have bx23_x1_3 : w23.cell? ⟨w7.heap.size, 3, none⟩ = some (.bool vR.fLiteral) := (hst23.cell (p := ⟨w7.heap.size, 3, none⟩) sz22_x1).trans bx22_x1_3
              have bx23_x1_4 : w23.cell? ⟨w7.heap.size, 4, none⟩ = some (.slice a4_vR_7 vR.fEquations.length c4_vR_7) := (hst23.cell (p := ⟨w7.heap.size, 4, none⟩) sz22_x1).trans bx22_x1_4
              have bx23_x1_5 : w23.cell? ⟨w7.heap.size, 5, none⟩ = some (.slice a5_vR_7 vR.fContributions.length c5_vR_7) := (hst23.cell (p := ⟨w7.heap.size, 5, none⟩) sz22_x1).trans bx22_x1_5
              have sz23_g0 : w8.heap.size < w23.heap.size := Nat.lt_of_lt_of_le sz22_g0 hst23.size
              have bx23_g0_0 : w23.cell? ⟨w8.heap.size, 0, none⟩ = some (.int .i64 (locRel vG vR).fN) := (hst23.cell (p := ⟨w8.heap.size, 0, none⟩) sz22_g0).trans bx22_g0_0
              have bx23_g0_1 : w23.cell? ⟨w8.heap.size, 1, none⟩ = some (.slice a1_R_8 (locRel vG vR).fRows.length c1_R_8) := (hst23.cell (p := ⟨w8.heap.size, 1, none⟩) sz22_g0).trans bx22_g0_1
              have sz23_h0 : bV21 < w23.heap.size := Nat.lt_of_lt_of_le sz22_h0 hst23.size
              have bx23_h0_0 : w23.cell? ⟨bV21, 0, none⟩ = some (.int .i64 (locRel vG vR).fN) := (hst23.cell (p := ⟨bV21, 0, none⟩) sz22_h0).trans bx22_h0_0
              have bx23_h0_1 : w23.cell? ⟨bV21, 1, none⟩ = some (.slice a1_R_21 (locRel vG vR).fRows.length c1_R_21) := (hst23.cell (p := ⟨bV21, 1, none⟩) sz22_h0).trans bx22_h0_1
              have HO23_1_R_5 := Lib.hid (HO22_1_R_5.out.kept (Kept.of_below_all hst23))
              have HO23_1_R_8 := Lib.hid (HO22_1_R_8.out.kept (Kept.of_below_all hst23))
              have HO23_0_vG_10 := Lib.hid (HO22_0_vG_10.out.kept (Kept.of_below_all hst23))
              have HO23_1_vG_10 := Lib.hid (HO22_1_vG_10.out.kept (Kept.of_below_all hst23))
              have HO23_2_vR_12 := Lib.hid (HO22_2_vR_12.out.kept (Kept.of_below_all hst23))
              have HO23_4_vR_12 := Lib.hid (HO22_4_vR_12.out.kept (Kept.of_below_all hst23))
              have HO23_5_vR_12 := Lib.hid (HO22_5_vR_12.out.kept (Kept.of_below_all hst23))
              have HO23_1_R_21 := Lib.hid (HO22_1_R_21.out.kept (Kept.of_below_all hst23))
              have HB23 := Lib.hid (HB22.out.trans (hst23.mono HB22.out.size))
              clear bx22_paG_0 bx22_paG_1 sz22_paG bx22_paR_0 bx22_paR_1 bx22_paR_2 bx22_paR_3 bx22_paR_4 bx22_paR_5 sz22_paR bx22_w0_0 bx22_w0_1 sz22_w0 bx22_x0_0 bx22_x0_1 sz22_x0 bx22_x1_0 bx22_x1_1 bx22_x1_2 bx22_x1_3 bx22_x1_4 bx22_x1_5 sz22_x1 bx22_g0_0 bx22_g0_1 sz22_g0 bx22_h0_0 bx22_h0_1 sz22_h0 HO22_1_R_5 HO22_1_R_8 HO22_0_vG_10 HO22_1_vG_10 HO22_2_vR_12 HO22_4_vR_12 HO22_5_vR_12 HO22_1_R_21 hb23 hst23 HB22
              go_wp2
              go_ret
              exact ⟨rfl, HB23.out⟩
end Go.Proofs.YtnmepemmpeboeaaGreat.fnExactLocalRelation
