/-
  The law FnExactMayUse: for every grammar, rule and occurrence the program's MayUse answers as the model's. No condition.
-/
import Derived.Test.YtbaibioifmbchabMayUse
import Derived.Test.YtbaibioifmbchabFree
import Derived.Test.YtbaibioifmbchabOwnAt
import Derived.Deep.CutRange
import Derived.SizedLaws
namespace Go.Proofs.Ytbaibioifmbchab.fnExactMayUse
open Go.ChangeShapes Go.WideShapes Go.ChangeAt Go.RowKit Go.WideMaps Go.WideElems
open Go.ChangeMaps (open_string)
open Go.Lib Go.Deep

set_option maxHeartbeats 40000000 in
set_option maxRecDepth 100000 in
theorem walk (vG : DGrammar) (a0_vG : Option Addr) (c0_vG : Nat) (a1_vG : Option Addr) (c1_vG : Nat) (ok_vG : DGrammar.ok vG) (vR : DRule) (a2_vR : Option Addr) (c2_vR : Nat) (a4_vR : Option Addr) (c4_vR : Nat) (a5_vR : Option Addr) (c5_vR : Nat) (ok_vR : DRule.ok vR) (vO : DOccurrence) (ok_vO : DOccurrence.ok vO) (w : World) (hs_0_vG : Sl 0 w.heap.size w 2 vG.fSymbols.length (fun k => DSymbol.ct (vG.fSymbols.getD k default)) a0_vG) (hs_1_vG : Sl 0 w.heap.size w 6 vG.fRules.length (fun k => DRule.ct (vG.fRules.getD k default)) a1_vG) (hs_2_vR : Sl 0 w.heap.size w 1 vR.fRight.length (fun k => ictS (vR.fRight.getD k default)) a2_vR) (hs_4_vR : Sl 0 w.heap.size w 9 vR.fEquations.length (fun k => DEquation.ct (vR.fEquations.getD k default)) a4_vR) (hs_5_vR : Sl 0 w.heap.size w 16 vR.fContributions.length (fun k => DContribution.ct (vR.fContributions.getD k default)) a5_vR) :
    Calls Try.prog 3 #[.agg #[.slice a0_vG vG.fSymbols.length c0_vG, .slice a1_vG vG.fRules.length c1_vG], .agg #[.string vR.fName, .string vR.fLeft, .slice a2_vR vR.fRight.length c2_vR, .bool vR.fLiteral, .slice a4_vR vR.fEquations.length c4_vR, .slice a5_vR vR.fContributions.length c5_vR], .agg #[.int .i64 vO.fPos, .string vO.fName]] w fun e w' => e = .returned (.bool true) ∧ Below w.heap.size w w' := by
  have HS_0_vG := Lib.hid hs_0_vG
  clear hs_0_vG
  have HS_1_vG := Lib.hid hs_1_vG
  clear hs_1_vG
  have OK_vG := Lib.hid ok_vG
  clear ok_vG
  have HS_2_vR := Lib.hid hs_2_vR
  clear hs_2_vR
  have HS_4_vR := Lib.hid hs_4_vR
  clear hs_4_vR
  have HS_5_vR := Lib.hid hs_5_vR
  clear hs_5_vR
  have OK_vR := Lib.hid ok_vR
  clear ok_vR
  have OK_vO := Lib.hid ok_vO
  clear ok_vO
  by_cases h0 : 1048576 < ((DGrammar.sz vG : Nat) : Int)
  · skip
    have hz := fun (hi : Nat) (w' : World) (hhi : hi ≤ w'.heap.size) (hs_0_vG : Sl 0 hi w' 2 vG.fSymbols.length (fun k => DSymbol.ct (vG.fSymbols.getD k default)) a0_vG) (hs_1_vG : Sl 0 hi w' 6 vG.fRules.length (fun k => DRule.ct (vG.fRules.getD k default)) a1_vG) => laws_szGrammar (c0 := c0_vG) (c1 := c1_vG) vG 1048576 (by omega) (by omega) OK_vG.out w' hhi hs_0_vG hs_1_vG
    rw [szR_gt (by omega)] at hz
    have HZ_vG := Lib.hid hz
    clear hz
    go_enter Try.func3, Try.ntmps3
    go_wp2_with fail
    refine (HZ_vG.out w.heap.size _ (Below.size (by repeat (first | (with_reducible exact Below.refl _ _) | (with_reducible apply Below.drew) | (with_reducible refine below_drewN ?_ _) | (refine Below.setCell ?_ (by simp <;> omega) _) | (refine Below.alloc ?_ (by simp <;> omega) _)) : Below w.heap.size w _)) (HS_0_vG.out.later (by repeat (first | (with_reducible exact Below.refl _ _) | (with_reducible apply Below.drew) | (with_reducible refine below_drewN ?_ _) | (refine Below.setCell ?_ (by simp <;> omega) _) | (refine Below.alloc ?_ (by simp <;> omega) _)) : Below w.heap.size w _) (Nat.le_refl _)) (HS_1_vG.out.later (by repeat (first | (with_reducible exact Below.refl _ _) | (with_reducible apply Below.drew) | (with_reducible refine below_drewN ?_ _) | (refine Below.setCell ?_ (by simp <;> omega) _) | (refine Below.alloc ?_ (by simp <;> omega) _)) : Below w.heap.size w _) (Nat.le_refl _))).mono ?_
    rintro e w1 ⟨rfl, hb1⟩
    have hst1 : Below w.heap.size w w1 := Below.trans (by repeat (first | (with_reducible exact Below.refl _ _) | (with_reducible apply Below.drew) | (with_reducible refine below_drewN ?_ _) | (refine Below.setCell ?_ (by simp <;> omega) _) | (refine Below.alloc ?_ (by simp <;> omega) _)) : Below w.heap.size w _) (hb1.mono (Below.size (by repeat (first | (with_reducible exact Below.refl _ _) | (with_reducible apply Below.drew) | (with_reducible refine below_drewN ?_ _) | (refine Below.setCell ?_ (by simp <;> omega) _) | (refine Below.alloc ?_ (by simp <;> omega) _)) : Below w.heap.size w _)))
    have sz1_paG : w.heap.size < w1.heap.size := Nat.lt_of_lt_of_le (by first | omega | (simp; done) | (simp; omega) | (simp [World.setCell]; omega)) hb1.size
    have bx1_paG_0 : w1.cell? ⟨w.heap.size, 0, none⟩ = some (.slice a0_vG vG.fSymbols.length c0_vG) := (hb1.cell (p := ⟨w.heap.size, 0, none⟩) (by first | omega | (simp; done) | (simp; omega) | (simp [World.setCell]; omega))).trans (by go_simp)
    have bx1_paG_1 : w1.cell? ⟨w.heap.size, 1, none⟩ = some (.slice a1_vG vG.fRules.length c1_vG) := (hb1.cell (p := ⟨w.heap.size, 1, none⟩) (by first | omega | (simp; done) | (simp; omega) | (simp [World.setCell]; omega))).trans (by go_simp)
    have sz1_paR : w.heap.size + 1 < w1.heap.size := Nat.lt_of_lt_of_le (by first | omega | (simp; done) | (simp; omega) | (simp [World.setCell]; omega)) hb1.size
    have bx1_paR_0 : w1.cell? ⟨w.heap.size + 1, 0, none⟩ = some (.string vR.fName) := (hb1.cell (p := ⟨w.heap.size + 1, 0, none⟩) (by first | omega | (simp; done) | (simp; omega) | (simp [World.setCell]; omega))).trans (by go_simp)
    have bx1_paR_1 : w1.cell? ⟨w.heap.size + 1, 1, none⟩ = some (.string vR.fLeft) := (hb1.cell (p := ⟨w.heap.size + 1, 1, none⟩) (by first | omega | (simp; done) | (simp; omega) | (simp [World.setCell]; omega))).trans (by go_simp)
    have bx1_paR_2 : w1.cell? ⟨w.heap.size + 1, 2, none⟩ = some (.slice a2_vR vR.fRight.length c2_vR) := (hb1.cell (p := ⟨w.heap.size + 1, 2, none⟩) (by first | omega | (simp; done) | (simp; omega) | (simp [World.setCell]; omega))).trans (by go_simp)
    have bx1_paR_3 : w1.cell? ⟨w.heap.size + 1, 3, none⟩ = some (.bool vR.fLiteral) := (hb1.cell (p := ⟨w.heap.size + 1, 3, none⟩) (by first | omega | (simp; done) | (simp; omega) | (simp [World.setCell]; omega))).trans (by go_simp)
    have bx1_paR_4 : w1.cell? ⟨w.heap.size + 1, 4, none⟩ = some (.slice a4_vR vR.fEquations.length c4_vR) := (hb1.cell (p := ⟨w.heap.size + 1, 4, none⟩) (by first | omega | (simp; done) | (simp; omega) | (simp [World.setCell]; omega))).trans (by go_simp)
    have bx1_paR_5 : w1.cell? ⟨w.heap.size + 1, 5, none⟩ = some (.slice a5_vR vR.fContributions.length c5_vR) := (hb1.cell (p := ⟨w.heap.size + 1, 5, none⟩) (by first | omega | (simp; done) | (simp; omega) | (simp [World.setCell]; omega))).trans (by go_simp)
    have sz1_paO : w.heap.size + 2 < w1.heap.size := Nat.lt_of_lt_of_le (by first | omega | (simp; done) | (simp; omega) | (simp [World.setCell]; omega)) hb1.size
    have bx1_paO_0 : w1.cell? ⟨w.heap.size + 2, 0, none⟩ = some (.int .i64 vO.fPos) := (hb1.cell (p := ⟨w.heap.size + 2, 0, none⟩) (by first | omega | (simp; done) | (simp; omega) | (simp [World.setCell]; omega))).trans (by go_simp)
    have bx1_paO_1 : w1.cell? ⟨w.heap.size + 2, 1, none⟩ = some (.string vO.fName) := (hb1.cell (p := ⟨w.heap.size + 2, 1, none⟩) (by first | omega | (simp; done) | (simp; omega) | (simp [World.setCell]; omega))).trans (by go_simp)
    have HS1_0_vG := Lib.hid (HS_0_vG.out.up hst1 (Nat.le_refl _))
    have HS1_1_vG := Lib.hid (HS_1_vG.out.up hst1 (Nat.le_refl _))
    have HS1_2_vR := Lib.hid (HS_2_vR.out.up hst1 (Nat.le_refl _))
    have HS1_4_vR := Lib.hid (HS_4_vR.out.up hst1 (Nat.le_refl _))
    have HS1_5_vR := Lib.hid (HS_5_vR.out.up hst1 (Nat.le_refl _))
    have HB1 := Lib.hid ((Below.refl w.heap.size w).trans (hst1.mono (Below.refl w.heap.size w).size))
    clear hb1 hst1
    go_wp2
    go_ret
    exact ⟨rfl, HB1.out⟩
  · skip
    by_cases h1 : (1048576 - (DGrammar.sz vG : Nat)) < ((DRule.sz vR : Nat) : Int)
    · skip
      have hz := fun (hi : Nat) (w' : World) (hhi : hi ≤ w'.heap.size) (hs_0_vG : Sl 0 hi w' 2 vG.fSymbols.length (fun k => DSymbol.ct (vG.fSymbols.getD k default)) a0_vG) (hs_1_vG : Sl 0 hi w' 6 vG.fRules.length (fun k => DRule.ct (vG.fRules.getD k default)) a1_vG) => laws_szGrammar (c0 := c0_vG) (c1 := c1_vG) vG 1048576 (by omega) (by omega) OK_vG.out w' hhi hs_0_vG hs_1_vG
      rw [szR_le (by omega)] at hz
      have HZ_vG := Lib.hid hz
      clear hz
      have hz := fun (hi : Nat) (w' : World) (hhi : hi ≤ w'.heap.size) (hs_2_vR : Sl 0 hi w' 1 vR.fRight.length (fun k => ictS (vR.fRight.getD k default)) a2_vR) (hs_4_vR : Sl 0 hi w' 9 vR.fEquations.length (fun k => DEquation.ct (vR.fEquations.getD k default)) a4_vR) (hs_5_vR : Sl 0 hi w' 16 vR.fContributions.length (fun k => DContribution.ct (vR.fContributions.getD k default)) a5_vR) => laws_szRule (c2 := c2_vR) (c4 := c4_vR) (c5 := c5_vR) vR (1048576 - (DGrammar.sz vG : Nat)) (by omega) (by omega) OK_vR.out w' hhi hs_2_vR hs_4_vR hs_5_vR
      rw [szR_gt (by omega)] at hz
      have HZ_vR := Lib.hid hz
      clear hz
      go_enter Try.func3, Try.ntmps3
      go_wp2_with fail
      refine (HZ_vG.out w.heap.size _ (Below.size (by repeat (first | (with_reducible exact Below.refl _ _) | (with_reducible apply Below.drew) | (with_reducible refine below_drewN ?_ _) | (refine Below.setCell ?_ (by simp <;> omega) _) | (refine Below.alloc ?_ (by simp <;> omega) _)) : Below w.heap.size w _)) (HS_0_vG.out.later (by repeat (first | (with_reducible exact Below.refl _ _) | (with_reducible apply Below.drew) | (with_reducible refine below_drewN ?_ _) | (refine Below.setCell ?_ (by simp <;> omega) _) | (refine Below.alloc ?_ (by simp <;> omega) _)) : Below w.heap.size w _) (Nat.le_refl _)) (HS_1_vG.out.later (by repeat (first | (with_reducible exact Below.refl _ _) | (with_reducible apply Below.drew) | (with_reducible refine below_drewN ?_ _) | (refine Below.setCell ?_ (by simp <;> omega) _) | (refine Below.alloc ?_ (by simp <;> omega) _)) : Below w.heap.size w _) (Nat.le_refl _))).mono ?_
      rintro e w1 ⟨rfl, hb1⟩
      have hst1 : Below w.heap.size w w1 := Below.trans (by repeat (first | (with_reducible exact Below.refl _ _) | (with_reducible apply Below.drew) | (with_reducible refine below_drewN ?_ _) | (refine Below.setCell ?_ (by simp <;> omega) _) | (refine Below.alloc ?_ (by simp <;> omega) _)) : Below w.heap.size w _) (hb1.mono (Below.size (by repeat (first | (with_reducible exact Below.refl _ _) | (with_reducible apply Below.drew) | (with_reducible refine below_drewN ?_ _) | (refine Below.setCell ?_ (by simp <;> omega) _) | (refine Below.alloc ?_ (by simp <;> omega) _)) : Below w.heap.size w _)))
      have sz1_paG : w.heap.size < w1.heap.size := Nat.lt_of_lt_of_le (by first | omega | (simp; done) | (simp; omega) | (simp [World.setCell]; omega)) hb1.size
      have bx1_paG_0 : w1.cell? ⟨w.heap.size, 0, none⟩ = some (.slice a0_vG vG.fSymbols.length c0_vG) := (hb1.cell (p := ⟨w.heap.size, 0, none⟩) (by first | omega | (simp; done) | (simp; omega) | (simp [World.setCell]; omega))).trans (by go_simp)
      have bx1_paG_1 : w1.cell? ⟨w.heap.size, 1, none⟩ = some (.slice a1_vG vG.fRules.length c1_vG) := (hb1.cell (p := ⟨w.heap.size, 1, none⟩) (by first | omega | (simp; done) | (simp; omega) | (simp [World.setCell]; omega))).trans (by go_simp)
      have sz1_paR : w.heap.size + 1 < w1.heap.size := Nat.lt_of_lt_of_le (by first | omega | (simp; done) | (simp; omega) | (simp [World.setCell]; omega)) hb1.size
      have bx1_paR_0 : w1.cell? ⟨w.heap.size + 1, 0, none⟩ = some (.string vR.fName) := (hb1.cell (p := ⟨w.heap.size + 1, 0, none⟩) (by first | omega | (simp; done) | (simp; omega) | (simp [World.setCell]; omega))).trans (by go_simp)
      have bx1_paR_1 : w1.cell? ⟨w.heap.size + 1, 1, none⟩ = some (.string vR.fLeft) := (hb1.cell (p := ⟨w.heap.size + 1, 1, none⟩) (by first | omega | (simp; done) | (simp; omega) | (simp [World.setCell]; omega))).trans (by go_simp)
      have bx1_paR_2 : w1.cell? ⟨w.heap.size + 1, 2, none⟩ = some (.slice a2_vR vR.fRight.length c2_vR) := (hb1.cell (p := ⟨w.heap.size + 1, 2, none⟩) (by first | omega | (simp; done) | (simp; omega) | (simp [World.setCell]; omega))).trans (by go_simp)
      have bx1_paR_3 : w1.cell? ⟨w.heap.size + 1, 3, none⟩ = some (.bool vR.fLiteral) := (hb1.cell (p := ⟨w.heap.size + 1, 3, none⟩) (by first | omega | (simp; done) | (simp; omega) | (simp [World.setCell]; omega))).trans (by go_simp)
      have bx1_paR_4 : w1.cell? ⟨w.heap.size + 1, 4, none⟩ = some (.slice a4_vR vR.fEquations.length c4_vR) := (hb1.cell (p := ⟨w.heap.size + 1, 4, none⟩) (by first | omega | (simp; done) | (simp; omega) | (simp [World.setCell]; omega))).trans (by go_simp)
      have bx1_paR_5 : w1.cell? ⟨w.heap.size + 1, 5, none⟩ = some (.slice a5_vR vR.fContributions.length c5_vR) := (hb1.cell (p := ⟨w.heap.size + 1, 5, none⟩) (by first | omega | (simp; done) | (simp; omega) | (simp [World.setCell]; omega))).trans (by go_simp)
      have sz1_paO : w.heap.size + 2 < w1.heap.size := Nat.lt_of_lt_of_le (by first | omega | (simp; done) | (simp; omega) | (simp [World.setCell]; omega)) hb1.size
      have bx1_paO_0 : w1.cell? ⟨w.heap.size + 2, 0, none⟩ = some (.int .i64 vO.fPos) := (hb1.cell (p := ⟨w.heap.size + 2, 0, none⟩) (by first | omega | (simp; done) | (simp; omega) | (simp [World.setCell]; omega))).trans (by go_simp)
      have bx1_paO_1 : w1.cell? ⟨w.heap.size + 2, 1, none⟩ = some (.string vO.fName) := (hb1.cell (p := ⟨w.heap.size + 2, 1, none⟩) (by first | omega | (simp; done) | (simp; omega) | (simp [World.setCell]; omega))).trans (by go_simp)
      have HS1_0_vG := Lib.hid (HS_0_vG.out.up hst1 (Nat.le_refl _))
      have HS1_1_vG := Lib.hid (HS_1_vG.out.up hst1 (Nat.le_refl _))
      have HS1_2_vR := Lib.hid (HS_2_vR.out.up hst1 (Nat.le_refl _))
      have HS1_4_vR := Lib.hid (HS_4_vR.out.up hst1 (Nat.le_refl _))
      have HS1_5_vR := Lib.hid (HS_5_vR.out.up hst1 (Nat.le_refl _))
      have HB1 := Lib.hid ((Below.refl w.heap.size w).trans (hst1.mono (Below.refl w.heap.size w).size))
      clear hb1 hst1
      go_wp2_with fail
      refine (HZ_vR.out w1.heap.size _ (Below.size (by repeat (first | (with_reducible exact Below.refl _ _) | (with_reducible apply Below.drew) | (with_reducible refine below_drewN ?_ _) | (refine Below.setCell ?_ (by simp <;> omega) _) | (refine Below.alloc ?_ (by simp <;> omega) _)) : Below w1.heap.size w1 _)) (HS1_2_vR.out.later (by repeat (first | (with_reducible exact Below.refl _ _) | (with_reducible apply Below.drew) | (with_reducible refine below_drewN ?_ _) | (refine Below.setCell ?_ (by simp <;> omega) _) | (refine Below.alloc ?_ (by simp <;> omega) _)) : Below w1.heap.size w1 _) (Nat.le_refl _)) (HS1_4_vR.out.later (by repeat (first | (with_reducible exact Below.refl _ _) | (with_reducible apply Below.drew) | (with_reducible refine below_drewN ?_ _) | (refine Below.setCell ?_ (by simp <;> omega) _) | (refine Below.alloc ?_ (by simp <;> omega) _)) : Below w1.heap.size w1 _) (Nat.le_refl _)) (HS1_5_vR.out.later (by repeat (first | (with_reducible exact Below.refl _ _) | (with_reducible apply Below.drew) | (with_reducible refine below_drewN ?_ _) | (refine Below.setCell ?_ (by simp <;> omega) _) | (refine Below.alloc ?_ (by simp <;> omega) _)) : Below w1.heap.size w1 _) (Nat.le_refl _))).mono ?_
      rintro e w2 ⟨rfl, hb2⟩
      have hst2 : Below w1.heap.size w1 w2 := Below.trans (by repeat (first | (with_reducible exact Below.refl _ _) | (with_reducible apply Below.drew) | (with_reducible refine below_drewN ?_ _) | (refine Below.setCell ?_ (by simp <;> omega) _) | (refine Below.alloc ?_ (by simp <;> omega) _)) : Below w1.heap.size w1 _) (hb2.mono (Below.size (by repeat (first | (with_reducible exact Below.refl _ _) | (with_reducible apply Below.drew) | (with_reducible refine below_drewN ?_ _) | (refine Below.setCell ?_ (by simp <;> omega) _) | (refine Below.alloc ?_ (by simp <;> omega) _)) : Below w1.heap.size w1 _)))
      have sz2_paG : w.heap.size < w2.heap.size := Nat.lt_of_lt_of_le sz1_paG hst2.size
      have bx2_paG_0 : w2.cell? ⟨w.heap.size, 0, none⟩ = some (.slice a0_vG vG.fSymbols.length c0_vG) := (hst2.cell (p := ⟨w.heap.size, 0, none⟩) sz1_paG).trans bx1_paG_0
      have bx2_paG_1 : w2.cell? ⟨w.heap.size, 1, none⟩ = some (.slice a1_vG vG.fRules.length c1_vG) := (hst2.cell (p := ⟨w.heap.size, 1, none⟩) sz1_paG).trans bx1_paG_1
      have sz2_paR : w.heap.size + 1 < w2.heap.size := Nat.lt_of_lt_of_le sz1_paR hst2.size
      have bx2_paR_0 : w2.cell? ⟨w.heap.size + 1, 0, none⟩ = some (.string vR.fName) := (hst2.cell (p := ⟨w.heap.size + 1, 0, none⟩) sz1_paR).trans bx1_paR_0
      have bx2_paR_1 : w2.cell? ⟨w.heap.size + 1, 1, none⟩ = some (.string vR.fLeft) := (hst2.cell (p := ⟨w.heap.size + 1, 1, none⟩) sz1_paR).trans bx1_paR_1
      have bx2_paR_2 : w2.cell? ⟨w.heap.size + 1, 2, none⟩ = some (.slice a2_vR vR.fRight.length c2_vR) := (hst2.cell (p := ⟨w.heap.size + 1, 2, none⟩) sz1_paR).trans bx1_paR_2
      have bx2_paR_3 : w2.cell? ⟨w.heap.size + 1, 3, none⟩ = some (.bool vR.fLiteral) := (hst2.cell (p := ⟨w.heap.size + 1, 3, none⟩) sz1_paR).trans bx1_paR_3
      have bx2_paR_4 : w2.cell? ⟨w.heap.size + 1, 4, none⟩ = some (.slice a4_vR vR.fEquations.length c4_vR) := (hst2.cell (p := ⟨w.heap.size + 1, 4, none⟩) sz1_paR).trans bx1_paR_4
      have bx2_paR_5 : w2.cell? ⟨w.heap.size + 1, 5, none⟩ = some (.slice a5_vR vR.fContributions.length c5_vR) := (hst2.cell (p := ⟨w.heap.size + 1, 5, none⟩) sz1_paR).trans bx1_paR_5
      have sz2_paO : w.heap.size + 2 < w2.heap.size := Nat.lt_of_lt_of_le sz1_paO hst2.size
      have bx2_paO_0 : w2.cell? ⟨w.heap.size + 2, 0, none⟩ = some (.int .i64 vO.fPos) := (hst2.cell (p := ⟨w.heap.size + 2, 0, none⟩) sz1_paO).trans bx1_paO_0
      have bx2_paO_1 : w2.cell? ⟨w.heap.size + 2, 1, none⟩ = some (.string vO.fName) := (hst2.cell (p := ⟨w.heap.size + 2, 1, none⟩) sz1_paO).trans bx1_paO_1
      have HS2_0_vG := Lib.hid (HS1_0_vG.out.up hst2 (Nat.le_refl _))
      have HS2_1_vG := Lib.hid (HS1_1_vG.out.up hst2 (Nat.le_refl _))
      have HS2_2_vR := Lib.hid (HS1_2_vR.out.up hst2 (Nat.le_refl _))
      have HS2_4_vR := Lib.hid (HS1_4_vR.out.up hst2 (Nat.le_refl _))
      have HS2_5_vR := Lib.hid (HS1_5_vR.out.up hst2 (Nat.le_refl _))
      have HB2 := Lib.hid (HB1.out.trans (hst2.mono HB1.out.size))
      clear bx1_paG_0 bx1_paG_1 sz1_paG bx1_paR_0 bx1_paR_1 bx1_paR_2 bx1_paR_3 bx1_paR_4 bx1_paR_5 sz1_paR bx1_paO_0 bx1_paO_1 sz1_paO HS1_0_vG HS1_1_vG HS1_2_vR HS1_4_vR HS1_5_vR hb2 hst2 HB1
      go_wp2
      go_ret
      exact ⟨rfl, HB2.out⟩
    · skip
      by_cases h2 : ((1048576 - (DGrammar.sz vG : Nat)) - (DRule.sz vR : Nat)) < ((DOccurrence.sz vO : Nat) : Int)
      · skip
        have hz := fun (hi : Nat) (w' : World) (hhi : hi ≤ w'.heap.size) (hs_0_vG : Sl 0 hi w' 2 vG.fSymbols.length (fun k => DSymbol.ct (vG.fSymbols.getD k default)) a0_vG) (hs_1_vG : Sl 0 hi w' 6 vG.fRules.length (fun k => DRule.ct (vG.fRules.getD k default)) a1_vG) => laws_szGrammar (c0 := c0_vG) (c1 := c1_vG) vG 1048576 (by omega) (by omega) OK_vG.out w' hhi hs_0_vG hs_1_vG
        rw [szR_le (by omega)] at hz
        have HZ_vG := Lib.hid hz
        clear hz
        have hz := fun (hi : Nat) (w' : World) (hhi : hi ≤ w'.heap.size) (hs_2_vR : Sl 0 hi w' 1 vR.fRight.length (fun k => ictS (vR.fRight.getD k default)) a2_vR) (hs_4_vR : Sl 0 hi w' 9 vR.fEquations.length (fun k => DEquation.ct (vR.fEquations.getD k default)) a4_vR) (hs_5_vR : Sl 0 hi w' 16 vR.fContributions.length (fun k => DContribution.ct (vR.fContributions.getD k default)) a5_vR) => laws_szRule (c2 := c2_vR) (c4 := c4_vR) (c5 := c5_vR) vR (1048576 - (DGrammar.sz vG : Nat)) (by omega) (by omega) OK_vR.out w' hhi hs_2_vR hs_4_vR hs_5_vR
        rw [szR_le (by omega)] at hz
        have HZ_vR := Lib.hid hz
        clear hz
        have hz := fun (hi : Nat) (w' : World) => laws_szOccurrence vO ((1048576 - (DGrammar.sz vG : Nat)) - (DRule.sz vR : Nat)) (by omega) (by omega) OK_vO.out w'
        rw [szR_gt (by omega)] at hz
        have HZ_vO := Lib.hid hz
        clear hz
        go_enter Try.func3, Try.ntmps3
        go_wp2_with fail
        refine (HZ_vG.out w.heap.size _ (Below.size (by repeat (first | (with_reducible exact Below.refl _ _) | (with_reducible apply Below.drew) | (with_reducible refine below_drewN ?_ _) | (refine Below.setCell ?_ (by simp <;> omega) _) | (refine Below.alloc ?_ (by simp <;> omega) _)) : Below w.heap.size w _)) (HS_0_vG.out.later (by repeat (first | (with_reducible exact Below.refl _ _) | (with_reducible apply Below.drew) | (with_reducible refine below_drewN ?_ _) | (refine Below.setCell ?_ (by simp <;> omega) _) | (refine Below.alloc ?_ (by simp <;> omega) _)) : Below w.heap.size w _) (Nat.le_refl _)) (HS_1_vG.out.later (by repeat (first | (with_reducible exact Below.refl _ _) | (with_reducible apply Below.drew) | (with_reducible refine below_drewN ?_ _) | (refine Below.setCell ?_ (by simp <;> omega) _) | (refine Below.alloc ?_ (by simp <;> omega) _)) : Below w.heap.size w _) (Nat.le_refl _))).mono ?_
        rintro e w1 ⟨rfl, hb1⟩
        have hst1 : Below w.heap.size w w1 := Below.trans (by repeat (first | (with_reducible exact Below.refl _ _) | (with_reducible apply Below.drew) | (with_reducible refine below_drewN ?_ _) | (refine Below.setCell ?_ (by simp <;> omega) _) | (refine Below.alloc ?_ (by simp <;> omega) _)) : Below w.heap.size w _) (hb1.mono (Below.size (by repeat (first | (with_reducible exact Below.refl _ _) | (with_reducible apply Below.drew) | (with_reducible refine below_drewN ?_ _) | (refine Below.setCell ?_ (by simp <;> omega) _) | (refine Below.alloc ?_ (by simp <;> omega) _)) : Below w.heap.size w _)))
        have sz1_paG : w.heap.size < w1.heap.size := Nat.lt_of_lt_of_le (by first | omega | (simp; done) | (simp; omega) | (simp [World.setCell]; omega)) hb1.size
        have bx1_paG_0 : w1.cell? ⟨w.heap.size, 0, none⟩ = some (.slice a0_vG vG.fSymbols.length c0_vG) := (hb1.cell (p := ⟨w.heap.size, 0, none⟩) (by first | omega | (simp; done) | (simp; omega) | (simp [World.setCell]; omega))).trans (by go_simp)
        have bx1_paG_1 : w1.cell? ⟨w.heap.size, 1, none⟩ = some (.slice a1_vG vG.fRules.length c1_vG) := (hb1.cell (p := ⟨w.heap.size, 1, none⟩) (by first | omega | (simp; done) | (simp; omega) | (simp [World.setCell]; omega))).trans (by go_simp)
        have sz1_paR : w.heap.size + 1 < w1.heap.size := Nat.lt_of_lt_of_le (by first | omega | (simp; done) | (simp; omega) | (simp [World.setCell]; omega)) hb1.size
        have bx1_paR_0 : w1.cell? ⟨w.heap.size + 1, 0, none⟩ = some (.string vR.fName) := (hb1.cell (p := ⟨w.heap.size + 1, 0, none⟩) (by first | omega | (simp; done) | (simp; omega) | (simp [World.setCell]; omega))).trans (by go_simp)
        have bx1_paR_1 : w1.cell? ⟨w.heap.size + 1, 1, none⟩ = some (.string vR.fLeft) := (hb1.cell (p := ⟨w.heap.size + 1, 1, none⟩) (by first | omega | (simp; done) | (simp; omega) | (simp [World.setCell]; omega))).trans (by go_simp)
        have bx1_paR_2 : w1.cell? ⟨w.heap.size + 1, 2, none⟩ = some (.slice a2_vR vR.fRight.length c2_vR) := (hb1.cell (p := ⟨w.heap.size + 1, 2, none⟩) (by first | omega | (simp; done) | (simp; omega) | (simp [World.setCell]; omega))).trans (by go_simp)
        have bx1_paR_3 : w1.cell? ⟨w.heap.size + 1, 3, none⟩ = some (.bool vR.fLiteral) := (hb1.cell (p := ⟨w.heap.size + 1, 3, none⟩) (by first | omega | (simp; done) | (simp; omega) | (simp [World.setCell]; omega))).trans (by go_simp)
        have bx1_paR_4 : w1.cell? ⟨w.heap.size + 1, 4, none⟩ = some (.slice a4_vR vR.fEquations.length c4_vR) := (hb1.cell (p := ⟨w.heap.size + 1, 4, none⟩) (by first | omega | (simp; done) | (simp; omega) | (simp [World.setCell]; omega))).trans (by go_simp)
        have bx1_paR_5 : w1.cell? ⟨w.heap.size + 1, 5, none⟩ = some (.slice a5_vR vR.fContributions.length c5_vR) := (hb1.cell (p := ⟨w.heap.size + 1, 5, none⟩) (by first | omega | (simp; done) | (simp; omega) | (simp [World.setCell]; omega))).trans (by go_simp)
        have sz1_paO : w.heap.size + 2 < w1.heap.size := Nat.lt_of_lt_of_le (by first | omega | (simp; done) | (simp; omega) | (simp [World.setCell]; omega)) hb1.size
        have bx1_paO_0 : w1.cell? ⟨w.heap.size + 2, 0, none⟩ = some (.int .i64 vO.fPos) := (hb1.cell (p := ⟨w.heap.size + 2, 0, none⟩) (by first | omega | (simp; done) | (simp; omega) | (simp [World.setCell]; omega))).trans (by go_simp)
        have bx1_paO_1 : w1.cell? ⟨w.heap.size + 2, 1, none⟩ = some (.string vO.fName) := (hb1.cell (p := ⟨w.heap.size + 2, 1, none⟩) (by first | omega | (simp; done) | (simp; omega) | (simp [World.setCell]; omega))).trans (by go_simp)
        have HS1_0_vG := Lib.hid (HS_0_vG.out.up hst1 (Nat.le_refl _))
        have HS1_1_vG := Lib.hid (HS_1_vG.out.up hst1 (Nat.le_refl _))
        have HS1_2_vR := Lib.hid (HS_2_vR.out.up hst1 (Nat.le_refl _))
        have HS1_4_vR := Lib.hid (HS_4_vR.out.up hst1 (Nat.le_refl _))
        have HS1_5_vR := Lib.hid (HS_5_vR.out.up hst1 (Nat.le_refl _))
        have HB1 := Lib.hid ((Below.refl w.heap.size w).trans (hst1.mono (Below.refl w.heap.size w).size))
        clear hb1 hst1
        go_wp2_with fail
        refine (HZ_vR.out w1.heap.size _ (Below.size (by repeat (first | (with_reducible exact Below.refl _ _) | (with_reducible apply Below.drew) | (with_reducible refine below_drewN ?_ _) | (refine Below.setCell ?_ (by simp <;> omega) _) | (refine Below.alloc ?_ (by simp <;> omega) _)) : Below w1.heap.size w1 _)) (HS1_2_vR.out.later (by repeat (first | (with_reducible exact Below.refl _ _) | (with_reducible apply Below.drew) | (with_reducible refine below_drewN ?_ _) | (refine Below.setCell ?_ (by simp <;> omega) _) | (refine Below.alloc ?_ (by simp <;> omega) _)) : Below w1.heap.size w1 _) (Nat.le_refl _)) (HS1_4_vR.out.later (by repeat (first | (with_reducible exact Below.refl _ _) | (with_reducible apply Below.drew) | (with_reducible refine below_drewN ?_ _) | (refine Below.setCell ?_ (by simp <;> omega) _) | (refine Below.alloc ?_ (by simp <;> omega) _)) : Below w1.heap.size w1 _) (Nat.le_refl _)) (HS1_5_vR.out.later (by repeat (first | (with_reducible exact Below.refl _ _) | (with_reducible apply Below.drew) | (with_reducible refine below_drewN ?_ _) | (refine Below.setCell ?_ (by simp <;> omega) _) | (refine Below.alloc ?_ (by simp <;> omega) _)) : Below w1.heap.size w1 _) (Nat.le_refl _))).mono ?_
        rintro e w2 ⟨rfl, hb2⟩
        have hst2 : Below w1.heap.size w1 w2 := Below.trans (by repeat (first | (with_reducible exact Below.refl _ _) | (with_reducible apply Below.drew) | (with_reducible refine below_drewN ?_ _) | (refine Below.setCell ?_ (by simp <;> omega) _) | (refine Below.alloc ?_ (by simp <;> omega) _)) : Below w1.heap.size w1 _) (hb2.mono (Below.size (by repeat (first | (with_reducible exact Below.refl _ _) | (with_reducible apply Below.drew) | (with_reducible refine below_drewN ?_ _) | (refine Below.setCell ?_ (by simp <;> omega) _) | (refine Below.alloc ?_ (by simp <;> omega) _)) : Below w1.heap.size w1 _)))
        have sz2_paG : w.heap.size < w2.heap.size := Nat.lt_of_lt_of_le sz1_paG hst2.size
        have bx2_paG_0 : w2.cell? ⟨w.heap.size, 0, none⟩ = some (.slice a0_vG vG.fSymbols.length c0_vG) := (hst2.cell (p := ⟨w.heap.size, 0, none⟩) sz1_paG).trans bx1_paG_0
        have bx2_paG_1 : w2.cell? ⟨w.heap.size, 1, none⟩ = some (.slice a1_vG vG.fRules.length c1_vG) := (hst2.cell (p := ⟨w.heap.size, 1, none⟩) sz1_paG).trans bx1_paG_1
        have sz2_paR : w.heap.size + 1 < w2.heap.size := Nat.lt_of_lt_of_le sz1_paR hst2.size
        have bx2_paR_0 : w2.cell? ⟨w.heap.size + 1, 0, none⟩ = some (.string vR.fName) := (hst2.cell (p := ⟨w.heap.size + 1, 0, none⟩) sz1_paR).trans bx1_paR_0
        have bx2_paR_1 : w2.cell? ⟨w.heap.size + 1, 1, none⟩ = some (.string vR.fLeft) := (hst2.cell (p := ⟨w.heap.size + 1, 1, none⟩) sz1_paR).trans bx1_paR_1
        have bx2_paR_2 : w2.cell? ⟨w.heap.size + 1, 2, none⟩ = some (.slice a2_vR vR.fRight.length c2_vR) := (hst2.cell (p := ⟨w.heap.size + 1, 2, none⟩) sz1_paR).trans bx1_paR_2
        have bx2_paR_3 : w2.cell? ⟨w.heap.size + 1, 3, none⟩ = some (.bool vR.fLiteral) := (hst2.cell (p := ⟨w.heap.size + 1, 3, none⟩) sz1_paR).trans bx1_paR_3
        have bx2_paR_4 : w2.cell? ⟨w.heap.size + 1, 4, none⟩ = some (.slice a4_vR vR.fEquations.length c4_vR) := (hst2.cell (p := ⟨w.heap.size + 1, 4, none⟩) sz1_paR).trans bx1_paR_4
        have bx2_paR_5 : w2.cell? ⟨w.heap.size + 1, 5, none⟩ = some (.slice a5_vR vR.fContributions.length c5_vR) := (hst2.cell (p := ⟨w.heap.size + 1, 5, none⟩) sz1_paR).trans bx1_paR_5
        have sz2_paO : w.heap.size + 2 < w2.heap.size := Nat.lt_of_lt_of_le sz1_paO hst2.size
        have bx2_paO_0 : w2.cell? ⟨w.heap.size + 2, 0, none⟩ = some (.int .i64 vO.fPos) := (hst2.cell (p := ⟨w.heap.size + 2, 0, none⟩) sz1_paO).trans bx1_paO_0
        have bx2_paO_1 : w2.cell? ⟨w.heap.size + 2, 1, none⟩ = some (.string vO.fName) := (hst2.cell (p := ⟨w.heap.size + 2, 1, none⟩) sz1_paO).trans bx1_paO_1
        have HS2_0_vG := Lib.hid (HS1_0_vG.out.up hst2 (Nat.le_refl _))
        have HS2_1_vG := Lib.hid (HS1_1_vG.out.up hst2 (Nat.le_refl _))
        have HS2_2_vR := Lib.hid (HS1_2_vR.out.up hst2 (Nat.le_refl _))
        have HS2_4_vR := Lib.hid (HS1_4_vR.out.up hst2 (Nat.le_refl _))
        have HS2_5_vR := Lib.hid (HS1_5_vR.out.up hst2 (Nat.le_refl _))
        have HB2 := Lib.hid (HB1.out.trans (hst2.mono HB1.out.size))
        clear bx1_paG_0 bx1_paG_1 sz1_paG bx1_paR_0 bx1_paR_1 bx1_paR_2 bx1_paR_3 bx1_paR_4 bx1_paR_5 sz1_paR bx1_paO_0 bx1_paO_1 sz1_paO HS1_0_vG HS1_1_vG HS1_2_vR HS1_4_vR HS1_5_vR hb2 hst2 HB1
        go_wp2_with fail
        refine (HZ_vO.out 0 _).mono ?_
        rintro e w3 ⟨rfl, hb3⟩
        have hst3 : Below w2.heap.size w2 w3 := Below.trans (by repeat (first | (with_reducible exact Below.refl _ _) | (with_reducible apply Below.drew) | (with_reducible refine below_drewN ?_ _) | (refine Below.setCell ?_ (by simp <;> omega) _) | (refine Below.alloc ?_ (by simp <;> omega) _)) : Below w2.heap.size w2 _) (hb3.mono (Below.size (by repeat (first | (with_reducible exact Below.refl _ _) | (with_reducible apply Below.drew) | (with_reducible refine below_drewN ?_ _) | (refine Below.setCell ?_ (by simp <;> omega) _) | (refine Below.alloc ?_ (by simp <;> omega) _)) : Below w2.heap.size w2 _)))
        have sz3_paG : w.heap.size < w3.heap.size := Nat.lt_of_lt_of_le sz2_paG hst3.size
        have bx3_paG_0 : w3.cell? ⟨w.heap.size, 0, none⟩ = some (.slice a0_vG vG.fSymbols.length c0_vG) := (hst3.cell (p := ⟨w.heap.size, 0, none⟩) sz2_paG).trans bx2_paG_0
        have bx3_paG_1 : w3.cell? ⟨w.heap.size, 1, none⟩ = some (.slice a1_vG vG.fRules.length c1_vG) := (hst3.cell (p := ⟨w.heap.size, 1, none⟩) sz2_paG).trans bx2_paG_1
        have sz3_paR : w.heap.size + 1 < w3.heap.size := Nat.lt_of_lt_of_le sz2_paR hst3.size
        have bx3_paR_0 : w3.cell? ⟨w.heap.size + 1, 0, none⟩ = some (.string vR.fName) := (hst3.cell (p := ⟨w.heap.size + 1, 0, none⟩) sz2_paR).trans bx2_paR_0
        have bx3_paR_1 : w3.cell? ⟨w.heap.size + 1, 1, none⟩ = some (.string vR.fLeft) := (hst3.cell (p := ⟨w.heap.size + 1, 1, none⟩) sz2_paR).trans bx2_paR_1
        have bx3_paR_2 : w3.cell? ⟨w.heap.size + 1, 2, none⟩ = some (.slice a2_vR vR.fRight.length c2_vR) := (hst3.cell (p := ⟨w.heap.size + 1, 2, none⟩) sz2_paR).trans bx2_paR_2
        have bx3_paR_3 : w3.cell? ⟨w.heap.size + 1, 3, none⟩ = some (.bool vR.fLiteral) := (hst3.cell (p := ⟨w.heap.size + 1, 3, none⟩) sz2_paR).trans bx2_paR_3
        have bx3_paR_4 : w3.cell? ⟨w.heap.size + 1, 4, none⟩ = some (.slice a4_vR vR.fEquations.length c4_vR) := (hst3.cell (p := ⟨w.heap.size + 1, 4, none⟩) sz2_paR).trans bx2_paR_4
        have bx3_paR_5 : w3.cell? ⟨w.heap.size + 1, 5, none⟩ = some (.slice a5_vR vR.fContributions.length c5_vR) := (hst3.cell (p := ⟨w.heap.size + 1, 5, none⟩) sz2_paR).trans bx2_paR_5
        have sz3_paO : w.heap.size + 2 < w3.heap.size := Nat.lt_of_lt_of_le sz2_paO hst3.size
        have bx3_paO_0 : w3.cell? ⟨w.heap.size + 2, 0, none⟩ = some (.int .i64 vO.fPos) := (hst3.cell (p := ⟨w.heap.size + 2, 0, none⟩) sz2_paO).trans bx2_paO_0
        have bx3_paO_1 : w3.cell? ⟨w.heap.size + 2, 1, none⟩ = some (.string vO.fName) := (hst3.cell (p := ⟨w.heap.size + 2, 1, none⟩) sz2_paO).trans bx2_paO_1
        have HS3_0_vG := Lib.hid (HS2_0_vG.out.up hst3 (Nat.le_refl _))
        have HS3_1_vG := Lib.hid (HS2_1_vG.out.up hst3 (Nat.le_refl _))
        have HS3_2_vR := Lib.hid (HS2_2_vR.out.up hst3 (Nat.le_refl _))
        have HS3_4_vR := Lib.hid (HS2_4_vR.out.up hst3 (Nat.le_refl _))
        have HS3_5_vR := Lib.hid (HS2_5_vR.out.up hst3 (Nat.le_refl _))
        have HB3 := Lib.hid (HB2.out.trans (hst3.mono HB2.out.size))
        clear bx2_paG_0 bx2_paG_1 sz2_paG bx2_paR_0 bx2_paR_1 bx2_paR_2 bx2_paR_3 bx2_paR_4 bx2_paR_5 sz2_paR bx2_paO_0 bx2_paO_1 sz2_paO HS2_0_vG HS2_1_vG HS2_2_vR HS2_4_vR HS2_5_vR hb3 hst3 HB2
        go_wp2
        go_ret
        exact ⟨rfl, HB3.out⟩
      · skip
        have hz := fun (hi : Nat) (w' : World) (hhi : hi ≤ w'.heap.size) (hs_0_vG : Sl 0 hi w' 2 vG.fSymbols.length (fun k => DSymbol.ct (vG.fSymbols.getD k default)) a0_vG) (hs_1_vG : Sl 0 hi w' 6 vG.fRules.length (fun k => DRule.ct (vG.fRules.getD k default)) a1_vG) => laws_szGrammar (c0 := c0_vG) (c1 := c1_vG) vG 1048576 (by omega) (by omega) OK_vG.out w' hhi hs_0_vG hs_1_vG
        rw [szR_le (by omega)] at hz
        have HZ_vG := Lib.hid hz
        clear hz
        have hz := fun (hi : Nat) (w' : World) (hhi : hi ≤ w'.heap.size) (hs_2_vR : Sl 0 hi w' 1 vR.fRight.length (fun k => ictS (vR.fRight.getD k default)) a2_vR) (hs_4_vR : Sl 0 hi w' 9 vR.fEquations.length (fun k => DEquation.ct (vR.fEquations.getD k default)) a4_vR) (hs_5_vR : Sl 0 hi w' 16 vR.fContributions.length (fun k => DContribution.ct (vR.fContributions.getD k default)) a5_vR) => laws_szRule (c2 := c2_vR) (c4 := c4_vR) (c5 := c5_vR) vR (1048576 - (DGrammar.sz vG : Nat)) (by omega) (by omega) OK_vR.out w' hhi hs_2_vR hs_4_vR hs_5_vR
        rw [szR_le (by omega)] at hz
        have HZ_vR := Lib.hid hz
        clear hz
        have hz := fun (hi : Nat) (w' : World) => laws_szOccurrence vO ((1048576 - (DGrammar.sz vG : Nat)) - (DRule.sz vR : Nat)) (by omega) (by omega) OK_vO.out w'
        rw [szR_le (by omega)] at hz
        have HZ_vO := Lib.hid hz
        clear hz
        have hq_vG : DGrammar.sz vG ≤ 1048576 := by omega
        have hq_vR : DRule.sz vR ≤ 1048576 := by omega
        have hq_vO : DOccurrence.sz vO ≤ 1048576 := by omega
        go_enter Try.func3, Try.ntmps3
        go_wp2_with fail
        refine (HZ_vG.out w.heap.size _ (Below.size (by repeat (first | (with_reducible exact Below.refl _ _) | (with_reducible apply Below.drew) | (with_reducible refine below_drewN ?_ _) | (refine Below.setCell ?_ (by simp <;> omega) _) | (refine Below.alloc ?_ (by simp <;> omega) _)) : Below w.heap.size w _)) (HS_0_vG.out.later (by repeat (first | (with_reducible exact Below.refl _ _) | (with_reducible apply Below.drew) | (with_reducible refine below_drewN ?_ _) | (refine Below.setCell ?_ (by simp <;> omega) _) | (refine Below.alloc ?_ (by simp <;> omega) _)) : Below w.heap.size w _) (Nat.le_refl _)) (HS_1_vG.out.later (by repeat (first | (with_reducible exact Below.refl _ _) | (with_reducible apply Below.drew) | (with_reducible refine below_drewN ?_ _) | (refine Below.setCell ?_ (by simp <;> omega) _) | (refine Below.alloc ?_ (by simp <;> omega) _)) : Below w.heap.size w _) (Nat.le_refl _))).mono ?_
        rintro e w1 ⟨rfl, hb1⟩
        have hst1 : Below w.heap.size w w1 := Below.trans (by repeat (first | (with_reducible exact Below.refl _ _) | (with_reducible apply Below.drew) | (with_reducible refine below_drewN ?_ _) | (refine Below.setCell ?_ (by simp <;> omega) _) | (refine Below.alloc ?_ (by simp <;> omega) _)) : Below w.heap.size w _) (hb1.mono (Below.size (by repeat (first | (with_reducible exact Below.refl _ _) | (with_reducible apply Below.drew) | (with_reducible refine below_drewN ?_ _) | (refine Below.setCell ?_ (by simp <;> omega) _) | (refine Below.alloc ?_ (by simp <;> omega) _)) : Below w.heap.size w _)))
        have sz1_paG : w.heap.size < w1.heap.size := Nat.lt_of_lt_of_le (by first | omega | (simp; done) | (simp; omega) | (simp [World.setCell]; omega)) hb1.size
        have bx1_paG_0 : w1.cell? ⟨w.heap.size, 0, none⟩ = some (.slice a0_vG vG.fSymbols.length c0_vG) := (hb1.cell (p := ⟨w.heap.size, 0, none⟩) (by first | omega | (simp; done) | (simp; omega) | (simp [World.setCell]; omega))).trans (by go_simp)
        have bx1_paG_1 : w1.cell? ⟨w.heap.size, 1, none⟩ = some (.slice a1_vG vG.fRules.length c1_vG) := (hb1.cell (p := ⟨w.heap.size, 1, none⟩) (by first | omega | (simp; done) | (simp; omega) | (simp [World.setCell]; omega))).trans (by go_simp)
        have sz1_paR : w.heap.size + 1 < w1.heap.size := Nat.lt_of_lt_of_le (by first | omega | (simp; done) | (simp; omega) | (simp [World.setCell]; omega)) hb1.size
        have bx1_paR_0 : w1.cell? ⟨w.heap.size + 1, 0, none⟩ = some (.string vR.fName) := (hb1.cell (p := ⟨w.heap.size + 1, 0, none⟩) (by first | omega | (simp; done) | (simp; omega) | (simp [World.setCell]; omega))).trans (by go_simp)
        have bx1_paR_1 : w1.cell? ⟨w.heap.size + 1, 1, none⟩ = some (.string vR.fLeft) := (hb1.cell (p := ⟨w.heap.size + 1, 1, none⟩) (by first | omega | (simp; done) | (simp; omega) | (simp [World.setCell]; omega))).trans (by go_simp)
        have bx1_paR_2 : w1.cell? ⟨w.heap.size + 1, 2, none⟩ = some (.slice a2_vR vR.fRight.length c2_vR) := (hb1.cell (p := ⟨w.heap.size + 1, 2, none⟩) (by first | omega | (simp; done) | (simp; omega) | (simp [World.setCell]; omega))).trans (by go_simp)
        have bx1_paR_3 : w1.cell? ⟨w.heap.size + 1, 3, none⟩ = some (.bool vR.fLiteral) := (hb1.cell (p := ⟨w.heap.size + 1, 3, none⟩) (by first | omega | (simp; done) | (simp; omega) | (simp [World.setCell]; omega))).trans (by go_simp)
        have bx1_paR_4 : w1.cell? ⟨w.heap.size + 1, 4, none⟩ = some (.slice a4_vR vR.fEquations.length c4_vR) := (hb1.cell (p := ⟨w.heap.size + 1, 4, none⟩) (by first | omega | (simp; done) | (simp; omega) | (simp [World.setCell]; omega))).trans (by go_simp)
        have bx1_paR_5 : w1.cell? ⟨w.heap.size + 1, 5, none⟩ = some (.slice a5_vR vR.fContributions.length c5_vR) := (hb1.cell (p := ⟨w.heap.size + 1, 5, none⟩) (by first | omega | (simp; done) | (simp; omega) | (simp [World.setCell]; omega))).trans (by go_simp)
        have sz1_paO : w.heap.size + 2 < w1.heap.size := Nat.lt_of_lt_of_le (by first | omega | (simp; done) | (simp; omega) | (simp [World.setCell]; omega)) hb1.size
        have bx1_paO_0 : w1.cell? ⟨w.heap.size + 2, 0, none⟩ = some (.int .i64 vO.fPos) := (hb1.cell (p := ⟨w.heap.size + 2, 0, none⟩) (by first | omega | (simp; done) | (simp; omega) | (simp [World.setCell]; omega))).trans (by go_simp)
        have bx1_paO_1 : w1.cell? ⟨w.heap.size + 2, 1, none⟩ = some (.string vO.fName) := (hb1.cell (p := ⟨w.heap.size + 2, 1, none⟩) (by first | omega | (simp; done) | (simp; omega) | (simp [World.setCell]; omega))).trans (by go_simp)
        have HS1_0_vG := Lib.hid (HS_0_vG.out.up hst1 (Nat.le_refl _))
        have HS1_1_vG := Lib.hid (HS_1_vG.out.up hst1 (Nat.le_refl _))
        have HS1_2_vR := Lib.hid (HS_2_vR.out.up hst1 (Nat.le_refl _))
        have HS1_4_vR := Lib.hid (HS_4_vR.out.up hst1 (Nat.le_refl _))
        have HS1_5_vR := Lib.hid (HS_5_vR.out.up hst1 (Nat.le_refl _))
        have HB1 := Lib.hid ((Below.refl w.heap.size w).trans (hst1.mono (Below.refl w.heap.size w).size))
        clear hb1 hst1
        go_wp2_with fail
        refine (HZ_vR.out w1.heap.size _ (Below.size (by repeat (first | (with_reducible exact Below.refl _ _) | (with_reducible apply Below.drew) | (with_reducible refine below_drewN ?_ _) | (refine Below.setCell ?_ (by simp <;> omega) _) | (refine Below.alloc ?_ (by simp <;> omega) _)) : Below w1.heap.size w1 _)) (HS1_2_vR.out.later (by repeat (first | (with_reducible exact Below.refl _ _) | (with_reducible apply Below.drew) | (with_reducible refine below_drewN ?_ _) | (refine Below.setCell ?_ (by simp <;> omega) _) | (refine Below.alloc ?_ (by simp <;> omega) _)) : Below w1.heap.size w1 _) (Nat.le_refl _)) (HS1_4_vR.out.later (by repeat (first | (with_reducible exact Below.refl _ _) | (with_reducible apply Below.drew) | (with_reducible refine below_drewN ?_ _) | (refine Below.setCell ?_ (by simp <;> omega) _) | (refine Below.alloc ?_ (by simp <;> omega) _)) : Below w1.heap.size w1 _) (Nat.le_refl _)) (HS1_5_vR.out.later (by repeat (first | (with_reducible exact Below.refl _ _) | (with_reducible apply Below.drew) | (with_reducible refine below_drewN ?_ _) | (refine Below.setCell ?_ (by simp <;> omega) _) | (refine Below.alloc ?_ (by simp <;> omega) _)) : Below w1.heap.size w1 _) (Nat.le_refl _))).mono ?_
        rintro e w2 ⟨rfl, hb2⟩
        have hst2 : Below w1.heap.size w1 w2 := Below.trans (by repeat (first | (with_reducible exact Below.refl _ _) | (with_reducible apply Below.drew) | (with_reducible refine below_drewN ?_ _) | (refine Below.setCell ?_ (by simp <;> omega) _) | (refine Below.alloc ?_ (by simp <;> omega) _)) : Below w1.heap.size w1 _) (hb2.mono (Below.size (by repeat (first | (with_reducible exact Below.refl _ _) | (with_reducible apply Below.drew) | (with_reducible refine below_drewN ?_ _) | (refine Below.setCell ?_ (by simp <;> omega) _) | (refine Below.alloc ?_ (by simp <;> omega) _)) : Below w1.heap.size w1 _)))
        have sz2_paG : w.heap.size < w2.heap.size := Nat.lt_of_lt_of_le sz1_paG hst2.size
        have bx2_paG_0 : w2.cell? ⟨w.heap.size, 0, none⟩ = some (.slice a0_vG vG.fSymbols.length c0_vG) := (hst2.cell (p := ⟨w.heap.size, 0, none⟩) sz1_paG).trans bx1_paG_0
        have bx2_paG_1 : w2.cell? ⟨w.heap.size, 1, none⟩ = some (.slice a1_vG vG.fRules.length c1_vG) := (hst2.cell (p := ⟨w.heap.size, 1, none⟩) sz1_paG).trans bx1_paG_1
        have sz2_paR : w.heap.size + 1 < w2.heap.size := Nat.lt_of_lt_of_le sz1_paR hst2.size
        have bx2_paR_0 : w2.cell? ⟨w.heap.size + 1, 0, none⟩ = some (.string vR.fName) := (hst2.cell (p := ⟨w.heap.size + 1, 0, none⟩) sz1_paR).trans bx1_paR_0
        have bx2_paR_1 : w2.cell? ⟨w.heap.size + 1, 1, none⟩ = some (.string vR.fLeft) := (hst2.cell (p := ⟨w.heap.size + 1, 1, none⟩) sz1_paR).trans bx1_paR_1
        have bx2_paR_2 : w2.cell? ⟨w.heap.size + 1, 2, none⟩ = some (.slice a2_vR vR.fRight.length c2_vR) := (hst2.cell (p := ⟨w.heap.size + 1, 2, none⟩) sz1_paR).trans bx1_paR_2
        have bx2_paR_3 : w2.cell? ⟨w.heap.size + 1, 3, none⟩ = some (.bool vR.fLiteral) := (hst2.cell (p := ⟨w.heap.size + 1, 3, none⟩) sz1_paR).trans bx1_paR_3
        have bx2_paR_4 : w2.cell? ⟨w.heap.size + 1, 4, none⟩ = some (.slice a4_vR vR.fEquations.length c4_vR) := (hst2.cell (p := ⟨w.heap.size + 1, 4, none⟩) sz1_paR).trans bx1_paR_4
        have bx2_paR_5 : w2.cell? ⟨w.heap.size + 1, 5, none⟩ = some (.slice a5_vR vR.fContributions.length c5_vR) := (hst2.cell (p := ⟨w.heap.size + 1, 5, none⟩) sz1_paR).trans bx1_paR_5
        have sz2_paO : w.heap.size + 2 < w2.heap.size := Nat.lt_of_lt_of_le sz1_paO hst2.size
        have bx2_paO_0 : w2.cell? ⟨w.heap.size + 2, 0, none⟩ = some (.int .i64 vO.fPos) := (hst2.cell (p := ⟨w.heap.size + 2, 0, none⟩) sz1_paO).trans bx1_paO_0
        have bx2_paO_1 : w2.cell? ⟨w.heap.size + 2, 1, none⟩ = some (.string vO.fName) := (hst2.cell (p := ⟨w.heap.size + 2, 1, none⟩) sz1_paO).trans bx1_paO_1
        have HS2_0_vG := Lib.hid (HS1_0_vG.out.up hst2 (Nat.le_refl _))
        have HS2_1_vG := Lib.hid (HS1_1_vG.out.up hst2 (Nat.le_refl _))
        have HS2_2_vR := Lib.hid (HS1_2_vR.out.up hst2 (Nat.le_refl _))
        have HS2_4_vR := Lib.hid (HS1_4_vR.out.up hst2 (Nat.le_refl _))
        have HS2_5_vR := Lib.hid (HS1_5_vR.out.up hst2 (Nat.le_refl _))
        have HB2 := Lib.hid (HB1.out.trans (hst2.mono HB1.out.size))
        clear bx1_paG_0 bx1_paG_1 sz1_paG bx1_paR_0 bx1_paR_1 bx1_paR_2 bx1_paR_3 bx1_paR_4 bx1_paR_5 sz1_paR bx1_paO_0 bx1_paO_1 sz1_paO HS1_0_vG HS1_1_vG HS1_2_vR HS1_4_vR HS1_5_vR hb2 hst2 HB1
        go_wp2_with fail
        refine (HZ_vO.out 0 _).mono ?_
        rintro e w3 ⟨rfl, hb3⟩
        have hst3 : Below w2.heap.size w2 w3 := Below.trans (by repeat (first | (with_reducible exact Below.refl _ _) | (with_reducible apply Below.drew) | (with_reducible refine below_drewN ?_ _) | (refine Below.setCell ?_ (by simp <;> omega) _) | (refine Below.alloc ?_ (by simp <;> omega) _)) : Below w2.heap.size w2 _) (hb3.mono (Below.size (by repeat (first | (with_reducible exact Below.refl _ _) | (with_reducible apply Below.drew) | (with_reducible refine below_drewN ?_ _) | (refine Below.setCell ?_ (by simp <;> omega) _) | (refine Below.alloc ?_ (by simp <;> omega) _)) : Below w2.heap.size w2 _)))
        have sz3_paG : w.heap.size < w3.heap.size := Nat.lt_of_lt_of_le sz2_paG hst3.size
        have bx3_paG_0 : w3.cell? ⟨w.heap.size, 0, none⟩ = some (.slice a0_vG vG.fSymbols.length c0_vG) := (hst3.cell (p := ⟨w.heap.size, 0, none⟩) sz2_paG).trans bx2_paG_0
        have bx3_paG_1 : w3.cell? ⟨w.heap.size, 1, none⟩ = some (.slice a1_vG vG.fRules.length c1_vG) := (hst3.cell (p := ⟨w.heap.size, 1, none⟩) sz2_paG).trans bx2_paG_1
        have sz3_paR : w.heap.size + 1 < w3.heap.size := Nat.lt_of_lt_of_le sz2_paR hst3.size
        have bx3_paR_0 : w3.cell? ⟨w.heap.size + 1, 0, none⟩ = some (.string vR.fName) := (hst3.cell (p := ⟨w.heap.size + 1, 0, none⟩) sz2_paR).trans bx2_paR_0
        have bx3_paR_1 : w3.cell? ⟨w.heap.size + 1, 1, none⟩ = some (.string vR.fLeft) := (hst3.cell (p := ⟨w.heap.size + 1, 1, none⟩) sz2_paR).trans bx2_paR_1
        have bx3_paR_2 : w3.cell? ⟨w.heap.size + 1, 2, none⟩ = some (.slice a2_vR vR.fRight.length c2_vR) := (hst3.cell (p := ⟨w.heap.size + 1, 2, none⟩) sz2_paR).trans bx2_paR_2
        have bx3_paR_3 : w3.cell? ⟨w.heap.size + 1, 3, none⟩ = some (.bool vR.fLiteral) := (hst3.cell (p := ⟨w.heap.size + 1, 3, none⟩) sz2_paR).trans bx2_paR_3
        have bx3_paR_4 : w3.cell? ⟨w.heap.size + 1, 4, none⟩ = some (.slice a4_vR vR.fEquations.length c4_vR) := (hst3.cell (p := ⟨w.heap.size + 1, 4, none⟩) sz2_paR).trans bx2_paR_4
        have bx3_paR_5 : w3.cell? ⟨w.heap.size + 1, 5, none⟩ = some (.slice a5_vR vR.fContributions.length c5_vR) := (hst3.cell (p := ⟨w.heap.size + 1, 5, none⟩) sz2_paR).trans bx2_paR_5
        have sz3_paO : w.heap.size + 2 < w3.heap.size := Nat.lt_of_lt_of_le sz2_paO hst3.size
        have bx3_paO_0 : w3.cell? ⟨w.heap.size + 2, 0, none⟩ = some (.int .i64 vO.fPos) := (hst3.cell (p := ⟨w.heap.size + 2, 0, none⟩) sz2_paO).trans bx2_paO_0
        have bx3_paO_1 : w3.cell? ⟨w.heap.size + 2, 1, none⟩ = some (.string vO.fName) := (hst3.cell (p := ⟨w.heap.size + 2, 1, none⟩) sz2_paO).trans bx2_paO_1
        have HS3_0_vG := Lib.hid (HS2_0_vG.out.up hst3 (Nat.le_refl _))
        have HS3_1_vG := Lib.hid (HS2_1_vG.out.up hst3 (Nat.le_refl _))
        have HS3_2_vR := Lib.hid (HS2_2_vR.out.up hst3 (Nat.le_refl _))
        have HS3_4_vR := Lib.hid (HS2_4_vR.out.up hst3 (Nat.le_refl _))
        have HS3_5_vR := Lib.hid (HS2_5_vR.out.up hst3 (Nat.le_refl _))
        have HB3 := Lib.hid (HB2.out.trans (hst3.mono HB2.out.size))
        clear bx2_paG_0 bx2_paG_1 sz2_paG bx2_paR_0 bx2_paR_1 bx2_paR_2 bx2_paR_3 bx2_paR_4 bx2_paR_5 sz2_paR bx2_paO_0 bx2_paO_1 sz2_paO HS2_0_vG HS2_1_vG HS2_2_vR HS2_4_vR HS2_5_vR hb3 hst3 HB2
        go_upto_region 11 with fail
        go_cut [8] from 27 to 33 (fun sW wx => sW = .bool (mayUse vG vR vO) ∧ Below w3.heap.size w3 wx)
        case first =>
          refine wp_region_free [([], none), ([0], none), ([], none), ([2], none), ([], none), ([4], none), ([1, 3, 5], none), ([6], none)] [0, 1, 2, 3, 4, 5, 6, 7] (fun j V L H wx => match j with | 0 => V 0 = .agg #[.slice a0_vG vG.fSymbols.length c0_vG, .slice a1_vG vG.fRules.length c1_vG] | 1 => ∃ a0_vG_f1 c0_vG_f1 a1_vG_f1 c1_vG_f1, V 1 = .agg #[.slice a0_vG_f1 vG.fSymbols.length c0_vG_f1, .slice a1_vG_f1 vG.fRules.length c1_vG_f1] ∧ OwnR wx (fun y => L ≤ y ∧ y < H) 2 vG.ct (fun j => [.slice a0_vG_f1 vG.fSymbols.length c0_vG_f1, .slice a1_vG_f1 vG.fRules.length c1_vG_f1].getD j .nilFunc) | 2 => V 2 = .agg #[.string vR.fName, .string vR.fLeft, .slice a2_vR vR.fRight.length c2_vR, .bool vR.fLiteral, .slice a4_vR vR.fEquations.length c4_vR, .slice a5_vR vR.fContributions.length c5_vR] | 3 => ∃ a2_vR_f3 c2_vR_f3 a4_vR_f3 c4_vR_f3 a5_vR_f3 c5_vR_f3, V 3 = .agg #[.string vR.fName, .string vR.fLeft, .slice a2_vR_f3 vR.fRight.length c2_vR_f3, .bool vR.fLiteral, .slice a4_vR_f3 vR.fEquations.length c4_vR_f3, .slice a5_vR_f3 vR.fContributions.length c5_vR_f3] ∧ OwnR wx (fun y => L ≤ y ∧ y < H) 6 vR.ct (fun j => [.string vR.fName, .string vR.fLeft, .slice a2_vR_f3 vR.fRight.length c2_vR_f3, .bool vR.fLiteral, .slice a4_vR_f3 vR.fEquations.length c4_vR_f3, .slice a5_vR_f3 vR.fContributions.length c5_vR_f3].getD j .nilFunc) | 4 => V 4 = .agg #[.int .i64 vO.fPos, .string vO.fName] | 5 => V 5 = .agg #[.int .i64 vO.fPos, .string vO.fName] | 6 => V 6 = .bool (mayUse vG vR vO) | 7 => V 7 = V 6 | _ => True) (by kernel_rfl) (by kernel_rfl) ?loc ?lasts ?walk
          case loc =>
            intro k V V' L H wx h0 h1 hG
            match k with
            | 0 =>
              try dsimp only at hG ⊢
              rw [← h0]
              exact hG
            | 1 =>
              have e0 := h1 0 (by decide)
              try dsimp only at hG ⊢
              rw [← h0]
              exact hG
            | 2 =>
              try dsimp only at hG ⊢
              rw [← h0]
              exact hG
            | 3 =>
              have e2 := h1 2 (by decide)
              try dsimp only at hG ⊢
              rw [← h0]
              exact hG
            | 4 =>
              try dsimp only at hG ⊢
              rw [← h0]
              exact hG
            | 5 =>
              have e4 := h1 4 (by decide)
              try dsimp only at hG ⊢
              rw [← h0]
              exact hG
            | 6 =>
              have e1 := h1 1 (by decide)
              have e3 := h1 3 (by decide)
              have e5 := h1 5 (by decide)
              try dsimp only at hG ⊢
              rw [← h0]
              exact hG
            | 7 =>
              have e6 := h1 6 (by decide)
              try dsimp only at hG ⊢
              rw [← h0, ← e6]
              exact hG
            | n + 8 => trivial
          case lasts =>
            intro i hi V L H wx wy hB hH hk
            match i, hi with
            | 0, _ => exact fun h => h
            | 1, _ => exact fun ⟨a0_vG_f1, c0_vG_f1, a1_vG_f1, c1_vG_f1, hv, ho⟩ => ⟨a0_vG_f1, c0_vG_f1, a1_vG_f1, c1_vG_f1, hv, ho.kept (hk.sub fun x hx => .inr hx)⟩
            | 2, _ => exact fun h => h
            | 3, _ => exact fun ⟨a2_vR_f3, c2_vR_f3, a4_vR_f3, c4_vR_f3, a5_vR_f3, c5_vR_f3, hv, ho⟩ => ⟨a2_vR_f3, c2_vR_f3, a4_vR_f3, c4_vR_f3, a5_vR_f3, c5_vR_f3, hv, ho.kept (hk.sub fun x hx => .inr hx)⟩
            | 4, _ => exact fun h => h
            | 5, _ => exact fun h => h
            | 6, _ => exact fun h => h
            | 7, _ => exact fun h => h
            | n + 8, hn => exact absurd hn (by simp)
          case walk =>
            simp only [free, Nat.reduceAdd, Act.put, List.setIfInBounds_toArray, List.set_cons_succ, List.set_cons_zero]
            refine ⟨?_, ?_, ?_, ?_, ?_, ?_, ?_, ?_, ?_⟩
            · intro V L H w4 hb4 hd
              clear hd
              have sz4_paG : w.heap.size < w4.heap.size := Nat.lt_of_lt_of_le sz3_paG hb4.size
              have bx4_paG_0 : w4.cell? ⟨w.heap.size, 0, none⟩ = some (.slice a0_vG vG.fSymbols.length c0_vG) := (hb4.cell (p := ⟨w.heap.size, 0, none⟩) sz3_paG).trans bx3_paG_0
              have bx4_paG_1 : w4.cell? ⟨w.heap.size, 1, none⟩ = some (.slice a1_vG vG.fRules.length c1_vG) := (hb4.cell (p := ⟨w.heap.size, 1, none⟩) sz3_paG).trans bx3_paG_1
              have sz4_paR : w.heap.size + 1 < w4.heap.size := Nat.lt_of_lt_of_le sz3_paR hb4.size
              have bx4_paR_0 : w4.cell? ⟨w.heap.size + 1, 0, none⟩ = some (.string vR.fName) := (hb4.cell (p := ⟨w.heap.size + 1, 0, none⟩) sz3_paR).trans bx3_paR_0
              have bx4_paR_1 : w4.cell? ⟨w.heap.size + 1, 1, none⟩ = some (.string vR.fLeft) := (hb4.cell (p := ⟨w.heap.size + 1, 1, none⟩) sz3_paR).trans bx3_paR_1
              have bx4_paR_2 : w4.cell? ⟨w.heap.size + 1, 2, none⟩ = some (.slice a2_vR vR.fRight.length c2_vR) := (hb4.cell (p := ⟨w.heap.size + 1, 2, none⟩) sz3_paR).trans bx3_paR_2
              have bx4_paR_3 : w4.cell? ⟨w.heap.size + 1, 3, none⟩ = some (.bool vR.fLiteral) := (hb4.cell (p := ⟨w.heap.size + 1, 3, none⟩) sz3_paR).trans bx3_paR_3
              have bx4_paR_4 : w4.cell? ⟨w.heap.size + 1, 4, none⟩ = some (.slice a4_vR vR.fEquations.length c4_vR) := (hb4.cell (p := ⟨w.heap.size + 1, 4, none⟩) sz3_paR).trans bx3_paR_4
              have bx4_paR_5 : w4.cell? ⟨w.heap.size + 1, 5, none⟩ = some (.slice a5_vR vR.fContributions.length c5_vR) := (hb4.cell (p := ⟨w.heap.size + 1, 5, none⟩) sz3_paR).trans bx3_paR_5
              have sz4_paO : w.heap.size + 2 < w4.heap.size := Nat.lt_of_lt_of_le sz3_paO hb4.size
              have bx4_paO_0 : w4.cell? ⟨w.heap.size + 2, 0, none⟩ = some (.int .i64 vO.fPos) := (hb4.cell (p := ⟨w.heap.size + 2, 0, none⟩) sz3_paO).trans bx3_paO_0
              have bx4_paO_1 : w4.cell? ⟨w.heap.size + 2, 1, none⟩ = some (.string vO.fName) := (hb4.cell (p := ⟨w.heap.size + 2, 1, none⟩) sz3_paO).trans bx3_paO_1
              have HS4_0_vG := Lib.hid (HS3_0_vG.out.up hb4 (Nat.le_refl _))
              have HS4_1_vG := Lib.hid (HS3_1_vG.out.up hb4 (Nat.le_refl _))
              have HS4_2_vR := Lib.hid (HS3_2_vR.out.up hb4 (Nat.le_refl _))
              have HS4_4_vR := Lib.hid (HS3_4_vR.out.up hb4 (Nat.le_refl _))
              have HS4_5_vR := Lib.hid (HS3_5_vR.out.up hb4 (Nat.le_refl _))
              have HB4 := Lib.hid (HB3.out.trans (hb4.mono HB3.out.size))
              clear sz3_paG bx3_paG_0 bx3_paG_1 sz3_paR bx3_paR_0 bx3_paR_1 bx3_paR_2 bx3_paR_3 bx3_paR_4 bx3_paR_5 sz3_paO bx3_paO_0 bx3_paO_1
              go_wp2_with fail
              exact freePost _ rfl ⟨Below.refl _ _, upd_self⟩
            · intro V L H w4 hb4 hd
              obtain ⟨⟨hL0, hM0, hH0, hv0⟩, -⟩ := hd
              rw [hv0]
              have HV0 := Lib.hid hv0
              clear hv0
              have sz4_paG : w.heap.size < w4.heap.size := Nat.lt_of_lt_of_le sz3_paG hb4.size
              have bx4_paG_0 : w4.cell? ⟨w.heap.size, 0, none⟩ = some (.slice a0_vG vG.fSymbols.length c0_vG) := (hb4.cell (p := ⟨w.heap.size, 0, none⟩) sz3_paG).trans bx3_paG_0
              have bx4_paG_1 : w4.cell? ⟨w.heap.size, 1, none⟩ = some (.slice a1_vG vG.fRules.length c1_vG) := (hb4.cell (p := ⟨w.heap.size, 1, none⟩) sz3_paG).trans bx3_paG_1
              have sz4_paR : w.heap.size + 1 < w4.heap.size := Nat.lt_of_lt_of_le sz3_paR hb4.size
              have bx4_paR_0 : w4.cell? ⟨w.heap.size + 1, 0, none⟩ = some (.string vR.fName) := (hb4.cell (p := ⟨w.heap.size + 1, 0, none⟩) sz3_paR).trans bx3_paR_0
              have bx4_paR_1 : w4.cell? ⟨w.heap.size + 1, 1, none⟩ = some (.string vR.fLeft) := (hb4.cell (p := ⟨w.heap.size + 1, 1, none⟩) sz3_paR).trans bx3_paR_1
              have bx4_paR_2 : w4.cell? ⟨w.heap.size + 1, 2, none⟩ = some (.slice a2_vR vR.fRight.length c2_vR) := (hb4.cell (p := ⟨w.heap.size + 1, 2, none⟩) sz3_paR).trans bx3_paR_2
              have bx4_paR_3 : w4.cell? ⟨w.heap.size + 1, 3, none⟩ = some (.bool vR.fLiteral) := (hb4.cell (p := ⟨w.heap.size + 1, 3, none⟩) sz3_paR).trans bx3_paR_3
              have bx4_paR_4 : w4.cell? ⟨w.heap.size + 1, 4, none⟩ = some (.slice a4_vR vR.fEquations.length c4_vR) := (hb4.cell (p := ⟨w.heap.size + 1, 4, none⟩) sz3_paR).trans bx3_paR_4
              have bx4_paR_5 : w4.cell? ⟨w.heap.size + 1, 5, none⟩ = some (.slice a5_vR vR.fContributions.length c5_vR) := (hb4.cell (p := ⟨w.heap.size + 1, 5, none⟩) sz3_paR).trans bx3_paR_5
              have sz4_paO : w.heap.size + 2 < w4.heap.size := Nat.lt_of_lt_of_le sz3_paO hb4.size
              have bx4_paO_0 : w4.cell? ⟨w.heap.size + 2, 0, none⟩ = some (.int .i64 vO.fPos) := (hb4.cell (p := ⟨w.heap.size + 2, 0, none⟩) sz3_paO).trans bx3_paO_0
              have bx4_paO_1 : w4.cell? ⟨w.heap.size + 2, 1, none⟩ = some (.string vO.fName) := (hb4.cell (p := ⟨w.heap.size + 2, 1, none⟩) sz3_paO).trans bx3_paO_1
              have HS4_0_vG := Lib.hid (HS3_0_vG.out.up hb4 (Nat.le_refl _))
              have HS4_1_vG := Lib.hid (HS3_1_vG.out.up hb4 (Nat.le_refl _))
              have HS4_2_vR := Lib.hid (HS3_2_vR.out.up hb4 (Nat.le_refl _))
              have HS4_4_vR := Lib.hid (HS3_4_vR.out.up hb4 (Nat.le_refl _))
              have HS4_5_vR := Lib.hid (HS3_5_vR.out.up hb4 (Nat.le_refl _))
              have HB4 := Lib.hid (HB3.out.trans (hb4.mono HB3.out.size))
              clear sz3_paG bx3_paG_0 bx3_paG_1 sz3_paR bx3_paR_0 bx3_paR_1 bx3_paR_2 bx3_paR_3 bx3_paR_4 bx3_paR_5 sz3_paO bx3_paO_0 bx3_paO_1
              go_wp2_with fail
              refine (laws_toGrammar (c0 := c0_vG) (c1 := c1_vG) vG hq_vG _ (Below.size (by repeat (first | (with_reducible exact Below.refl _ _) | (with_reducible apply Below.drew) | (with_reducible refine below_drewN ?_ _) | (refine Below.setCell ?_ (by simp <;> omega) _) | (refine Below.alloc ?_ (by simp <;> omega) _)) : Below w4.heap.size w4 _)) (HS4_0_vG.out.later (by repeat (first | (with_reducible exact Below.refl _ _) | (with_reducible apply Below.drew) | (with_reducible refine below_drewN ?_ _) | (refine Below.setCell ?_ (by simp <;> omega) _) | (refine Below.alloc ?_ (by simp <;> omega) _)) : Below w4.heap.size w4 _) (Nat.le_refl _)) (HS4_1_vG.out.later (by repeat (first | (with_reducible exact Below.refl _ _) | (with_reducible apply Below.drew) | (with_reducible refine below_drewN ?_ _) | (refine Below.setCell ?_ (by simp <;> omega) _) | (refine Below.alloc ?_ (by simp <;> omega) _)) : Below w4.heap.size w4 _) (Nat.le_refl _))).mono ?_
              rintro e w5 ⟨a0_vG_f1, c0_vG_f1, a1_vG_f1, c1_vG_f1, rfl, ho, hb5⟩
              go_wp2_with fail
              exact freePost _ rfl ⟨hb5, Exists.intro a0_vG_f1 (Exists.intro c0_vG_f1 (Exists.intro a1_vG_f1 (Exists.intro c1_vG_f1 (And.intro upd_self ho))))⟩
            · intro V L H w4 hb4 hd
              clear hd
              have sz4_paG : w.heap.size < w4.heap.size := Nat.lt_of_lt_of_le sz3_paG hb4.size
              have bx4_paG_0 : w4.cell? ⟨w.heap.size, 0, none⟩ = some (.slice a0_vG vG.fSymbols.length c0_vG) := (hb4.cell (p := ⟨w.heap.size, 0, none⟩) sz3_paG).trans bx3_paG_0
              have bx4_paG_1 : w4.cell? ⟨w.heap.size, 1, none⟩ = some (.slice a1_vG vG.fRules.length c1_vG) := (hb4.cell (p := ⟨w.heap.size, 1, none⟩) sz3_paG).trans bx3_paG_1
              have sz4_paR : w.heap.size + 1 < w4.heap.size := Nat.lt_of_lt_of_le sz3_paR hb4.size
              have bx4_paR_0 : w4.cell? ⟨w.heap.size + 1, 0, none⟩ = some (.string vR.fName) := (hb4.cell (p := ⟨w.heap.size + 1, 0, none⟩) sz3_paR).trans bx3_paR_0
              have bx4_paR_1 : w4.cell? ⟨w.heap.size + 1, 1, none⟩ = some (.string vR.fLeft) := (hb4.cell (p := ⟨w.heap.size + 1, 1, none⟩) sz3_paR).trans bx3_paR_1
              have bx4_paR_2 : w4.cell? ⟨w.heap.size + 1, 2, none⟩ = some (.slice a2_vR vR.fRight.length c2_vR) := (hb4.cell (p := ⟨w.heap.size + 1, 2, none⟩) sz3_paR).trans bx3_paR_2
              have bx4_paR_3 : w4.cell? ⟨w.heap.size + 1, 3, none⟩ = some (.bool vR.fLiteral) := (hb4.cell (p := ⟨w.heap.size + 1, 3, none⟩) sz3_paR).trans bx3_paR_3
              have bx4_paR_4 : w4.cell? ⟨w.heap.size + 1, 4, none⟩ = some (.slice a4_vR vR.fEquations.length c4_vR) := (hb4.cell (p := ⟨w.heap.size + 1, 4, none⟩) sz3_paR).trans bx3_paR_4
              have bx4_paR_5 : w4.cell? ⟨w.heap.size + 1, 5, none⟩ = some (.slice a5_vR vR.fContributions.length c5_vR) := (hb4.cell (p := ⟨w.heap.size + 1, 5, none⟩) sz3_paR).trans bx3_paR_5
              have sz4_paO : w.heap.size + 2 < w4.heap.size := Nat.lt_of_lt_of_le sz3_paO hb4.size
              have bx4_paO_0 : w4.cell? ⟨w.heap.size + 2, 0, none⟩ = some (.int .i64 vO.fPos) := (hb4.cell (p := ⟨w.heap.size + 2, 0, none⟩) sz3_paO).trans bx3_paO_0
              have bx4_paO_1 : w4.cell? ⟨w.heap.size + 2, 1, none⟩ = some (.string vO.fName) := (hb4.cell (p := ⟨w.heap.size + 2, 1, none⟩) sz3_paO).trans bx3_paO_1
              have HS4_0_vG := Lib.hid (HS3_0_vG.out.up hb4 (Nat.le_refl _))
              have HS4_1_vG := Lib.hid (HS3_1_vG.out.up hb4 (Nat.le_refl _))
              have HS4_2_vR := Lib.hid (HS3_2_vR.out.up hb4 (Nat.le_refl _))
              have HS4_4_vR := Lib.hid (HS3_4_vR.out.up hb4 (Nat.le_refl _))
              have HS4_5_vR := Lib.hid (HS3_5_vR.out.up hb4 (Nat.le_refl _))
              have HB4 := Lib.hid (HB3.out.trans (hb4.mono HB3.out.size))
              clear sz3_paG bx3_paG_0 bx3_paG_1 sz3_paR bx3_paR_0 bx3_paR_1 bx3_paR_2 bx3_paR_3 bx3_paR_4 bx3_paR_5 sz3_paO bx3_paO_0 bx3_paO_1
              go_wp2_with fail
              exact freePost _ rfl ⟨Below.refl _ _, upd_self⟩
            · intro V L H w4 hb4 hd
              obtain ⟨⟨hL2, hM2, hH2, hv2⟩, -⟩ := hd
              rw [hv2]
              have HV2 := Lib.hid hv2
              clear hv2
              have sz4_paG : w.heap.size < w4.heap.size := Nat.lt_of_lt_of_le sz3_paG hb4.size
              have bx4_paG_0 : w4.cell? ⟨w.heap.size, 0, none⟩ = some (.slice a0_vG vG.fSymbols.length c0_vG) := (hb4.cell (p := ⟨w.heap.size, 0, none⟩) sz3_paG).trans bx3_paG_0
              have bx4_paG_1 : w4.cell? ⟨w.heap.size, 1, none⟩ = some (.slice a1_vG vG.fRules.length c1_vG) := (hb4.cell (p := ⟨w.heap.size, 1, none⟩) sz3_paG).trans bx3_paG_1
              have sz4_paR : w.heap.size + 1 < w4.heap.size := Nat.lt_of_lt_of_le sz3_paR hb4.size
              have bx4_paR_0 : w4.cell? ⟨w.heap.size + 1, 0, none⟩ = some (.string vR.fName) := (hb4.cell (p := ⟨w.heap.size + 1, 0, none⟩) sz3_paR).trans bx3_paR_0
              have bx4_paR_1 : w4.cell? ⟨w.heap.size + 1, 1, none⟩ = some (.string vR.fLeft) := (hb4.cell (p := ⟨w.heap.size + 1, 1, none⟩) sz3_paR).trans bx3_paR_1
              have bx4_paR_2 : w4.cell? ⟨w.heap.size + 1, 2, none⟩ = some (.slice a2_vR vR.fRight.length c2_vR) := (hb4.cell (p := ⟨w.heap.size + 1, 2, none⟩) sz3_paR).trans bx3_paR_2
              have bx4_paR_3 : w4.cell? ⟨w.heap.size + 1, 3, none⟩ = some (.bool vR.fLiteral) := (hb4.cell (p := ⟨w.heap.size + 1, 3, none⟩) sz3_paR).trans bx3_paR_3
              have bx4_paR_4 : w4.cell? ⟨w.heap.size + 1, 4, none⟩ = some (.slice a4_vR vR.fEquations.length c4_vR) := (hb4.cell (p := ⟨w.heap.size + 1, 4, none⟩) sz3_paR).trans bx3_paR_4
              have bx4_paR_5 : w4.cell? ⟨w.heap.size + 1, 5, none⟩ = some (.slice a5_vR vR.fContributions.length c5_vR) := (hb4.cell (p := ⟨w.heap.size + 1, 5, none⟩) sz3_paR).trans bx3_paR_5
              have sz4_paO : w.heap.size + 2 < w4.heap.size := Nat.lt_of_lt_of_le sz3_paO hb4.size
              have bx4_paO_0 : w4.cell? ⟨w.heap.size + 2, 0, none⟩ = some (.int .i64 vO.fPos) := (hb4.cell (p := ⟨w.heap.size + 2, 0, none⟩) sz3_paO).trans bx3_paO_0
              have bx4_paO_1 : w4.cell? ⟨w.heap.size + 2, 1, none⟩ = some (.string vO.fName) := (hb4.cell (p := ⟨w.heap.size + 2, 1, none⟩) sz3_paO).trans bx3_paO_1
              have HS4_0_vG := Lib.hid (HS3_0_vG.out.up hb4 (Nat.le_refl _))
              have HS4_1_vG := Lib.hid (HS3_1_vG.out.up hb4 (Nat.le_refl _))
              have HS4_2_vR := Lib.hid (HS3_2_vR.out.up hb4 (Nat.le_refl _))
              have HS4_4_vR := Lib.hid (HS3_4_vR.out.up hb4 (Nat.le_refl _))
              have HS4_5_vR := Lib.hid (HS3_5_vR.out.up hb4 (Nat.le_refl _))
              have HB4 := Lib.hid (HB3.out.trans (hb4.mono HB3.out.size))
              clear sz3_paG bx3_paG_0 bx3_paG_1 sz3_paR bx3_paR_0 bx3_paR_1 bx3_paR_2 bx3_paR_3 bx3_paR_4 bx3_paR_5 sz3_paO bx3_paO_0 bx3_paO_1
              go_wp2_with fail
              refine (laws_toRule (c2 := c2_vR) (c4 := c4_vR) (c5 := c5_vR) vR hq_vR _ (Below.size (by repeat (first | (with_reducible exact Below.refl _ _) | (with_reducible apply Below.drew) | (with_reducible refine below_drewN ?_ _) | (refine Below.setCell ?_ (by simp <;> omega) _) | (refine Below.alloc ?_ (by simp <;> omega) _)) : Below w4.heap.size w4 _)) (HS4_2_vR.out.later (by repeat (first | (with_reducible exact Below.refl _ _) | (with_reducible apply Below.drew) | (with_reducible refine below_drewN ?_ _) | (refine Below.setCell ?_ (by simp <;> omega) _) | (refine Below.alloc ?_ (by simp <;> omega) _)) : Below w4.heap.size w4 _) (Nat.le_refl _)) (HS4_4_vR.out.later (by repeat (first | (with_reducible exact Below.refl _ _) | (with_reducible apply Below.drew) | (with_reducible refine below_drewN ?_ _) | (refine Below.setCell ?_ (by simp <;> omega) _) | (refine Below.alloc ?_ (by simp <;> omega) _)) : Below w4.heap.size w4 _) (Nat.le_refl _)) (HS4_5_vR.out.later (by repeat (first | (with_reducible exact Below.refl _ _) | (with_reducible apply Below.drew) | (with_reducible refine below_drewN ?_ _) | (refine Below.setCell ?_ (by simp <;> omega) _) | (refine Below.alloc ?_ (by simp <;> omega) _)) : Below w4.heap.size w4 _) (Nat.le_refl _))).mono ?_
              rintro e w5 ⟨a2_vR_f3, c2_vR_f3, a4_vR_f3, c4_vR_f3, a5_vR_f3, c5_vR_f3, rfl, ho, hb5⟩
              go_wp2_with fail
              exact freePost _ rfl ⟨hb5, Exists.intro a2_vR_f3 (Exists.intro c2_vR_f3 (Exists.intro a4_vR_f3 (Exists.intro c4_vR_f3 (Exists.intro a5_vR_f3 (Exists.intro c5_vR_f3 (And.intro upd_self ho))))))⟩
            · intro V L H w4 hb4 hd
              clear hd
              have sz4_paG : w.heap.size < w4.heap.size := Nat.lt_of_lt_of_le sz3_paG hb4.size
              have bx4_paG_0 : w4.cell? ⟨w.heap.size, 0, none⟩ = some (.slice a0_vG vG.fSymbols.length c0_vG) := (hb4.cell (p := ⟨w.heap.size, 0, none⟩) sz3_paG).trans bx3_paG_0
              have bx4_paG_1 : w4.cell? ⟨w.heap.size, 1, none⟩ = some (.slice a1_vG vG.fRules.length c1_vG) := (hb4.cell (p := ⟨w.heap.size, 1, none⟩) sz3_paG).trans bx3_paG_1
              have sz4_paR : w.heap.size + 1 < w4.heap.size := Nat.lt_of_lt_of_le sz3_paR hb4.size
              have bx4_paR_0 : w4.cell? ⟨w.heap.size + 1, 0, none⟩ = some (.string vR.fName) := (hb4.cell (p := ⟨w.heap.size + 1, 0, none⟩) sz3_paR).trans bx3_paR_0
              have bx4_paR_1 : w4.cell? ⟨w.heap.size + 1, 1, none⟩ = some (.string vR.fLeft) := (hb4.cell (p := ⟨w.heap.size + 1, 1, none⟩) sz3_paR).trans bx3_paR_1
              have bx4_paR_2 : w4.cell? ⟨w.heap.size + 1, 2, none⟩ = some (.slice a2_vR vR.fRight.length c2_vR) := (hb4.cell (p := ⟨w.heap.size + 1, 2, none⟩) sz3_paR).trans bx3_paR_2
              have bx4_paR_3 : w4.cell? ⟨w.heap.size + 1, 3, none⟩ = some (.bool vR.fLiteral) := (hb4.cell (p := ⟨w.heap.size + 1, 3, none⟩) sz3_paR).trans bx3_paR_3
              have bx4_paR_4 : w4.cell? ⟨w.heap.size + 1, 4, none⟩ = some (.slice a4_vR vR.fEquations.length c4_vR) := (hb4.cell (p := ⟨w.heap.size + 1, 4, none⟩) sz3_paR).trans bx3_paR_4
              have bx4_paR_5 : w4.cell? ⟨w.heap.size + 1, 5, none⟩ = some (.slice a5_vR vR.fContributions.length c5_vR) := (hb4.cell (p := ⟨w.heap.size + 1, 5, none⟩) sz3_paR).trans bx3_paR_5
              have sz4_paO : w.heap.size + 2 < w4.heap.size := Nat.lt_of_lt_of_le sz3_paO hb4.size
              have bx4_paO_0 : w4.cell? ⟨w.heap.size + 2, 0, none⟩ = some (.int .i64 vO.fPos) := (hb4.cell (p := ⟨w.heap.size + 2, 0, none⟩) sz3_paO).trans bx3_paO_0
              have bx4_paO_1 : w4.cell? ⟨w.heap.size + 2, 1, none⟩ = some (.string vO.fName) := (hb4.cell (p := ⟨w.heap.size + 2, 1, none⟩) sz3_paO).trans bx3_paO_1
              have HS4_0_vG := Lib.hid (HS3_0_vG.out.up hb4 (Nat.le_refl _))
              have HS4_1_vG := Lib.hid (HS3_1_vG.out.up hb4 (Nat.le_refl _))
              have HS4_2_vR := Lib.hid (HS3_2_vR.out.up hb4 (Nat.le_refl _))
              have HS4_4_vR := Lib.hid (HS3_4_vR.out.up hb4 (Nat.le_refl _))
              have HS4_5_vR := Lib.hid (HS3_5_vR.out.up hb4 (Nat.le_refl _))
              have HB4 := Lib.hid (HB3.out.trans (hb4.mono HB3.out.size))
              clear sz3_paG bx3_paG_0 bx3_paG_1 sz3_paR bx3_paR_0 bx3_paR_1 bx3_paR_2 bx3_paR_3 bx3_paR_4 bx3_paR_5 sz3_paO bx3_paO_0 bx3_paO_1
              go_wp2_with fail
              exact freePost _ rfl ⟨Below.refl _ _, upd_self⟩
            · intro V L H w4 hb4 hd
              obtain ⟨⟨hL4, hM4, hH4, hv4⟩, -⟩ := hd
              rw [hv4]
              have HV4 := Lib.hid hv4
              clear hv4
              have sz4_paG : w.heap.size < w4.heap.size := Nat.lt_of_lt_of_le sz3_paG hb4.size
              have bx4_paG_0 : w4.cell? ⟨w.heap.size, 0, none⟩ = some (.slice a0_vG vG.fSymbols.length c0_vG) := (hb4.cell (p := ⟨w.heap.size, 0, none⟩) sz3_paG).trans bx3_paG_0
              have bx4_paG_1 : w4.cell? ⟨w.heap.size, 1, none⟩ = some (.slice a1_vG vG.fRules.length c1_vG) := (hb4.cell (p := ⟨w.heap.size, 1, none⟩) sz3_paG).trans bx3_paG_1
              have sz4_paR : w.heap.size + 1 < w4.heap.size := Nat.lt_of_lt_of_le sz3_paR hb4.size
              have bx4_paR_0 : w4.cell? ⟨w.heap.size + 1, 0, none⟩ = some (.string vR.fName) := (hb4.cell (p := ⟨w.heap.size + 1, 0, none⟩) sz3_paR).trans bx3_paR_0
              have bx4_paR_1 : w4.cell? ⟨w.heap.size + 1, 1, none⟩ = some (.string vR.fLeft) := (hb4.cell (p := ⟨w.heap.size + 1, 1, none⟩) sz3_paR).trans bx3_paR_1
              have bx4_paR_2 : w4.cell? ⟨w.heap.size + 1, 2, none⟩ = some (.slice a2_vR vR.fRight.length c2_vR) := (hb4.cell (p := ⟨w.heap.size + 1, 2, none⟩) sz3_paR).trans bx3_paR_2
              have bx4_paR_3 : w4.cell? ⟨w.heap.size + 1, 3, none⟩ = some (.bool vR.fLiteral) := (hb4.cell (p := ⟨w.heap.size + 1, 3, none⟩) sz3_paR).trans bx3_paR_3
              have bx4_paR_4 : w4.cell? ⟨w.heap.size + 1, 4, none⟩ = some (.slice a4_vR vR.fEquations.length c4_vR) := (hb4.cell (p := ⟨w.heap.size + 1, 4, none⟩) sz3_paR).trans bx3_paR_4
              have bx4_paR_5 : w4.cell? ⟨w.heap.size + 1, 5, none⟩ = some (.slice a5_vR vR.fContributions.length c5_vR) := (hb4.cell (p := ⟨w.heap.size + 1, 5, none⟩) sz3_paR).trans bx3_paR_5
              have sz4_paO : w.heap.size + 2 < w4.heap.size := Nat.lt_of_lt_of_le sz3_paO hb4.size
              have bx4_paO_0 : w4.cell? ⟨w.heap.size + 2, 0, none⟩ = some (.int .i64 vO.fPos) := (hb4.cell (p := ⟨w.heap.size + 2, 0, none⟩) sz3_paO).trans bx3_paO_0
              have bx4_paO_1 : w4.cell? ⟨w.heap.size + 2, 1, none⟩ = some (.string vO.fName) := (hb4.cell (p := ⟨w.heap.size + 2, 1, none⟩) sz3_paO).trans bx3_paO_1
              have HS4_0_vG := Lib.hid (HS3_0_vG.out.up hb4 (Nat.le_refl _))
              have HS4_1_vG := Lib.hid (HS3_1_vG.out.up hb4 (Nat.le_refl _))
              have HS4_2_vR := Lib.hid (HS3_2_vR.out.up hb4 (Nat.le_refl _))
              have HS4_4_vR := Lib.hid (HS3_4_vR.out.up hb4 (Nat.le_refl _))
              have HS4_5_vR := Lib.hid (HS3_5_vR.out.up hb4 (Nat.le_refl _))
              have HB4 := Lib.hid (HB3.out.trans (hb4.mono HB3.out.size))
              clear sz3_paG bx3_paG_0 bx3_paG_1 sz3_paR bx3_paR_0 bx3_paR_1 bx3_paR_2 bx3_paR_3 bx3_paR_4 bx3_paR_5 sz3_paO bx3_paO_0 bx3_paO_1
              go_wp2_with fail
              refine (laws_toOccurrence vO _).mono ?_
              rintro e w5 ⟨rfl, hb5⟩
              go_wp2_with fail
              exact freePost _ rfl ⟨hb5, upd_self⟩
            · intro V L H w4 hb4 hd
              obtain ⟨⟨hL1, hM1, hH1, a0_vG_f1, c0_vG_f1, a1_vG_f1, c1_vG_f1, hv1, ho1_⟩, ⟨hL3, hM3, hH3, a2_vR_f3, c2_vR_f3, a4_vR_f3, c4_vR_f3, a5_vR_f3, c5_vR_f3, hv3, ho3_⟩, ⟨hL5, hM5, hH5, hv5⟩, -⟩ := hd
              rw [hv1, hv3, hv5]
              have HV1 := Lib.hid hv1
              have HV3 := Lib.hid hv3
              have HV5 := Lib.hid hv5
              clear hv1 hv3 hv5
              have sz4_paG : w.heap.size < w4.heap.size := Nat.lt_of_lt_of_le sz3_paG hb4.size
              have bx4_paG_0 : w4.cell? ⟨w.heap.size, 0, none⟩ = some (.slice a0_vG vG.fSymbols.length c0_vG) := (hb4.cell (p := ⟨w.heap.size, 0, none⟩) sz3_paG).trans bx3_paG_0
              have bx4_paG_1 : w4.cell? ⟨w.heap.size, 1, none⟩ = some (.slice a1_vG vG.fRules.length c1_vG) := (hb4.cell (p := ⟨w.heap.size, 1, none⟩) sz3_paG).trans bx3_paG_1
              have sz4_paR : w.heap.size + 1 < w4.heap.size := Nat.lt_of_lt_of_le sz3_paR hb4.size
              have bx4_paR_0 : w4.cell? ⟨w.heap.size + 1, 0, none⟩ = some (.string vR.fName) := (hb4.cell (p := ⟨w.heap.size + 1, 0, none⟩) sz3_paR).trans bx3_paR_0
              have bx4_paR_1 : w4.cell? ⟨w.heap.size + 1, 1, none⟩ = some (.string vR.fLeft) := (hb4.cell (p := ⟨w.heap.size + 1, 1, none⟩) sz3_paR).trans bx3_paR_1
              have bx4_paR_2 : w4.cell? ⟨w.heap.size + 1, 2, none⟩ = some (.slice a2_vR vR.fRight.length c2_vR) := (hb4.cell (p := ⟨w.heap.size + 1, 2, none⟩) sz3_paR).trans bx3_paR_2
              have bx4_paR_3 : w4.cell? ⟨w.heap.size + 1, 3, none⟩ = some (.bool vR.fLiteral) := (hb4.cell (p := ⟨w.heap.size + 1, 3, none⟩) sz3_paR).trans bx3_paR_3
              have bx4_paR_4 : w4.cell? ⟨w.heap.size + 1, 4, none⟩ = some (.slice a4_vR vR.fEquations.length c4_vR) := (hb4.cell (p := ⟨w.heap.size + 1, 4, none⟩) sz3_paR).trans bx3_paR_4
              have bx4_paR_5 : w4.cell? ⟨w.heap.size + 1, 5, none⟩ = some (.slice a5_vR vR.fContributions.length c5_vR) := (hb4.cell (p := ⟨w.heap.size + 1, 5, none⟩) sz3_paR).trans bx3_paR_5
              have sz4_paO : w.heap.size + 2 < w4.heap.size := Nat.lt_of_lt_of_le sz3_paO hb4.size
              have bx4_paO_0 : w4.cell? ⟨w.heap.size + 2, 0, none⟩ = some (.int .i64 vO.fPos) := (hb4.cell (p := ⟨w.heap.size + 2, 0, none⟩) sz3_paO).trans bx3_paO_0
              have bx4_paO_1 : w4.cell? ⟨w.heap.size + 2, 1, none⟩ = some (.string vO.fName) := (hb4.cell (p := ⟨w.heap.size + 2, 1, none⟩) sz3_paO).trans bx3_paO_1
              have HS4_0_vG := Lib.hid (HS3_0_vG.out.up hb4 (Nat.le_refl _))
              have HS4_1_vG := Lib.hid (HS3_1_vG.out.up hb4 (Nat.le_refl _))
              have HS4_2_vR := Lib.hid (HS3_2_vR.out.up hb4 (Nat.le_refl _))
              have HS4_4_vR := Lib.hid (HS3_4_vR.out.up hb4 (Nat.le_refl _))
              have HS4_5_vR := Lib.hid (HS3_5_vR.out.up hb4 (Nat.le_refl _))
              have HB4 := Lib.hid (HB3.out.trans (hb4.mono HB3.out.size))
              clear sz3_paG bx3_paG_0 bx3_paG_1 sz3_paR bx3_paR_0 bx3_paR_1 bx3_paR_2 bx3_paR_3 bx3_paR_4 bx3_paR_5 sz3_paO bx3_paO_0 bx3_paO_1
              have HO_0_vG_f1 := Lib.hid (show Own w4 (fun y => L 1 ≤ y ∧ y < H 1) (.sl 2 vG.fSymbols.length (fun k => DSymbol.ct (vG.fSymbols.getD k default))) (.slice a0_vG_f1 vG.fSymbols.length c0_vG_f1) from OwnR.at ho1_ 0 (by decide))
              have HSf_0_vG_f1 := Lib.hid (Sl.of (HO_0_vG_f1.out.lies (lo := 0) (hi := w4.heap.size) (fun y hy => ⟨Nat.zero_le _, by have := hy.2; omega⟩)))
              have HO_1_vG_f1 := Lib.hid (show Own w4 (fun y => L 1 ≤ y ∧ y < H 1) (.sl 6 vG.fRules.length (fun k => DRule.ct (vG.fRules.getD k default))) (.slice a1_vG_f1 vG.fRules.length c1_vG_f1) from OwnR.at ho1_ 1 (by decide))
              have HSf_1_vG_f1 := Lib.hid (Sl.of (HO_1_vG_f1.out.lies (lo := 0) (hi := w4.heap.size) (fun y hy => ⟨Nat.zero_le _, by have := hy.2; omega⟩)))
              clear ho1_
              have HO_2_vR_f3 := Lib.hid (show Own w4 (fun y => L 3 ≤ y ∧ y < H 3) (.sl 1 vR.fRight.length (fun k => ictS (vR.fRight.getD k default))) (.slice a2_vR_f3 vR.fRight.length c2_vR_f3) from OwnR.at ho3_ 2 (by decide))
              have HSf_2_vR_f3 := Lib.hid (Sl.of (HO_2_vR_f3.out.lies (lo := 0) (hi := w4.heap.size) (fun y hy => ⟨Nat.zero_le _, by have := hy.2; omega⟩)))
              have HO_4_vR_f3 := Lib.hid (show Own w4 (fun y => L 3 ≤ y ∧ y < H 3) (.sl 9 vR.fEquations.length (fun k => DEquation.ct (vR.fEquations.getD k default))) (.slice a4_vR_f3 vR.fEquations.length c4_vR_f3) from OwnR.at ho3_ 4 (by decide))
              have HSf_4_vR_f3 := Lib.hid (Sl.of (HO_4_vR_f3.out.lies (lo := 0) (hi := w4.heap.size) (fun y hy => ⟨Nat.zero_le _, by have := hy.2; omega⟩)))
              have HO_5_vR_f3 := Lib.hid (show Own w4 (fun y => L 3 ≤ y ∧ y < H 3) (.sl 16 vR.fContributions.length (fun k => DContribution.ct (vR.fContributions.getD k default))) (.slice a5_vR_f3 vR.fContributions.length c5_vR_f3) from OwnR.at ho3_ 5 (by decide))
              have HSf_5_vR_f3 := Lib.hid (Sl.of (HO_5_vR_f3.out.lies (lo := 0) (hi := w4.heap.size) (fun y hy => ⟨Nat.zero_le _, by have := hy.2; omega⟩)))
              clear ho3_
              go_wp2_with fail
              refine (spec_MayUse (c0_0 := c0_vG_f1) (c0_1 := c1_vG_f1) (c1_0 := c2_vR_f3) (c1_1 := c4_vR_f3) (c1_2 := c5_vR_f3) vG OK_vG.out hq_vG vR OK_vR.out hq_vR vO OK_vO.out hq_vO _ (Below.size (by repeat (first | (with_reducible exact Below.refl _ _) | (with_reducible apply Below.drew) | (with_reducible refine below_drewN ?_ _) | (refine Below.setCell ?_ (by simp <;> omega) _) | (refine Below.alloc ?_ (by simp <;> omega) _)) : Below w4.heap.size w4 _)) (HSf_0_vG_f1.out.later (by repeat (first | (with_reducible exact Below.refl _ _) | (with_reducible apply Below.drew) | (with_reducible refine below_drewN ?_ _) | (refine Below.setCell ?_ (by simp <;> omega) _) | (refine Below.alloc ?_ (by simp <;> omega) _)) : Below w4.heap.size w4 _) (Nat.le_refl _)) (HSf_1_vG_f1.out.later (by repeat (first | (with_reducible exact Below.refl _ _) | (with_reducible apply Below.drew) | (with_reducible refine below_drewN ?_ _) | (refine Below.setCell ?_ (by simp <;> omega) _) | (refine Below.alloc ?_ (by simp <;> omega) _)) : Below w4.heap.size w4 _) (Nat.le_refl _)) (HSf_2_vR_f3.out.later (by repeat (first | (with_reducible exact Below.refl _ _) | (with_reducible apply Below.drew) | (with_reducible refine below_drewN ?_ _) | (refine Below.setCell ?_ (by simp <;> omega) _) | (refine Below.alloc ?_ (by simp <;> omega) _)) : Below w4.heap.size w4 _) (Nat.le_refl _)) (HSf_4_vR_f3.out.later (by repeat (first | (with_reducible exact Below.refl _ _) | (with_reducible apply Below.drew) | (with_reducible refine below_drewN ?_ _) | (refine Below.setCell ?_ (by simp <;> omega) _) | (refine Below.alloc ?_ (by simp <;> omega) _)) : Below w4.heap.size w4 _) (Nat.le_refl _)) (HSf_5_vR_f3.out.later (by repeat (first | (with_reducible exact Below.refl _ _) | (with_reducible apply Below.drew) | (with_reducible refine below_drewN ?_ _) | (refine Below.setCell ?_ (by simp <;> omega) _) | (refine Below.alloc ?_ (by simp <;> omega) _)) : Below w4.heap.size w4 _) (Nat.le_refl _))).mono ?_
              rintro e w5 ⟨rfl, hb5⟩
              go_wp2_with fail
              exact freePost _ rfl ⟨hb5, upd_self⟩
            · intro V L H w4 hb4 hd
              obtain ⟨⟨hL6, hM6, hH6, hv6⟩, -⟩ := hd
              rw [hv6]
              have HV6 := Lib.hid hv6
              clear hv6
              have HB4 := Lib.hid (HB3.out.trans (hb4.mono HB3.out.size))
              clear sz3_paG bx3_paG_0 bx3_paG_1 sz3_paR bx3_paR_0 bx3_paR_1 bx3_paR_2 bx3_paR_3 bx3_paR_4 bx3_paR_5 sz3_paO bx3_paO_0 bx3_paO_1
              go_wp2_with fail
              exact freePost _ rfl ⟨Below.refl _ _, upd_self.trans (HV6.out.symm.trans (upd_ne (by decide)).symm)⟩
            · intro V L H w4 hb4 hd hap hdead
              obtain ⟨⟨hL0, hM0, hH0, hv0⟩, ⟨hL1, hM1, hH1, a0_vG_f1, c0_vG_f1, a1_vG_f1, c1_vG_f1, hv1, ho1_⟩, ⟨hL2, hM2, hH2, hv2⟩, ⟨hL3, hM3, hH3, a2_vR_f3, c2_vR_f3, a4_vR_f3, c4_vR_f3, a5_vR_f3, c5_vR_f3, hv3, ho3_⟩, ⟨hL4, hM4, hH4, hv4⟩, ⟨hL5, hM5, hH5, hv5⟩, ⟨hL6, hM6, hH6, hv6⟩, ⟨hL7, hM7, hH7, hv7⟩, -⟩ := hd
              have hv6' := hv6
              have hv7' := hv7.trans hv6'
              rw [hv0, hv2, hv4, hv6', hv7', hv1, hv3, hv5]
              clear hv0 hv2 hv4 hv6' hv7' hv1 hv3 hv5 hv6 hv7
              clear hap hdead
              go_wp2_with fail
              go_meet
              exact ⟨rfl, hb4⟩
        case rest =>
          obtain ⟨rfl, hb7⟩ := hcut
          obtain ⟨w7, rfl⟩ : ∃ w_ : World, w_ = wc := ⟨_, rfl⟩
          have sz7_paG : w.heap.size < w7.heap.size := Nat.lt_of_lt_of_le sz3_paG hb7.size
          have bx7_paG_0 : w7.cell? ⟨w.heap.size, 0, none⟩ = some (.slice a0_vG vG.fSymbols.length c0_vG) := (hb7.cell (p := ⟨w.heap.size, 0, none⟩) sz3_paG).trans bx3_paG_0
          have bx7_paG_1 : w7.cell? ⟨w.heap.size, 1, none⟩ = some (.slice a1_vG vG.fRules.length c1_vG) := (hb7.cell (p := ⟨w.heap.size, 1, none⟩) sz3_paG).trans bx3_paG_1
          have sz7_paR : w.heap.size + 1 < w7.heap.size := Nat.lt_of_lt_of_le sz3_paR hb7.size
          have bx7_paR_0 : w7.cell? ⟨w.heap.size + 1, 0, none⟩ = some (.string vR.fName) := (hb7.cell (p := ⟨w.heap.size + 1, 0, none⟩) sz3_paR).trans bx3_paR_0
          have bx7_paR_1 : w7.cell? ⟨w.heap.size + 1, 1, none⟩ = some (.string vR.fLeft) := (hb7.cell (p := ⟨w.heap.size + 1, 1, none⟩) sz3_paR).trans bx3_paR_1
          have bx7_paR_2 : w7.cell? ⟨w.heap.size + 1, 2, none⟩ = some (.slice a2_vR vR.fRight.length c2_vR) := (hb7.cell (p := ⟨w.heap.size + 1, 2, none⟩) sz3_paR).trans bx3_paR_2
          have bx7_paR_3 : w7.cell? ⟨w.heap.size + 1, 3, none⟩ = some (.bool vR.fLiteral) := (hb7.cell (p := ⟨w.heap.size + 1, 3, none⟩) sz3_paR).trans bx3_paR_3
          have bx7_paR_4 : w7.cell? ⟨w.heap.size + 1, 4, none⟩ = some (.slice a4_vR vR.fEquations.length c4_vR) := (hb7.cell (p := ⟨w.heap.size + 1, 4, none⟩) sz3_paR).trans bx3_paR_4
          have bx7_paR_5 : w7.cell? ⟨w.heap.size + 1, 5, none⟩ = some (.slice a5_vR vR.fContributions.length c5_vR) := (hb7.cell (p := ⟨w.heap.size + 1, 5, none⟩) sz3_paR).trans bx3_paR_5
          have sz7_paO : w.heap.size + 2 < w7.heap.size := Nat.lt_of_lt_of_le sz3_paO hb7.size
          have bx7_paO_0 : w7.cell? ⟨w.heap.size + 2, 0, none⟩ = some (.int .i64 vO.fPos) := (hb7.cell (p := ⟨w.heap.size + 2, 0, none⟩) sz3_paO).trans bx3_paO_0
          have bx7_paO_1 : w7.cell? ⟨w.heap.size + 2, 1, none⟩ = some (.string vO.fName) := (hb7.cell (p := ⟨w.heap.size + 2, 1, none⟩) sz3_paO).trans bx3_paO_1
          have HS7_0_vG := Lib.hid (HS3_0_vG.out.up hb7 (Nat.le_refl _))
          have HS7_1_vG := Lib.hid (HS3_1_vG.out.up hb7 (Nat.le_refl _))
          have HS7_2_vR := Lib.hid (HS3_2_vR.out.up hb7 (Nat.le_refl _))
          have HS7_4_vR := Lib.hid (HS3_4_vR.out.up hb7 (Nat.le_refl _))
          have HS7_5_vR := Lib.hid (HS3_5_vR.out.up hb7 (Nat.le_refl _))
          have HB7 := Lib.hid (HB3.out.trans (hb7.mono HB3.out.size))
          clear hb7 bx3_paG_0 bx3_paG_1 sz3_paG bx3_paR_0 bx3_paR_1 bx3_paR_2 bx3_paR_3 bx3_paR_4 bx3_paR_5 sz3_paR bx3_paO_0 bx3_paO_1 sz3_paO HS3_0_vG HS3_1_vG HS3_2_vR HS3_4_vR HS3_5_vR HB3
          go_wp2_with fail
          refine (laws_toGrammar (c0 := c0_vG) (c1 := c1_vG) vG hq_vG _ (Below.size (by repeat (first | (with_reducible exact Below.refl _ _) | (with_reducible apply Below.drew) | (with_reducible refine below_drewN ?_ _) | (refine Below.setCell ?_ (by simp <;> omega) _) | (refine Below.alloc ?_ (by simp <;> omega) _)) : Below w7.heap.size w7 _)) (HS7_0_vG.out.later (by repeat (first | (with_reducible exact Below.refl _ _) | (with_reducible apply Below.drew) | (with_reducible refine below_drewN ?_ _) | (refine Below.setCell ?_ (by simp <;> omega) _) | (refine Below.alloc ?_ (by simp <;> omega) _)) : Below w7.heap.size w7 _) (Nat.le_refl _)) (HS7_1_vG.out.later (by repeat (first | (with_reducible exact Below.refl _ _) | (with_reducible apply Below.drew) | (with_reducible refine below_drewN ?_ _) | (refine Below.setCell ?_ (by simp <;> omega) _) | (refine Below.alloc ?_ (by simp <;> omega) _)) : Below w7.heap.size w7 _) (Nat.le_refl _))).mono ?_
          rintro e w8 ⟨a0_vG_8, c0_vG_8, a1_vG_8, c1_vG_8, rfl, ho8, hb8⟩
          have hst8 : Below w7.heap.size w7 w8 := Below.trans (by repeat (first | (with_reducible exact Below.refl _ _) | (with_reducible apply Below.drew) | (with_reducible refine below_drewN ?_ _) | (refine Below.setCell ?_ (by simp <;> omega) _) | (refine Below.alloc ?_ (by simp <;> omega) _)) : Below w7.heap.size w7 _) (hb8.mono (Below.size (by repeat (first | (with_reducible exact Below.refl _ _) | (with_reducible apply Below.drew) | (with_reducible refine below_drewN ?_ _) | (refine Below.setCell ?_ (by simp <;> omega) _) | (refine Below.alloc ?_ (by simp <;> omega) _)) : Below w7.heap.size w7 _)))
          have sz8_paG : w.heap.size < w8.heap.size := Nat.lt_of_lt_of_le sz7_paG hst8.size
          have bx8_paG_0 : w8.cell? ⟨w.heap.size, 0, none⟩ = some (.slice a0_vG vG.fSymbols.length c0_vG) := (hst8.cell (p := ⟨w.heap.size, 0, none⟩) sz7_paG).trans bx7_paG_0
          have bx8_paG_1 : w8.cell? ⟨w.heap.size, 1, none⟩ = some (.slice a1_vG vG.fRules.length c1_vG) := (hst8.cell (p := ⟨w.heap.size, 1, none⟩) sz7_paG).trans bx7_paG_1
          have sz8_paR : w.heap.size + 1 < w8.heap.size := Nat.lt_of_lt_of_le sz7_paR hst8.size
          have bx8_paR_0 : w8.cell? ⟨w.heap.size + 1, 0, none⟩ = some (.string vR.fName) := (hst8.cell (p := ⟨w.heap.size + 1, 0, none⟩) sz7_paR).trans bx7_paR_0
          have bx8_paR_1 : w8.cell? ⟨w.heap.size + 1, 1, none⟩ = some (.string vR.fLeft) := (hst8.cell (p := ⟨w.heap.size + 1, 1, none⟩) sz7_paR).trans bx7_paR_1
          have bx8_paR_2 : w8.cell? ⟨w.heap.size + 1, 2, none⟩ = some (.slice a2_vR vR.fRight.length c2_vR) := (hst8.cell (p := ⟨w.heap.size + 1, 2, none⟩) sz7_paR).trans bx7_paR_2
          have bx8_paR_3 : w8.cell? ⟨w.heap.size + 1, 3, none⟩ = some (.bool vR.fLiteral) := (hst8.cell (p := ⟨w.heap.size + 1, 3, none⟩) sz7_paR).trans bx7_paR_3
          have bx8_paR_4 : w8.cell? ⟨w.heap.size + 1, 4, none⟩ = some (.slice a4_vR vR.fEquations.length c4_vR) := (hst8.cell (p := ⟨w.heap.size + 1, 4, none⟩) sz7_paR).trans bx7_paR_4
          have bx8_paR_5 : w8.cell? ⟨w.heap.size + 1, 5, none⟩ = some (.slice a5_vR vR.fContributions.length c5_vR) := (hst8.cell (p := ⟨w.heap.size + 1, 5, none⟩) sz7_paR).trans bx7_paR_5
          have sz8_paO : w.heap.size + 2 < w8.heap.size := Nat.lt_of_lt_of_le sz7_paO hst8.size
          have bx8_paO_0 : w8.cell? ⟨w.heap.size + 2, 0, none⟩ = some (.int .i64 vO.fPos) := (hst8.cell (p := ⟨w.heap.size + 2, 0, none⟩) sz7_paO).trans bx7_paO_0
          have bx8_paO_1 : w8.cell? ⟨w.heap.size + 2, 1, none⟩ = some (.string vO.fName) := (hst8.cell (p := ⟨w.heap.size + 2, 1, none⟩) sz7_paO).trans bx7_paO_1
          have HS8_0_vG := Lib.hid (HS7_0_vG.out.up hst8 (Nat.le_refl _))
          have HS8_1_vG := Lib.hid (HS7_1_vG.out.up hst8 (Nat.le_refl _))
          have HS8_2_vR := Lib.hid (HS7_2_vR.out.up hst8 (Nat.le_refl _))
          have HS8_4_vR := Lib.hid (HS7_4_vR.out.up hst8 (Nat.le_refl _))
          have HS8_5_vR := Lib.hid (HS7_5_vR.out.up hst8 (Nat.le_refl _))
          have HS8_0_vG_8 := Lib.hid (show Sl 0 w8.heap.size w8 2 vG.fSymbols.length (fun k => DSymbol.ct (vG.fSymbols.getD k default)) a0_vG_8 from Sl.of (cap := c0_vG_8) (l := vG.fSymbols.length) (a := a0_vG_8) (ho8.lies (lo := 0) (hi := w8.heap.size) (fun y hy => ⟨Nat.zero_le _, hy.2⟩) 0 (by decide)))
          have HS8_1_vG_8 := Lib.hid (show Sl 0 w8.heap.size w8 6 vG.fRules.length (fun k => DRule.ct (vG.fRules.getD k default)) a1_vG_8 from Sl.of (cap := c1_vG_8) (l := vG.fRules.length) (a := a1_vG_8) (ho8.lies (lo := 0) (hi := w8.heap.size) (fun y hy => ⟨Nat.zero_le _, hy.2⟩) 1 (by decide)))
          have HB8 := Lib.hid (HB7.out.trans (hst8.mono HB7.out.size))
          clear bx7_paG_0 bx7_paG_1 sz7_paG bx7_paR_0 bx7_paR_1 bx7_paR_2 bx7_paR_3 bx7_paR_4 bx7_paR_5 sz7_paR bx7_paO_0 bx7_paO_1 sz7_paO HS7_0_vG HS7_1_vG HS7_2_vR HS7_4_vR HS7_5_vR ho8 hb8 hst8 HB7
          go_wp2_with fail
          refine (laws_toRule (c2 := c2_vR) (c4 := c4_vR) (c5 := c5_vR) vR hq_vR _ (Below.size (by repeat (first | (with_reducible exact Below.refl _ _) | (with_reducible apply Below.drew) | (with_reducible refine below_drewN ?_ _) | (refine Below.setCell ?_ (by simp <;> omega) _) | (refine Below.alloc ?_ (by simp <;> omega) _)) : Below w8.heap.size w8 _)) (HS8_2_vR.out.later (by repeat (first | (with_reducible exact Below.refl _ _) | (with_reducible apply Below.drew) | (with_reducible refine below_drewN ?_ _) | (refine Below.setCell ?_ (by simp <;> omega) _) | (refine Below.alloc ?_ (by simp <;> omega) _)) : Below w8.heap.size w8 _) (Nat.le_refl _)) (HS8_4_vR.out.later (by repeat (first | (with_reducible exact Below.refl _ _) | (with_reducible apply Below.drew) | (with_reducible refine below_drewN ?_ _) | (refine Below.setCell ?_ (by simp <;> omega) _) | (refine Below.alloc ?_ (by simp <;> omega) _)) : Below w8.heap.size w8 _) (Nat.le_refl _)) (HS8_5_vR.out.later (by repeat (first | (with_reducible exact Below.refl _ _) | (with_reducible apply Below.drew) | (with_reducible refine below_drewN ?_ _) | (refine Below.setCell ?_ (by simp <;> omega) _) | (refine Below.alloc ?_ (by simp <;> omega) _)) : Below w8.heap.size w8 _) (Nat.le_refl _))).mono ?_
          rintro e w9 ⟨a2_vR_9, c2_vR_9, a4_vR_9, c4_vR_9, a5_vR_9, c5_vR_9, rfl, ho9, hb9⟩
          have hst9 : Below w8.heap.size w8 w9 := Below.trans (by repeat (first | (with_reducible exact Below.refl _ _) | (with_reducible apply Below.drew) | (with_reducible refine below_drewN ?_ _) | (refine Below.setCell ?_ (by simp <;> omega) _) | (refine Below.alloc ?_ (by simp <;> omega) _)) : Below w8.heap.size w8 _) (hb9.mono (Below.size (by repeat (first | (with_reducible exact Below.refl _ _) | (with_reducible apply Below.drew) | (with_reducible refine below_drewN ?_ _) | (refine Below.setCell ?_ (by simp <;> omega) _) | (refine Below.alloc ?_ (by simp <;> omega) _)) : Below w8.heap.size w8 _)))
          have sz9_paG : w.heap.size < w9.heap.size := Nat.lt_of_lt_of_le sz8_paG hst9.size
          have bx9_paG_0 : w9.cell? ⟨w.heap.size, 0, none⟩ = some (.slice a0_vG vG.fSymbols.length c0_vG) := (hst9.cell (p := ⟨w.heap.size, 0, none⟩) sz8_paG).trans bx8_paG_0
          have bx9_paG_1 : w9.cell? ⟨w.heap.size, 1, none⟩ = some (.slice a1_vG vG.fRules.length c1_vG) := (hst9.cell (p := ⟨w.heap.size, 1, none⟩) sz8_paG).trans bx8_paG_1
          have sz9_paR : w.heap.size + 1 < w9.heap.size := Nat.lt_of_lt_of_le sz8_paR hst9.size
          have bx9_paR_0 : w9.cell? ⟨w.heap.size + 1, 0, none⟩ = some (.string vR.fName) := (hst9.cell (p := ⟨w.heap.size + 1, 0, none⟩) sz8_paR).trans bx8_paR_0
          have bx9_paR_1 : w9.cell? ⟨w.heap.size + 1, 1, none⟩ = some (.string vR.fLeft) := (hst9.cell (p := ⟨w.heap.size + 1, 1, none⟩) sz8_paR).trans bx8_paR_1
          have bx9_paR_2 : w9.cell? ⟨w.heap.size + 1, 2, none⟩ = some (.slice a2_vR vR.fRight.length c2_vR) := (hst9.cell (p := ⟨w.heap.size + 1, 2, none⟩) sz8_paR).trans bx8_paR_2
          have bx9_paR_3 : w9.cell? ⟨w.heap.size + 1, 3, none⟩ = some (.bool vR.fLiteral) := (hst9.cell (p := ⟨w.heap.size + 1, 3, none⟩) sz8_paR).trans bx8_paR_3
          have bx9_paR_4 : w9.cell? ⟨w.heap.size + 1, 4, none⟩ = some (.slice a4_vR vR.fEquations.length c4_vR) := (hst9.cell (p := ⟨w.heap.size + 1, 4, none⟩) sz8_paR).trans bx8_paR_4
          have bx9_paR_5 : w9.cell? ⟨w.heap.size + 1, 5, none⟩ = some (.slice a5_vR vR.fContributions.length c5_vR) := (hst9.cell (p := ⟨w.heap.size + 1, 5, none⟩) sz8_paR).trans bx8_paR_5
          have sz9_paO : w.heap.size + 2 < w9.heap.size := Nat.lt_of_lt_of_le sz8_paO hst9.size
          have bx9_paO_0 : w9.cell? ⟨w.heap.size + 2, 0, none⟩ = some (.int .i64 vO.fPos) := (hst9.cell (p := ⟨w.heap.size + 2, 0, none⟩) sz8_paO).trans bx8_paO_0
          have bx9_paO_1 : w9.cell? ⟨w.heap.size + 2, 1, none⟩ = some (.string vO.fName) := (hst9.cell (p := ⟨w.heap.size + 2, 1, none⟩) sz8_paO).trans bx8_paO_1
          have sz9_x0 : w8.heap.size < w9.heap.size := Nat.lt_of_lt_of_le (by first | omega | (simp; done) | (simp; omega) | (simp [World.setCell]; omega)) hb9.size
          have bx9_x0_0 : w9.cell? ⟨w8.heap.size, 0, none⟩ = some (.slice a0_vG_8 vG.fSymbols.length c0_vG_8) := (hb9.cell (p := ⟨w8.heap.size, 0, none⟩) (by first | omega | (simp; done) | (simp; omega) | (simp [World.setCell]; omega))).trans (by go_simp)
          have bx9_x0_1 : w9.cell? ⟨w8.heap.size, 1, none⟩ = some (.slice a1_vG_8 vG.fRules.length c1_vG_8) := (hb9.cell (p := ⟨w8.heap.size, 1, none⟩) (by first | omega | (simp; done) | (simp; omega) | (simp [World.setCell]; omega))).trans (by go_simp)
          have HS9_0_vG := Lib.hid (HS8_0_vG.out.up hst9 (Nat.le_refl _))
          have HS9_1_vG := Lib.hid (HS8_1_vG.out.up hst9 (Nat.le_refl _))
          have HS9_2_vR := Lib.hid (HS8_2_vR.out.up hst9 (Nat.le_refl _))
          have HS9_4_vR := Lib.hid (HS8_4_vR.out.up hst9 (Nat.le_refl _))
          have HS9_5_vR := Lib.hid (HS8_5_vR.out.up hst9 (Nat.le_refl _))
          have HS9_0_vG_8 := Lib.hid (HS8_0_vG_8.out.up hst9 (Nat.le_refl _))
          have HS9_1_vG_8 := Lib.hid (HS8_1_vG_8.out.up hst9 (Nat.le_refl _))
          have HS9_2_vR_9 := Lib.hid (show Sl 0 w9.heap.size w9 1 vR.fRight.length (fun k => ictS (vR.fRight.getD k default)) a2_vR_9 from Sl.of (cap := c2_vR_9) (l := vR.fRight.length) (a := a2_vR_9) (ho9.lies (lo := 0) (hi := w9.heap.size) (fun y hy => ⟨Nat.zero_le _, hy.2⟩) 2 (by decide)))
          have HS9_4_vR_9 := Lib.hid (show Sl 0 w9.heap.size w9 9 vR.fEquations.length (fun k => DEquation.ct (vR.fEquations.getD k default)) a4_vR_9 from Sl.of (cap := c4_vR_9) (l := vR.fEquations.length) (a := a4_vR_9) (ho9.lies (lo := 0) (hi := w9.heap.size) (fun y hy => ⟨Nat.zero_le _, hy.2⟩) 4 (by decide)))
          have HS9_5_vR_9 := Lib.hid (show Sl 0 w9.heap.size w9 16 vR.fContributions.length (fun k => DContribution.ct (vR.fContributions.getD k default)) a5_vR_9 from Sl.of (cap := c5_vR_9) (l := vR.fContributions.length) (a := a5_vR_9) (ho9.lies (lo := 0) (hi := w9.heap.size) (fun y hy => ⟨Nat.zero_le _, hy.2⟩) 5 (by decide)))
          have HB9 := Lib.hid (HB8.out.trans (hst9.mono HB8.out.size))
          clear bx8_paG_0 bx8_paG_1 sz8_paG bx8_paR_0 bx8_paR_1 bx8_paR_2 bx8_paR_3 bx8_paR_4 bx8_paR_5 sz8_paR bx8_paO_0 bx8_paO_1 sz8_paO HS8_0_vG HS8_1_vG HS8_2_vR HS8_4_vR HS8_5_vR HS8_0_vG_8 HS8_1_vG_8 ho9 hb9 hst9 HB8
          go_upto_region 14 with fail
          go_cut [11] from 38 to 42 (fun sW wx => sW = .bool (mayUse vG vR vO) ∧ Below w9.heap.size w9 wx ∧ w9.heap.size < wx.heap.size ∧ wx.cell? ⟨w9.heap.size, 0, none⟩ = some (.string vR.fName) ∧ wx.cell? ⟨w9.heap.size, 1, none⟩ = some (.string vR.fLeft) ∧ wx.cell? ⟨w9.heap.size, 2, none⟩ = some (.slice a2_vR_9 vR.fRight.length c2_vR_9) ∧ wx.cell? ⟨w9.heap.size, 3, none⟩ = some (.bool vR.fLiteral) ∧ wx.cell? ⟨w9.heap.size, 4, none⟩ = some (.slice a4_vR_9 vR.fEquations.length c4_vR_9) ∧ wx.cell? ⟨w9.heap.size, 5, none⟩ = some (.slice a5_vR_9 vR.fContributions.length c5_vR_9))
          case first =>
            refine wp_region_free [([], none), ([], none), ([], none), ([2], none), ([0, 1, 3], none), ([4], none)] [0, 1, 2, 3, 4, 5] (fun j V L H wx => match j with | 0 => V 0 = .agg #[.slice a0_vG_8 vG.fSymbols.length c0_vG_8, .slice a1_vG_8 vG.fRules.length c1_vG_8] | 1 => V 1 = .agg #[.string vR.fName, .string vR.fLeft, .slice a2_vR_9 vR.fRight.length c2_vR_9, .bool vR.fLiteral, .slice a4_vR_9 vR.fEquations.length c4_vR_9, .slice a5_vR_9 vR.fContributions.length c5_vR_9] | 2 => V 2 = .agg #[.int .i64 vO.fPos, .string vO.fName] | 3 => V 3 = .agg #[.int .i64 vO.fPos, .string vO.fName] | 4 => V 4 = .bool (mayUse vG vR vO) | 5 => V 5 = V 4 | _ => True) (by kernel_rfl) (by kernel_rfl) ?loc ?lasts ?walk
            case loc =>
              intro k V V' L H wx h0 h1 hG
              match k with
              | 0 =>
                try dsimp only at hG ⊢
                rw [← h0]
                exact hG
              | 1 =>
                try dsimp only at hG ⊢
                rw [← h0]
                exact hG
              | 2 =>
                try dsimp only at hG ⊢
                rw [← h0]
                exact hG
              | 3 =>
                have e2 := h1 2 (by decide)
                try dsimp only at hG ⊢
                rw [← h0]
                exact hG
              | 4 =>
                have e0 := h1 0 (by decide)
                have e1 := h1 1 (by decide)
                have e3 := h1 3 (by decide)
                try dsimp only at hG ⊢
                rw [← h0]
                exact hG
              | 5 =>
                have e4 := h1 4 (by decide)
                try dsimp only at hG ⊢
                rw [← h0, ← e4]
                exact hG
              | n + 6 => trivial
            case lasts =>
              intro i hi V L H wx wy hB hH hk
              match i, hi with
              | 0, _ => exact fun h => h
              | 1, _ => exact fun h => h
              | 2, _ => exact fun h => h
              | 3, _ => exact fun h => h
              | 4, _ => exact fun h => h
              | 5, _ => exact fun h => h
              | n + 6, hn => exact absurd hn (by simp)
            case walk =>
              simp only [free, Nat.reduceAdd, Act.put, List.setIfInBounds_toArray, List.set_cons_succ, List.set_cons_zero]
              refine ⟨?_, ?_, ?_, ?_, ?_, ?_, ?_⟩
              · intro V L H w10 hb10 hd
                clear hd
                have hst10 : Below w9.heap.size w9 w10 := Below.trans (by repeat (first | (with_reducible exact Below.refl _ _) | (with_reducible apply Below.drew) | (with_reducible refine below_drewN ?_ _) | (refine Below.setCell ?_ (by simp <;> omega) _) | (refine Below.alloc ?_ (by simp <;> omega) _)) : Below w9.heap.size w9 _) (hb10.mono (Below.size (by repeat (first | (with_reducible exact Below.refl _ _) | (with_reducible apply Below.drew) | (with_reducible refine below_drewN ?_ _) | (refine Below.setCell ?_ (by simp <;> omega) _) | (refine Below.alloc ?_ (by simp <;> omega) _)) : Below w9.heap.size w9 _)))
                have sz10_paG : w.heap.size < w10.heap.size := Nat.lt_of_lt_of_le sz9_paG hst10.size
                have bx10_paG_0 : w10.cell? ⟨w.heap.size, 0, none⟩ = some (.slice a0_vG vG.fSymbols.length c0_vG) := (hst10.cell (p := ⟨w.heap.size, 0, none⟩) sz9_paG).trans bx9_paG_0
                have bx10_paG_1 : w10.cell? ⟨w.heap.size, 1, none⟩ = some (.slice a1_vG vG.fRules.length c1_vG) := (hst10.cell (p := ⟨w.heap.size, 1, none⟩) sz9_paG).trans bx9_paG_1
                have sz10_paR : w.heap.size + 1 < w10.heap.size := Nat.lt_of_lt_of_le sz9_paR hst10.size
                have bx10_paR_0 : w10.cell? ⟨w.heap.size + 1, 0, none⟩ = some (.string vR.fName) := (hst10.cell (p := ⟨w.heap.size + 1, 0, none⟩) sz9_paR).trans bx9_paR_0
                have bx10_paR_1 : w10.cell? ⟨w.heap.size + 1, 1, none⟩ = some (.string vR.fLeft) := (hst10.cell (p := ⟨w.heap.size + 1, 1, none⟩) sz9_paR).trans bx9_paR_1
                have bx10_paR_2 : w10.cell? ⟨w.heap.size + 1, 2, none⟩ = some (.slice a2_vR vR.fRight.length c2_vR) := (hst10.cell (p := ⟨w.heap.size + 1, 2, none⟩) sz9_paR).trans bx9_paR_2
                have bx10_paR_3 : w10.cell? ⟨w.heap.size + 1, 3, none⟩ = some (.bool vR.fLiteral) := (hst10.cell (p := ⟨w.heap.size + 1, 3, none⟩) sz9_paR).trans bx9_paR_3
                have bx10_paR_4 : w10.cell? ⟨w.heap.size + 1, 4, none⟩ = some (.slice a4_vR vR.fEquations.length c4_vR) := (hst10.cell (p := ⟨w.heap.size + 1, 4, none⟩) sz9_paR).trans bx9_paR_4
                have bx10_paR_5 : w10.cell? ⟨w.heap.size + 1, 5, none⟩ = some (.slice a5_vR vR.fContributions.length c5_vR) := (hst10.cell (p := ⟨w.heap.size + 1, 5, none⟩) sz9_paR).trans bx9_paR_5
                have sz10_paO : w.heap.size + 2 < w10.heap.size := Nat.lt_of_lt_of_le sz9_paO hst10.size
                have bx10_paO_0 : w10.cell? ⟨w.heap.size + 2, 0, none⟩ = some (.int .i64 vO.fPos) := (hst10.cell (p := ⟨w.heap.size + 2, 0, none⟩) sz9_paO).trans bx9_paO_0
                have bx10_paO_1 : w10.cell? ⟨w.heap.size + 2, 1, none⟩ = some (.string vO.fName) := (hst10.cell (p := ⟨w.heap.size + 2, 1, none⟩) sz9_paO).trans bx9_paO_1
                have sz10_x0 : w8.heap.size < w10.heap.size := Nat.lt_of_lt_of_le sz9_x0 hst10.size
                have bx10_x0_0 : w10.cell? ⟨w8.heap.size, 0, none⟩ = some (.slice a0_vG_8 vG.fSymbols.length c0_vG_8) := (hst10.cell (p := ⟨w8.heap.size, 0, none⟩) sz9_x0).trans bx9_x0_0
                have bx10_x0_1 : w10.cell? ⟨w8.heap.size, 1, none⟩ = some (.slice a1_vG_8 vG.fRules.length c1_vG_8) := (hst10.cell (p := ⟨w8.heap.size, 1, none⟩) sz9_x0).trans bx9_x0_1
                have sz10_x1 : w9.heap.size < w10.heap.size := Nat.lt_of_lt_of_le (by first | omega | (simp; done) | (simp; omega) | (simp [World.setCell]; omega)) hb10.size
                have bx10_x1_0 : w10.cell? ⟨w9.heap.size, 0, none⟩ = some (.string vR.fName) := (hb10.cell (p := ⟨w9.heap.size, 0, none⟩) (by first | omega | (simp; done) | (simp; omega) | (simp [World.setCell]; omega))).trans (by go_simp)
                have bx10_x1_1 : w10.cell? ⟨w9.heap.size, 1, none⟩ = some (.string vR.fLeft) := (hb10.cell (p := ⟨w9.heap.size, 1, none⟩) (by first | omega | (simp; done) | (simp; omega) | (simp [World.setCell]; omega))).trans (by go_simp)
                have bx10_x1_2 : w10.cell? ⟨w9.heap.size, 2, none⟩ = some (.slice a2_vR_9 vR.fRight.length c2_vR_9) := (hb10.cell (p := ⟨w9.heap.size, 2, none⟩) (by first | omega | (simp; done) | (simp; omega) | (simp [World.setCell]; omega))).trans (by go_simp)
                have bx10_x1_3 : w10.cell? ⟨w9.heap.size, 3, none⟩ = some (.bool vR.fLiteral) := (hb10.cell (p := ⟨w9.heap.size, 3, none⟩) (by first | omega | (simp; done) | (simp; omega) | (simp [World.setCell]; omega))).trans (by go_simp)
                have bx10_x1_4 : w10.cell? ⟨w9.heap.size, 4, none⟩ = some (.slice a4_vR_9 vR.fEquations.length c4_vR_9) := (hb10.cell (p := ⟨w9.heap.size, 4, none⟩) (by first | omega | (simp; done) | (simp; omega) | (simp [World.setCell]; omega))).trans (by go_simp)
                have bx10_x1_5 : w10.cell? ⟨w9.heap.size, 5, none⟩ = some (.slice a5_vR_9 vR.fContributions.length c5_vR_9) := (hb10.cell (p := ⟨w9.heap.size, 5, none⟩) (by first | omega | (simp; done) | (simp; omega) | (simp [World.setCell]; omega))).trans (by go_simp)
                have HS10_0_vG := Lib.hid (HS9_0_vG.out.up hst10 (Nat.le_refl _))
                have HS10_1_vG := Lib.hid (HS9_1_vG.out.up hst10 (Nat.le_refl _))
                have HS10_2_vR := Lib.hid (HS9_2_vR.out.up hst10 (Nat.le_refl _))
                have HS10_4_vR := Lib.hid (HS9_4_vR.out.up hst10 (Nat.le_refl _))
                have HS10_5_vR := Lib.hid (HS9_5_vR.out.up hst10 (Nat.le_refl _))
                have HS10_0_vG_8 := Lib.hid (HS9_0_vG_8.out.up hst10 (Nat.le_refl _))
                have HS10_1_vG_8 := Lib.hid (HS9_1_vG_8.out.up hst10 (Nat.le_refl _))
                have HS10_2_vR_9 := Lib.hid (HS9_2_vR_9.out.up hst10 (Nat.le_refl _))
                have HS10_4_vR_9 := Lib.hid (HS9_4_vR_9.out.up hst10 (Nat.le_refl _))
                have HS10_5_vR_9 := Lib.hid (HS9_5_vR_9.out.up hst10 (Nat.le_refl _))
                have HB10 := Lib.hid (HB9.out.trans (hst10.mono HB9.out.size))
                clear sz9_paG bx9_paG_0 bx9_paG_1 sz9_paR bx9_paR_0 bx9_paR_1 bx9_paR_2 bx9_paR_3 bx9_paR_4 bx9_paR_5 sz9_paO bx9_paO_0 bx9_paO_1 sz9_x0 bx9_x0_0 bx9_x0_1
                go_wp2_with fail
                exact freePost _ rfl ⟨Below.refl _ _, upd_self⟩
              · intro V L H w10 hb10 hd
                clear hd
                have hst10 : Below w9.heap.size w9 w10 := Below.trans (by repeat (first | (with_reducible exact Below.refl _ _) | (with_reducible apply Below.drew) | (with_reducible refine below_drewN ?_ _) | (refine Below.setCell ?_ (by simp <;> omega) _) | (refine Below.alloc ?_ (by simp <;> omega) _)) : Below w9.heap.size w9 _) (hb10.mono (Below.size (by repeat (first | (with_reducible exact Below.refl _ _) | (with_reducible apply Below.drew) | (with_reducible refine below_drewN ?_ _) | (refine Below.setCell ?_ (by simp <;> omega) _) | (refine Below.alloc ?_ (by simp <;> omega) _)) : Below w9.heap.size w9 _)))
                have sz10_paG : w.heap.size < w10.heap.size := Nat.lt_of_lt_of_le sz9_paG hst10.size
                have bx10_paG_0 : w10.cell? ⟨w.heap.size, 0, none⟩ = some (.slice a0_vG vG.fSymbols.length c0_vG) := (hst10.cell (p := ⟨w.heap.size, 0, none⟩) sz9_paG).trans bx9_paG_0
                have bx10_paG_1 : w10.cell? ⟨w.heap.size, 1, none⟩ = some (.slice a1_vG vG.fRules.length c1_vG) := (hst10.cell (p := ⟨w.heap.size, 1, none⟩) sz9_paG).trans bx9_paG_1
                have sz10_paR : w.heap.size + 1 < w10.heap.size := Nat.lt_of_lt_of_le sz9_paR hst10.size
                have bx10_paR_0 : w10.cell? ⟨w.heap.size + 1, 0, none⟩ = some (.string vR.fName) := (hst10.cell (p := ⟨w.heap.size + 1, 0, none⟩) sz9_paR).trans bx9_paR_0
                have bx10_paR_1 : w10.cell? ⟨w.heap.size + 1, 1, none⟩ = some (.string vR.fLeft) := (hst10.cell (p := ⟨w.heap.size + 1, 1, none⟩) sz9_paR).trans bx9_paR_1
                have bx10_paR_2 : w10.cell? ⟨w.heap.size + 1, 2, none⟩ = some (.slice a2_vR vR.fRight.length c2_vR) := (hst10.cell (p := ⟨w.heap.size + 1, 2, none⟩) sz9_paR).trans bx9_paR_2
                have bx10_paR_3 : w10.cell? ⟨w.heap.size + 1, 3, none⟩ = some (.bool vR.fLiteral) := (hst10.cell (p := ⟨w.heap.size + 1, 3, none⟩) sz9_paR).trans bx9_paR_3
                have bx10_paR_4 : w10.cell? ⟨w.heap.size + 1, 4, none⟩ = some (.slice a4_vR vR.fEquations.length c4_vR) := (hst10.cell (p := ⟨w.heap.size + 1, 4, none⟩) sz9_paR).trans bx9_paR_4
                have bx10_paR_5 : w10.cell? ⟨w.heap.size + 1, 5, none⟩ = some (.slice a5_vR vR.fContributions.length c5_vR) := (hst10.cell (p := ⟨w.heap.size + 1, 5, none⟩) sz9_paR).trans bx9_paR_5
                have sz10_paO : w.heap.size + 2 < w10.heap.size := Nat.lt_of_lt_of_le sz9_paO hst10.size
                have bx10_paO_0 : w10.cell? ⟨w.heap.size + 2, 0, none⟩ = some (.int .i64 vO.fPos) := (hst10.cell (p := ⟨w.heap.size + 2, 0, none⟩) sz9_paO).trans bx9_paO_0
                have bx10_paO_1 : w10.cell? ⟨w.heap.size + 2, 1, none⟩ = some (.string vO.fName) := (hst10.cell (p := ⟨w.heap.size + 2, 1, none⟩) sz9_paO).trans bx9_paO_1
                have sz10_x0 : w8.heap.size < w10.heap.size := Nat.lt_of_lt_of_le sz9_x0 hst10.size
                have bx10_x0_0 : w10.cell? ⟨w8.heap.size, 0, none⟩ = some (.slice a0_vG_8 vG.fSymbols.length c0_vG_8) := (hst10.cell (p := ⟨w8.heap.size, 0, none⟩) sz9_x0).trans bx9_x0_0
                have bx10_x0_1 : w10.cell? ⟨w8.heap.size, 1, none⟩ = some (.slice a1_vG_8 vG.fRules.length c1_vG_8) := (hst10.cell (p := ⟨w8.heap.size, 1, none⟩) sz9_x0).trans bx9_x0_1
                have sz10_x1 : w9.heap.size < w10.heap.size := Nat.lt_of_lt_of_le (by first | omega | (simp; done) | (simp; omega) | (simp [World.setCell]; omega)) hb10.size
                have bx10_x1_0 : w10.cell? ⟨w9.heap.size, 0, none⟩ = some (.string vR.fName) := (hb10.cell (p := ⟨w9.heap.size, 0, none⟩) (by first | omega | (simp; done) | (simp; omega) | (simp [World.setCell]; omega))).trans (by go_simp)
                have bx10_x1_1 : w10.cell? ⟨w9.heap.size, 1, none⟩ = some (.string vR.fLeft) := (hb10.cell (p := ⟨w9.heap.size, 1, none⟩) (by first | omega | (simp; done) | (simp; omega) | (simp [World.setCell]; omega))).trans (by go_simp)
                have bx10_x1_2 : w10.cell? ⟨w9.heap.size, 2, none⟩ = some (.slice a2_vR_9 vR.fRight.length c2_vR_9) := (hb10.cell (p := ⟨w9.heap.size, 2, none⟩) (by first | omega | (simp; done) | (simp; omega) | (simp [World.setCell]; omega))).trans (by go_simp)
                have bx10_x1_3 : w10.cell? ⟨w9.heap.size, 3, none⟩ = some (.bool vR.fLiteral) := (hb10.cell (p := ⟨w9.heap.size, 3, none⟩) (by first | omega | (simp; done) | (simp; omega) | (simp [World.setCell]; omega))).trans (by go_simp)
                have bx10_x1_4 : w10.cell? ⟨w9.heap.size, 4, none⟩ = some (.slice a4_vR_9 vR.fEquations.length c4_vR_9) := (hb10.cell (p := ⟨w9.heap.size, 4, none⟩) (by first | omega | (simp; done) | (simp; omega) | (simp [World.setCell]; omega))).trans (by go_simp)
                have bx10_x1_5 : w10.cell? ⟨w9.heap.size, 5, none⟩ = some (.slice a5_vR_9 vR.fContributions.length c5_vR_9) := (hb10.cell (p := ⟨w9.heap.size, 5, none⟩) (by first | omega | (simp; done) | (simp; omega) | (simp [World.setCell]; omega))).trans (by go_simp)
                have HS10_0_vG := Lib.hid (HS9_0_vG.out.up hst10 (Nat.le_refl _))
                have HS10_1_vG := Lib.hid (HS9_1_vG.out.up hst10 (Nat.le_refl _))
                have HS10_2_vR := Lib.hid (HS9_2_vR.out.up hst10 (Nat.le_refl _))
                have HS10_4_vR := Lib.hid (HS9_4_vR.out.up hst10 (Nat.le_refl _))
                have HS10_5_vR := Lib.hid (HS9_5_vR.out.up hst10 (Nat.le_refl _))
                have HS10_0_vG_8 := Lib.hid (HS9_0_vG_8.out.up hst10 (Nat.le_refl _))
                have HS10_1_vG_8 := Lib.hid (HS9_1_vG_8.out.up hst10 (Nat.le_refl _))
                have HS10_2_vR_9 := Lib.hid (HS9_2_vR_9.out.up hst10 (Nat.le_refl _))
                have HS10_4_vR_9 := Lib.hid (HS9_4_vR_9.out.up hst10 (Nat.le_refl _))
                have HS10_5_vR_9 := Lib.hid (HS9_5_vR_9.out.up hst10 (Nat.le_refl _))
                have HB10 := Lib.hid (HB9.out.trans (hst10.mono HB9.out.size))
                clear sz9_paG bx9_paG_0 bx9_paG_1 sz9_paR bx9_paR_0 bx9_paR_1 bx9_paR_2 bx9_paR_3 bx9_paR_4 bx9_paR_5 sz9_paO bx9_paO_0 bx9_paO_1 sz9_x0 bx9_x0_0 bx9_x0_1
                go_wp2_with fail
                exact freePost _ rfl ⟨Below.refl _ _, upd_self⟩
              · intro V L H w10 hb10 hd
                clear hd
                have hst10 : Below w9.heap.size w9 w10 := Below.trans (by repeat (first | (with_reducible exact Below.refl _ _) | (with_reducible apply Below.drew) | (with_reducible refine below_drewN ?_ _) | (refine Below.setCell ?_ (by simp <;> omega) _) | (refine Below.alloc ?_ (by simp <;> omega) _)) : Below w9.heap.size w9 _) (hb10.mono (Below.size (by repeat (first | (with_reducible exact Below.refl _ _) | (with_reducible apply Below.drew) | (with_reducible refine below_drewN ?_ _) | (refine Below.setCell ?_ (by simp <;> omega) _) | (refine Below.alloc ?_ (by simp <;> omega) _)) : Below w9.heap.size w9 _)))
                have sz10_paG : w.heap.size < w10.heap.size := Nat.lt_of_lt_of_le sz9_paG hst10.size
                have bx10_paG_0 : w10.cell? ⟨w.heap.size, 0, none⟩ = some (.slice a0_vG vG.fSymbols.length c0_vG) := (hst10.cell (p := ⟨w.heap.size, 0, none⟩) sz9_paG).trans bx9_paG_0
                have bx10_paG_1 : w10.cell? ⟨w.heap.size, 1, none⟩ = some (.slice a1_vG vG.fRules.length c1_vG) := (hst10.cell (p := ⟨w.heap.size, 1, none⟩) sz9_paG).trans bx9_paG_1
                have sz10_paR : w.heap.size + 1 < w10.heap.size := Nat.lt_of_lt_of_le sz9_paR hst10.size
                have bx10_paR_0 : w10.cell? ⟨w.heap.size + 1, 0, none⟩ = some (.string vR.fName) := (hst10.cell (p := ⟨w.heap.size + 1, 0, none⟩) sz9_paR).trans bx9_paR_0
                have bx10_paR_1 : w10.cell? ⟨w.heap.size + 1, 1, none⟩ = some (.string vR.fLeft) := (hst10.cell (p := ⟨w.heap.size + 1, 1, none⟩) sz9_paR).trans bx9_paR_1
                have bx10_paR_2 : w10.cell? ⟨w.heap.size + 1, 2, none⟩ = some (.slice a2_vR vR.fRight.length c2_vR) := (hst10.cell (p := ⟨w.heap.size + 1, 2, none⟩) sz9_paR).trans bx9_paR_2
                have bx10_paR_3 : w10.cell? ⟨w.heap.size + 1, 3, none⟩ = some (.bool vR.fLiteral) := (hst10.cell (p := ⟨w.heap.size + 1, 3, none⟩) sz9_paR).trans bx9_paR_3
                have bx10_paR_4 : w10.cell? ⟨w.heap.size + 1, 4, none⟩ = some (.slice a4_vR vR.fEquations.length c4_vR) := (hst10.cell (p := ⟨w.heap.size + 1, 4, none⟩) sz9_paR).trans bx9_paR_4
                have bx10_paR_5 : w10.cell? ⟨w.heap.size + 1, 5, none⟩ = some (.slice a5_vR vR.fContributions.length c5_vR) := (hst10.cell (p := ⟨w.heap.size + 1, 5, none⟩) sz9_paR).trans bx9_paR_5
                have sz10_paO : w.heap.size + 2 < w10.heap.size := Nat.lt_of_lt_of_le sz9_paO hst10.size
                have bx10_paO_0 : w10.cell? ⟨w.heap.size + 2, 0, none⟩ = some (.int .i64 vO.fPos) := (hst10.cell (p := ⟨w.heap.size + 2, 0, none⟩) sz9_paO).trans bx9_paO_0
                have bx10_paO_1 : w10.cell? ⟨w.heap.size + 2, 1, none⟩ = some (.string vO.fName) := (hst10.cell (p := ⟨w.heap.size + 2, 1, none⟩) sz9_paO).trans bx9_paO_1
                have sz10_x0 : w8.heap.size < w10.heap.size := Nat.lt_of_lt_of_le sz9_x0 hst10.size
                have bx10_x0_0 : w10.cell? ⟨w8.heap.size, 0, none⟩ = some (.slice a0_vG_8 vG.fSymbols.length c0_vG_8) := (hst10.cell (p := ⟨w8.heap.size, 0, none⟩) sz9_x0).trans bx9_x0_0
                have bx10_x0_1 : w10.cell? ⟨w8.heap.size, 1, none⟩ = some (.slice a1_vG_8 vG.fRules.length c1_vG_8) := (hst10.cell (p := ⟨w8.heap.size, 1, none⟩) sz9_x0).trans bx9_x0_1
                have sz10_x1 : w9.heap.size < w10.heap.size := Nat.lt_of_lt_of_le (by first | omega | (simp; done) | (simp; omega) | (simp [World.setCell]; omega)) hb10.size
                have bx10_x1_0 : w10.cell? ⟨w9.heap.size, 0, none⟩ = some (.string vR.fName) := (hb10.cell (p := ⟨w9.heap.size, 0, none⟩) (by first | omega | (simp; done) | (simp; omega) | (simp [World.setCell]; omega))).trans (by go_simp)
                have bx10_x1_1 : w10.cell? ⟨w9.heap.size, 1, none⟩ = some (.string vR.fLeft) := (hb10.cell (p := ⟨w9.heap.size, 1, none⟩) (by first | omega | (simp; done) | (simp; omega) | (simp [World.setCell]; omega))).trans (by go_simp)
                have bx10_x1_2 : w10.cell? ⟨w9.heap.size, 2, none⟩ = some (.slice a2_vR_9 vR.fRight.length c2_vR_9) := (hb10.cell (p := ⟨w9.heap.size, 2, none⟩) (by first | omega | (simp; done) | (simp; omega) | (simp [World.setCell]; omega))).trans (by go_simp)
                have bx10_x1_3 : w10.cell? ⟨w9.heap.size, 3, none⟩ = some (.bool vR.fLiteral) := (hb10.cell (p := ⟨w9.heap.size, 3, none⟩) (by first | omega | (simp; done) | (simp; omega) | (simp [World.setCell]; omega))).trans (by go_simp)
                have bx10_x1_4 : w10.cell? ⟨w9.heap.size, 4, none⟩ = some (.slice a4_vR_9 vR.fEquations.length c4_vR_9) := (hb10.cell (p := ⟨w9.heap.size, 4, none⟩) (by first | omega | (simp; done) | (simp; omega) | (simp [World.setCell]; omega))).trans (by go_simp)
                have bx10_x1_5 : w10.cell? ⟨w9.heap.size, 5, none⟩ = some (.slice a5_vR_9 vR.fContributions.length c5_vR_9) := (hb10.cell (p := ⟨w9.heap.size, 5, none⟩) (by first | omega | (simp; done) | (simp; omega) | (simp [World.setCell]; omega))).trans (by go_simp)
                have HS10_0_vG := Lib.hid (HS9_0_vG.out.up hst10 (Nat.le_refl _))
                have HS10_1_vG := Lib.hid (HS9_1_vG.out.up hst10 (Nat.le_refl _))
                have HS10_2_vR := Lib.hid (HS9_2_vR.out.up hst10 (Nat.le_refl _))
                have HS10_4_vR := Lib.hid (HS9_4_vR.out.up hst10 (Nat.le_refl _))
                have HS10_5_vR := Lib.hid (HS9_5_vR.out.up hst10 (Nat.le_refl _))
                have HS10_0_vG_8 := Lib.hid (HS9_0_vG_8.out.up hst10 (Nat.le_refl _))
                have HS10_1_vG_8 := Lib.hid (HS9_1_vG_8.out.up hst10 (Nat.le_refl _))
                have HS10_2_vR_9 := Lib.hid (HS9_2_vR_9.out.up hst10 (Nat.le_refl _))
                have HS10_4_vR_9 := Lib.hid (HS9_4_vR_9.out.up hst10 (Nat.le_refl _))
                have HS10_5_vR_9 := Lib.hid (HS9_5_vR_9.out.up hst10 (Nat.le_refl _))
                have HB10 := Lib.hid (HB9.out.trans (hst10.mono HB9.out.size))
                clear sz9_paG bx9_paG_0 bx9_paG_1 sz9_paR bx9_paR_0 bx9_paR_1 bx9_paR_2 bx9_paR_3 bx9_paR_4 bx9_paR_5 sz9_paO bx9_paO_0 bx9_paO_1 sz9_x0 bx9_x0_0 bx9_x0_1
                go_wp2_with fail
                exact freePost _ rfl ⟨Below.refl _ _, upd_self⟩
              · intro V L H w10 hb10 hd
                obtain ⟨⟨hL2, hM2, hH2, hv2⟩, -⟩ := hd
                rw [hv2]
                have HV2 := Lib.hid hv2
                clear hv2
                have hst10 : Below w9.heap.size w9 w10 := Below.trans (by repeat (first | (with_reducible exact Below.refl _ _) | (with_reducible apply Below.drew) | (with_reducible refine below_drewN ?_ _) | (refine Below.setCell ?_ (by simp <;> omega) _) | (refine Below.alloc ?_ (by simp <;> omega) _)) : Below w9.heap.size w9 _) (hb10.mono (Below.size (by repeat (first | (with_reducible exact Below.refl _ _) | (with_reducible apply Below.drew) | (with_reducible refine below_drewN ?_ _) | (refine Below.setCell ?_ (by simp <;> omega) _) | (refine Below.alloc ?_ (by simp <;> omega) _)) : Below w9.heap.size w9 _)))
                have sz10_paG : w.heap.size < w10.heap.size := Nat.lt_of_lt_of_le sz9_paG hst10.size
                have bx10_paG_0 : w10.cell? ⟨w.heap.size, 0, none⟩ = some (.slice a0_vG vG.fSymbols.length c0_vG) := (hst10.cell (p := ⟨w.heap.size, 0, none⟩) sz9_paG).trans bx9_paG_0
                have bx10_paG_1 : w10.cell? ⟨w.heap.size, 1, none⟩ = some (.slice a1_vG vG.fRules.length c1_vG) := (hst10.cell (p := ⟨w.heap.size, 1, none⟩) sz9_paG).trans bx9_paG_1
                have sz10_paR : w.heap.size + 1 < w10.heap.size := Nat.lt_of_lt_of_le sz9_paR hst10.size
                have bx10_paR_0 : w10.cell? ⟨w.heap.size + 1, 0, none⟩ = some (.string vR.fName) := (hst10.cell (p := ⟨w.heap.size + 1, 0, none⟩) sz9_paR).trans bx9_paR_0
                have bx10_paR_1 : w10.cell? ⟨w.heap.size + 1, 1, none⟩ = some (.string vR.fLeft) := (hst10.cell (p := ⟨w.heap.size + 1, 1, none⟩) sz9_paR).trans bx9_paR_1
                have bx10_paR_2 : w10.cell? ⟨w.heap.size + 1, 2, none⟩ = some (.slice a2_vR vR.fRight.length c2_vR) := (hst10.cell (p := ⟨w.heap.size + 1, 2, none⟩) sz9_paR).trans bx9_paR_2
                have bx10_paR_3 : w10.cell? ⟨w.heap.size + 1, 3, none⟩ = some (.bool vR.fLiteral) := (hst10.cell (p := ⟨w.heap.size + 1, 3, none⟩) sz9_paR).trans bx9_paR_3
                have bx10_paR_4 : w10.cell? ⟨w.heap.size + 1, 4, none⟩ = some (.slice a4_vR vR.fEquations.length c4_vR) := (hst10.cell (p := ⟨w.heap.size + 1, 4, none⟩) sz9_paR).trans bx9_paR_4
                have bx10_paR_5 : w10.cell? ⟨w.heap.size + 1, 5, none⟩ = some (.slice a5_vR vR.fContributions.length c5_vR) := (hst10.cell (p := ⟨w.heap.size + 1, 5, none⟩) sz9_paR).trans bx9_paR_5
                have sz10_paO : w.heap.size + 2 < w10.heap.size := Nat.lt_of_lt_of_le sz9_paO hst10.size
                have bx10_paO_0 : w10.cell? ⟨w.heap.size + 2, 0, none⟩ = some (.int .i64 vO.fPos) := (hst10.cell (p := ⟨w.heap.size + 2, 0, none⟩) sz9_paO).trans bx9_paO_0
                have bx10_paO_1 : w10.cell? ⟨w.heap.size + 2, 1, none⟩ = some (.string vO.fName) := (hst10.cell (p := ⟨w.heap.size + 2, 1, none⟩) sz9_paO).trans bx9_paO_1
                have sz10_x0 : w8.heap.size < w10.heap.size := Nat.lt_of_lt_of_le sz9_x0 hst10.size
                have bx10_x0_0 : w10.cell? ⟨w8.heap.size, 0, none⟩ = some (.slice a0_vG_8 vG.fSymbols.length c0_vG_8) := (hst10.cell (p := ⟨w8.heap.size, 0, none⟩) sz9_x0).trans bx9_x0_0
                have bx10_x0_1 : w10.cell? ⟨w8.heap.size, 1, none⟩ = some (.slice a1_vG_8 vG.fRules.length c1_vG_8) := (hst10.cell (p := ⟨w8.heap.size, 1, none⟩) sz9_x0).trans bx9_x0_1
                have sz10_x1 : w9.heap.size < w10.heap.size := Nat.lt_of_lt_of_le (by first | omega | (simp; done) | (simp; omega) | (simp [World.setCell]; omega)) hb10.size
                have bx10_x1_0 : w10.cell? ⟨w9.heap.size, 0, none⟩ = some (.string vR.fName) := (hb10.cell (p := ⟨w9.heap.size, 0, none⟩) (by first | omega | (simp; done) | (simp; omega) | (simp [World.setCell]; omega))).trans (by go_simp)
                have bx10_x1_1 : w10.cell? ⟨w9.heap.size, 1, none⟩ = some (.string vR.fLeft) := (hb10.cell (p := ⟨w9.heap.size, 1, none⟩) (by first | omega | (simp; done) | (simp; omega) | (simp [World.setCell]; omega))).trans (by go_simp)
                have bx10_x1_2 : w10.cell? ⟨w9.heap.size, 2, none⟩ = some (.slice a2_vR_9 vR.fRight.length c2_vR_9) := (hb10.cell (p := ⟨w9.heap.size, 2, none⟩) (by first | omega | (simp; done) | (simp; omega) | (simp [World.setCell]; omega))).trans (by go_simp)
                have bx10_x1_3 : w10.cell? ⟨w9.heap.size, 3, none⟩ = some (.bool vR.fLiteral) := (hb10.cell (p := ⟨w9.heap.size, 3, none⟩) (by first | omega | (simp; done) | (simp; omega) | (simp [World.setCell]; omega))).trans (by go_simp)
                have bx10_x1_4 : w10.cell? ⟨w9.heap.size, 4, none⟩ = some (.slice a4_vR_9 vR.fEquations.length c4_vR_9) := (hb10.cell (p := ⟨w9.heap.size, 4, none⟩) (by first | omega | (simp; done) | (simp; omega) | (simp [World.setCell]; omega))).trans (by go_simp)
                have bx10_x1_5 : w10.cell? ⟨w9.heap.size, 5, none⟩ = some (.slice a5_vR_9 vR.fContributions.length c5_vR_9) := (hb10.cell (p := ⟨w9.heap.size, 5, none⟩) (by first | omega | (simp; done) | (simp; omega) | (simp [World.setCell]; omega))).trans (by go_simp)
                have HS10_0_vG := Lib.hid (HS9_0_vG.out.up hst10 (Nat.le_refl _))
                have HS10_1_vG := Lib.hid (HS9_1_vG.out.up hst10 (Nat.le_refl _))
                have HS10_2_vR := Lib.hid (HS9_2_vR.out.up hst10 (Nat.le_refl _))
                have HS10_4_vR := Lib.hid (HS9_4_vR.out.up hst10 (Nat.le_refl _))
                have HS10_5_vR := Lib.hid (HS9_5_vR.out.up hst10 (Nat.le_refl _))
                have HS10_0_vG_8 := Lib.hid (HS9_0_vG_8.out.up hst10 (Nat.le_refl _))
                have HS10_1_vG_8 := Lib.hid (HS9_1_vG_8.out.up hst10 (Nat.le_refl _))
                have HS10_2_vR_9 := Lib.hid (HS9_2_vR_9.out.up hst10 (Nat.le_refl _))
                have HS10_4_vR_9 := Lib.hid (HS9_4_vR_9.out.up hst10 (Nat.le_refl _))
                have HS10_5_vR_9 := Lib.hid (HS9_5_vR_9.out.up hst10 (Nat.le_refl _))
                have HB10 := Lib.hid (HB9.out.trans (hst10.mono HB9.out.size))
                clear sz9_paG bx9_paG_0 bx9_paG_1 sz9_paR bx9_paR_0 bx9_paR_1 bx9_paR_2 bx9_paR_3 bx9_paR_4 bx9_paR_5 sz9_paO bx9_paO_0 bx9_paO_1 sz9_x0 bx9_x0_0 bx9_x0_1
                go_wp2_with fail
                refine (laws_toOccurrence vO _).mono ?_
                rintro e w11 ⟨rfl, hb11⟩
                go_wp2_with fail
                exact freePost _ rfl ⟨hb11, upd_self⟩
              · intro V L H w10 hb10 hd
                obtain ⟨⟨hL0, hM0, hH0, hv0⟩, ⟨hL1, hM1, hH1, hv1⟩, ⟨hL3, hM3, hH3, hv3⟩, -⟩ := hd
                rw [hv0, hv1, hv3]
                have HV0 := Lib.hid hv0
                have HV1 := Lib.hid hv1
                have HV3 := Lib.hid hv3
                clear hv0 hv1 hv3
                have hst10 : Below w9.heap.size w9 w10 := Below.trans (by repeat (first | (with_reducible exact Below.refl _ _) | (with_reducible apply Below.drew) | (with_reducible refine below_drewN ?_ _) | (refine Below.setCell ?_ (by simp <;> omega) _) | (refine Below.alloc ?_ (by simp <;> omega) _)) : Below w9.heap.size w9 _) (hb10.mono (Below.size (by repeat (first | (with_reducible exact Below.refl _ _) | (with_reducible apply Below.drew) | (with_reducible refine below_drewN ?_ _) | (refine Below.setCell ?_ (by simp <;> omega) _) | (refine Below.alloc ?_ (by simp <;> omega) _)) : Below w9.heap.size w9 _)))
                have sz10_paG : w.heap.size < w10.heap.size := Nat.lt_of_lt_of_le sz9_paG hst10.size
                have bx10_paG_0 : w10.cell? ⟨w.heap.size, 0, none⟩ = some (.slice a0_vG vG.fSymbols.length c0_vG) := (hst10.cell (p := ⟨w.heap.size, 0, none⟩) sz9_paG).trans bx9_paG_0
                have bx10_paG_1 : w10.cell? ⟨w.heap.size, 1, none⟩ = some (.slice a1_vG vG.fRules.length c1_vG) := (hst10.cell (p := ⟨w.heap.size, 1, none⟩) sz9_paG).trans bx9_paG_1
                have sz10_paR : w.heap.size + 1 < w10.heap.size := Nat.lt_of_lt_of_le sz9_paR hst10.size
                have bx10_paR_0 : w10.cell? ⟨w.heap.size + 1, 0, none⟩ = some (.string vR.fName) := (hst10.cell (p := ⟨w.heap.size + 1, 0, none⟩) sz9_paR).trans bx9_paR_0
                have bx10_paR_1 : w10.cell? ⟨w.heap.size + 1, 1, none⟩ = some (.string vR.fLeft) := (hst10.cell (p := ⟨w.heap.size + 1, 1, none⟩) sz9_paR).trans bx9_paR_1
                have bx10_paR_2 : w10.cell? ⟨w.heap.size + 1, 2, none⟩ = some (.slice a2_vR vR.fRight.length c2_vR) := (hst10.cell (p := ⟨w.heap.size + 1, 2, none⟩) sz9_paR).trans bx9_paR_2
                have bx10_paR_3 : w10.cell? ⟨w.heap.size + 1, 3, none⟩ = some (.bool vR.fLiteral) := (hst10.cell (p := ⟨w.heap.size + 1, 3, none⟩) sz9_paR).trans bx9_paR_3
                have bx10_paR_4 : w10.cell? ⟨w.heap.size + 1, 4, none⟩ = some (.slice a4_vR vR.fEquations.length c4_vR) := (hst10.cell (p := ⟨w.heap.size + 1, 4, none⟩) sz9_paR).trans bx9_paR_4
                have bx10_paR_5 : w10.cell? ⟨w.heap.size + 1, 5, none⟩ = some (.slice a5_vR vR.fContributions.length c5_vR) := (hst10.cell (p := ⟨w.heap.size + 1, 5, none⟩) sz9_paR).trans bx9_paR_5
                have sz10_paO : w.heap.size + 2 < w10.heap.size := Nat.lt_of_lt_of_le sz9_paO hst10.size
                have bx10_paO_0 : w10.cell? ⟨w.heap.size + 2, 0, none⟩ = some (.int .i64 vO.fPos) := (hst10.cell (p := ⟨w.heap.size + 2, 0, none⟩) sz9_paO).trans bx9_paO_0
                have bx10_paO_1 : w10.cell? ⟨w.heap.size + 2, 1, none⟩ = some (.string vO.fName) := (hst10.cell (p := ⟨w.heap.size + 2, 1, none⟩) sz9_paO).trans bx9_paO_1
                have sz10_x0 : w8.heap.size < w10.heap.size := Nat.lt_of_lt_of_le sz9_x0 hst10.size
                have bx10_x0_0 : w10.cell? ⟨w8.heap.size, 0, none⟩ = some (.slice a0_vG_8 vG.fSymbols.length c0_vG_8) := (hst10.cell (p := ⟨w8.heap.size, 0, none⟩) sz9_x0).trans bx9_x0_0
                have bx10_x0_1 : w10.cell? ⟨w8.heap.size, 1, none⟩ = some (.slice a1_vG_8 vG.fRules.length c1_vG_8) := (hst10.cell (p := ⟨w8.heap.size, 1, none⟩) sz9_x0).trans bx9_x0_1
                have sz10_x1 : w9.heap.size < w10.heap.size := Nat.lt_of_lt_of_le (by first | omega | (simp; done) | (simp; omega) | (simp [World.setCell]; omega)) hb10.size
                have bx10_x1_0 : w10.cell? ⟨w9.heap.size, 0, none⟩ = some (.string vR.fName) := (hb10.cell (p := ⟨w9.heap.size, 0, none⟩) (by first | omega | (simp; done) | (simp; omega) | (simp [World.setCell]; omega))).trans (by go_simp)
                have bx10_x1_1 : w10.cell? ⟨w9.heap.size, 1, none⟩ = some (.string vR.fLeft) := (hb10.cell (p := ⟨w9.heap.size, 1, none⟩) (by first | omega | (simp; done) | (simp; omega) | (simp [World.setCell]; omega))).trans (by go_simp)
                have bx10_x1_2 : w10.cell? ⟨w9.heap.size, 2, none⟩ = some (.slice a2_vR_9 vR.fRight.length c2_vR_9) := (hb10.cell (p := ⟨w9.heap.size, 2, none⟩) (by first | omega | (simp; done) | (simp; omega) | (simp [World.setCell]; omega))).trans (by go_simp)
                have bx10_x1_3 : w10.cell? ⟨w9.heap.size, 3, none⟩ = some (.bool vR.fLiteral) := (hb10.cell (p := ⟨w9.heap.size, 3, none⟩) (by first | omega | (simp; done) | (simp; omega) | (simp [World.setCell]; omega))).trans (by go_simp)
                have bx10_x1_4 : w10.cell? ⟨w9.heap.size, 4, none⟩ = some (.slice a4_vR_9 vR.fEquations.length c4_vR_9) := (hb10.cell (p := ⟨w9.heap.size, 4, none⟩) (by first | omega | (simp; done) | (simp; omega) | (simp [World.setCell]; omega))).trans (by go_simp)
                have bx10_x1_5 : w10.cell? ⟨w9.heap.size, 5, none⟩ = some (.slice a5_vR_9 vR.fContributions.length c5_vR_9) := (hb10.cell (p := ⟨w9.heap.size, 5, none⟩) (by first | omega | (simp; done) | (simp; omega) | (simp [World.setCell]; omega))).trans (by go_simp)
                have HS10_0_vG := Lib.hid (HS9_0_vG.out.up hst10 (Nat.le_refl _))
                have HS10_1_vG := Lib.hid (HS9_1_vG.out.up hst10 (Nat.le_refl _))
                have HS10_2_vR := Lib.hid (HS9_2_vR.out.up hst10 (Nat.le_refl _))
                have HS10_4_vR := Lib.hid (HS9_4_vR.out.up hst10 (Nat.le_refl _))
                have HS10_5_vR := Lib.hid (HS9_5_vR.out.up hst10 (Nat.le_refl _))
                have HS10_0_vG_8 := Lib.hid (HS9_0_vG_8.out.up hst10 (Nat.le_refl _))
                have HS10_1_vG_8 := Lib.hid (HS9_1_vG_8.out.up hst10 (Nat.le_refl _))
                have HS10_2_vR_9 := Lib.hid (HS9_2_vR_9.out.up hst10 (Nat.le_refl _))
                have HS10_4_vR_9 := Lib.hid (HS9_4_vR_9.out.up hst10 (Nat.le_refl _))
                have HS10_5_vR_9 := Lib.hid (HS9_5_vR_9.out.up hst10 (Nat.le_refl _))
                have HB10 := Lib.hid (HB9.out.trans (hst10.mono HB9.out.size))
                clear sz9_paG bx9_paG_0 bx9_paG_1 sz9_paR bx9_paR_0 bx9_paR_1 bx9_paR_2 bx9_paR_3 bx9_paR_4 bx9_paR_5 sz9_paO bx9_paO_0 bx9_paO_1 sz9_x0 bx9_x0_0 bx9_x0_1
                go_wp2_with fail
                refine (impl_MayUse (c0_0 := c0_vG_8) (c0_1 := c1_vG_8) (c1_0 := c2_vR_9) (c1_1 := c4_vR_9) (c1_2 := c5_vR_9) vG OK_vG.out hq_vG vR OK_vR.out hq_vR vO OK_vO.out hq_vO _ (Below.size (by repeat (first | (with_reducible exact Below.refl _ _) | (with_reducible apply Below.drew) | (with_reducible refine below_drewN ?_ _) | (refine Below.setCell ?_ (by simp <;> omega) _) | (refine Below.alloc ?_ (by simp <;> omega) _)) : Below w10.heap.size w10 _)) (HS10_0_vG_8.out.later (by repeat (first | (with_reducible exact Below.refl _ _) | (with_reducible apply Below.drew) | (with_reducible refine below_drewN ?_ _) | (refine Below.setCell ?_ (by simp <;> omega) _) | (refine Below.alloc ?_ (by simp <;> omega) _)) : Below w10.heap.size w10 _) (Nat.le_refl _)) (HS10_1_vG_8.out.later (by repeat (first | (with_reducible exact Below.refl _ _) | (with_reducible apply Below.drew) | (with_reducible refine below_drewN ?_ _) | (refine Below.setCell ?_ (by simp <;> omega) _) | (refine Below.alloc ?_ (by simp <;> omega) _)) : Below w10.heap.size w10 _) (Nat.le_refl _)) (HS10_2_vR_9.out.later (by repeat (first | (with_reducible exact Below.refl _ _) | (with_reducible apply Below.drew) | (with_reducible refine below_drewN ?_ _) | (refine Below.setCell ?_ (by simp <;> omega) _) | (refine Below.alloc ?_ (by simp <;> omega) _)) : Below w10.heap.size w10 _) (Nat.le_refl _)) (HS10_4_vR_9.out.later (by repeat (first | (with_reducible exact Below.refl _ _) | (with_reducible apply Below.drew) | (with_reducible refine below_drewN ?_ _) | (refine Below.setCell ?_ (by simp <;> omega) _) | (refine Below.alloc ?_ (by simp <;> omega) _)) : Below w10.heap.size w10 _) (Nat.le_refl _)) (HS10_5_vR_9.out.later (by repeat (first | (with_reducible exact Below.refl _ _) | (with_reducible apply Below.drew) | (with_reducible refine below_drewN ?_ _) | (refine Below.setCell ?_ (by simp <;> omega) _) | (refine Below.alloc ?_ (by simp <;> omega) _)) : Below w10.heap.size w10 _) (Nat.le_refl _))).mono ?_
                rintro e w11 ⟨rfl, hb11⟩
                go_wp2_with fail
                exact freePost _ rfl ⟨hb11, upd_self⟩
              · intro V L H w10 hb10 hd
                obtain ⟨⟨hL4, hM4, hH4, hv4⟩, -⟩ := hd
                rw [hv4]
                have HV4 := Lib.hid hv4
                clear hv4
                have hst10 : Below w9.heap.size w9 w10 := Below.trans (by repeat (first | (with_reducible exact Below.refl _ _) | (with_reducible apply Below.drew) | (with_reducible refine below_drewN ?_ _) | (refine Below.setCell ?_ (by simp <;> omega) _) | (refine Below.alloc ?_ (by simp <;> omega) _)) : Below w9.heap.size w9 _) (hb10.mono (Below.size (by repeat (first | (with_reducible exact Below.refl _ _) | (with_reducible apply Below.drew) | (with_reducible refine below_drewN ?_ _) | (refine Below.setCell ?_ (by simp <;> omega) _) | (refine Below.alloc ?_ (by simp <;> omega) _)) : Below w9.heap.size w9 _)))
                have HB10 := Lib.hid (HB9.out.trans (hst10.mono HB9.out.size))
                clear sz9_paG bx9_paG_0 bx9_paG_1 sz9_paR bx9_paR_0 bx9_paR_1 bx9_paR_2 bx9_paR_3 bx9_paR_4 bx9_paR_5 sz9_paO bx9_paO_0 bx9_paO_1 sz9_x0 bx9_x0_0 bx9_x0_1
                go_wp2_with fail
                exact freePost _ rfl ⟨Below.refl _ _, upd_self.trans (HV4.out.symm.trans (upd_ne (by decide)).symm)⟩
              · intro V L H w10 hb10 hd hap hdead
                obtain ⟨⟨hL0, hM0, hH0, hv0⟩, ⟨hL1, hM1, hH1, hv1⟩, ⟨hL2, hM2, hH2, hv2⟩, ⟨hL3, hM3, hH3, hv3⟩, ⟨hL4, hM4, hH4, hv4⟩, ⟨hL5, hM5, hH5, hv5⟩, -⟩ := hd
                have hv4' := hv4
                have hv5' := hv5.trans hv4'
                rw [hv0, hv1, hv2, hv4', hv5', hv3]
                clear hv0 hv1 hv2 hv4' hv5' hv3 hv4 hv5
                clear hap hdead
                go_wp2_with fail
                go_meet
                have hstE : Below w9.heap.size w9 w10 := Below.trans (by repeat (first | (with_reducible exact Below.refl _ _) | (with_reducible apply Below.drew) | (with_reducible refine below_drewN ?_ _) | (refine Below.setCell ?_ (by simp <;> omega) _) | (refine Below.alloc ?_ (by simp <;> omega) _)) : Below w9.heap.size w9 _) (hb10.mono (Below.size (by repeat (first | (with_reducible exact Below.refl _ _) | (with_reducible apply Below.drew) | (with_reducible refine below_drewN ?_ _) | (refine Below.setCell ?_ (by simp <;> omega) _) | (refine Below.alloc ?_ (by simp <;> omega) _)) : Below w9.heap.size w9 _)))
                have hszE4 := Nat.le_trans (Below.size (by repeat (first | (with_reducible exact Below.refl _ _) | (with_reducible apply Below.drew) | (with_reducible refine below_drewN ?_ _) | (refine Below.setCell ?_ (by simp <;> omega) _) | (refine Below.alloc ?_ (by simp <;> omega) _)) : Below w9.heap.size w9 _)) hL4
                exact ⟨rfl, hstE, Nat.lt_of_lt_of_le (by first | omega | (simp; done) | (simp; omega) | (simp [World.setCell]; omega)) hb10.size, (hb10.cell (p := ⟨w9.heap.size, 0, none⟩) (by first | omega | (simp; done) | (simp; omega) | (simp [World.setCell]; omega))).trans (by go_simp), (hb10.cell (p := ⟨w9.heap.size, 1, none⟩) (by first | omega | (simp; done) | (simp; omega) | (simp [World.setCell]; omega))).trans (by go_simp), (hb10.cell (p := ⟨w9.heap.size, 2, none⟩) (by first | omega | (simp; done) | (simp; omega) | (simp [World.setCell]; omega))).trans (by go_simp), (hb10.cell (p := ⟨w9.heap.size, 3, none⟩) (by first | omega | (simp; done) | (simp; omega) | (simp [World.setCell]; omega))).trans (by go_simp), (hb10.cell (p := ⟨w9.heap.size, 4, none⟩) (by first | omega | (simp; done) | (simp; omega) | (simp [World.setCell]; omega))).trans (by go_simp), (hb10.cell (p := ⟨w9.heap.size, 5, none⟩) (by first | omega | (simp; done) | (simp; omega) | (simp [World.setCell]; omega))).trans (by go_simp)⟩
          case rest =>
            obtain ⟨rfl, hb11, sz11_x1, bx11_x1_0, bx11_x1_1, bx11_x1_2, bx11_x1_3, bx11_x1_4, bx11_x1_5⟩ := hcut
            obtain ⟨w11, rfl⟩ : ∃ w_ : World, w_ = wc := ⟨_, rfl⟩
            have sz11_paG : w.heap.size < w11.heap.size := Nat.lt_of_lt_of_le sz9_paG hb11.size
            have bx11_paG_0 : w11.cell? ⟨w.heap.size, 0, none⟩ = some (.slice a0_vG vG.fSymbols.length c0_vG) := (hb11.cell (p := ⟨w.heap.size, 0, none⟩) sz9_paG).trans bx9_paG_0
            have bx11_paG_1 : w11.cell? ⟨w.heap.size, 1, none⟩ = some (.slice a1_vG vG.fRules.length c1_vG) := (hb11.cell (p := ⟨w.heap.size, 1, none⟩) sz9_paG).trans bx9_paG_1
            have sz11_paR : w.heap.size + 1 < w11.heap.size := Nat.lt_of_lt_of_le sz9_paR hb11.size
            have bx11_paR_0 : w11.cell? ⟨w.heap.size + 1, 0, none⟩ = some (.string vR.fName) := (hb11.cell (p := ⟨w.heap.size + 1, 0, none⟩) sz9_paR).trans bx9_paR_0
            have bx11_paR_1 : w11.cell? ⟨w.heap.size + 1, 1, none⟩ = some (.string vR.fLeft) := (hb11.cell (p := ⟨w.heap.size + 1, 1, none⟩) sz9_paR).trans bx9_paR_1
            have bx11_paR_2 : w11.cell? ⟨w.heap.size + 1, 2, none⟩ = some (.slice a2_vR vR.fRight.length c2_vR) := (hb11.cell (p := ⟨w.heap.size + 1, 2, none⟩) sz9_paR).trans bx9_paR_2
            have bx11_paR_3 : w11.cell? ⟨w.heap.size + 1, 3, none⟩ = some (.bool vR.fLiteral) := (hb11.cell (p := ⟨w.heap.size + 1, 3, none⟩) sz9_paR).trans bx9_paR_3
            have bx11_paR_4 : w11.cell? ⟨w.heap.size + 1, 4, none⟩ = some (.slice a4_vR vR.fEquations.length c4_vR) := (hb11.cell (p := ⟨w.heap.size + 1, 4, none⟩) sz9_paR).trans bx9_paR_4
            have bx11_paR_5 : w11.cell? ⟨w.heap.size + 1, 5, none⟩ = some (.slice a5_vR vR.fContributions.length c5_vR) := (hb11.cell (p := ⟨w.heap.size + 1, 5, none⟩) sz9_paR).trans bx9_paR_5
            have sz11_paO : w.heap.size + 2 < w11.heap.size := Nat.lt_of_lt_of_le sz9_paO hb11.size
            have bx11_paO_0 : w11.cell? ⟨w.heap.size + 2, 0, none⟩ = some (.int .i64 vO.fPos) := (hb11.cell (p := ⟨w.heap.size + 2, 0, none⟩) sz9_paO).trans bx9_paO_0
            have bx11_paO_1 : w11.cell? ⟨w.heap.size + 2, 1, none⟩ = some (.string vO.fName) := (hb11.cell (p := ⟨w.heap.size + 2, 1, none⟩) sz9_paO).trans bx9_paO_1
            have sz11_x0 : w8.heap.size < w11.heap.size := Nat.lt_of_lt_of_le sz9_x0 hb11.size
            have bx11_x0_0 : w11.cell? ⟨w8.heap.size, 0, none⟩ = some (.slice a0_vG_8 vG.fSymbols.length c0_vG_8) := (hb11.cell (p := ⟨w8.heap.size, 0, none⟩) sz9_x0).trans bx9_x0_0
            have bx11_x0_1 : w11.cell? ⟨w8.heap.size, 1, none⟩ = some (.slice a1_vG_8 vG.fRules.length c1_vG_8) := (hb11.cell (p := ⟨w8.heap.size, 1, none⟩) sz9_x0).trans bx9_x0_1
            have HS11_0_vG := Lib.hid (HS9_0_vG.out.up hb11 (Nat.le_refl _))
            have HS11_1_vG := Lib.hid (HS9_1_vG.out.up hb11 (Nat.le_refl _))
            have HS11_2_vR := Lib.hid (HS9_2_vR.out.up hb11 (Nat.le_refl _))
            have HS11_4_vR := Lib.hid (HS9_4_vR.out.up hb11 (Nat.le_refl _))
            have HS11_5_vR := Lib.hid (HS9_5_vR.out.up hb11 (Nat.le_refl _))
            have HS11_0_vG_8 := Lib.hid (HS9_0_vG_8.out.up hb11 (Nat.le_refl _))
            have HS11_1_vG_8 := Lib.hid (HS9_1_vG_8.out.up hb11 (Nat.le_refl _))
            have HS11_2_vR_9 := Lib.hid (HS9_2_vR_9.out.up hb11 (Nat.le_refl _))
            have HS11_4_vR_9 := Lib.hid (HS9_4_vR_9.out.up hb11 (Nat.le_refl _))
            have HS11_5_vR_9 := Lib.hid (HS9_5_vR_9.out.up hb11 (Nat.le_refl _))
            have HB11 := Lib.hid (HB9.out.trans (hb11.mono HB9.out.size))
            clear hb11 bx9_paG_0 bx9_paG_1 sz9_paG bx9_paR_0 bx9_paR_1 bx9_paR_2 bx9_paR_3 bx9_paR_4 bx9_paR_5 sz9_paR bx9_paO_0 bx9_paO_1 sz9_paO bx9_x0_0 bx9_x0_1 sz9_x0 HS9_0_vG HS9_1_vG HS9_2_vR HS9_4_vR HS9_5_vR HS9_0_vG_8 HS9_1_vG_8 HS9_2_vR_9 HS9_4_vR_9 HS9_5_vR_9 HB9
            go_wp2_with fail
            go_region_with ((first | (go_at_call 8; refine (laws_toGrammar (c0 := c0_vG) (c1 := c1_vG) vG hq_vG _ (Below.size (by repeat (first | (with_reducible exact Below.refl _ _) | (with_reducible apply Below.drew) | (with_reducible refine below_drewN ?_ _) | (refine Below.setCell ?_ (by simp <;> omega) _) | (refine Below.alloc ?_ (by simp <;> omega) _)) : Below w11.heap.size w11 _)) (HS11_0_vG.out.later (by repeat (first | (with_reducible exact Below.refl _ _) | (with_reducible apply Below.drew) | (with_reducible refine below_drewN ?_ _) | (refine Below.setCell ?_ (by simp <;> omega) _) | (refine Below.alloc ?_ (by simp <;> omega) _)) : Below w11.heap.size w11 _) (Nat.le_refl _)) (HS11_1_vG.out.later (by repeat (first | (with_reducible exact Below.refl _ _) | (with_reducible apply Below.drew) | (with_reducible refine below_drewN ?_ _) | (refine Below.setCell ?_ (by simp <;> omega) _) | (refine Below.alloc ?_ (by simp <;> omega) _)) : Below w11.heap.size w11 _) (Nat.le_refl _))).mono ?_; rintro e w12 ⟨a0_vG_12, c0_vG_12, a1_vG_12, c1_vG_12, rfl, ho12, hb12⟩; have hst12 : Below w11.heap.size w11 w12 := Below.trans (by repeat (first | (with_reducible exact Below.refl _ _) | (with_reducible apply Below.drew) | (with_reducible refine below_drewN ?_ _) | (refine Below.setCell ?_ (by simp <;> omega) _) | (refine Below.alloc ?_ (by simp <;> omega) _)) : Below w11.heap.size w11 _) (hb12.mono (Below.size (by repeat (first | (with_reducible exact Below.refl _ _) | (with_reducible apply Below.drew) | (with_reducible refine below_drewN ?_ _) | (refine Below.setCell ?_ (by simp <;> omega) _) | (refine Below.alloc ?_ (by simp <;> omega) _)) : Below w11.heap.size w11 _))); have sz12_paG : w.heap.size < w12.heap.size := Nat.lt_of_lt_of_le sz11_paG hst12.size; have bx12_paG_0 : w12.cell? ⟨w.heap.size, 0, none⟩ = some (.slice a0_vG vG.fSymbols.length c0_vG) := (hst12.cell (p := ⟨w.heap.size, 0, none⟩) sz11_paG).trans bx11_paG_0; have bx12_paG_1 : w12.cell? ⟨w.heap.size, 1, none⟩ = some (.slice a1_vG vG.fRules.length c1_vG) := (hst12.cell (p := ⟨w.heap.size, 1, none⟩) sz11_paG).trans bx11_paG_1; have sz12_paR : w.heap.size + 1 < w12.heap.size := Nat.lt_of_lt_of_le sz11_paR hst12.size; have bx12_paR_0 : w12.cell? ⟨w.heap.size + 1, 0, none⟩ = some (.string vR.fName) := (hst12.cell (p := ⟨w.heap.size + 1, 0, none⟩) sz11_paR).trans bx11_paR_0; have bx12_paR_1 : w12.cell? ⟨w.heap.size + 1, 1, none⟩ = some (.string vR.fLeft) := (hst12.cell (p := ⟨w.heap.size + 1, 1, none⟩) sz11_paR).trans bx11_paR_1; have bx12_paR_2 : w12.cell? ⟨w.heap.size + 1, 2, none⟩ = some (.slice a2_vR vR.fRight.length c2_vR) := (hst12.cell (p := ⟨w.heap.size + 1, 2, none⟩) sz11_paR).trans bx11_paR_2; have bx12_paR_3 : w12.cell? ⟨w.heap.size + 1, 3, none⟩ = some (.bool vR.fLiteral) := (hst12.cell (p := ⟨w.heap.size + 1, 3, none⟩) sz11_paR).trans bx11_paR_3; have bx12_paR_4 : w12.cell? ⟨w.heap.size + 1, 4, none⟩ = some (.slice a4_vR vR.fEquations.length c4_vR) := (hst12.cell (p := ⟨w.heap.size + 1, 4, none⟩) sz11_paR).trans bx11_paR_4; have bx12_paR_5 : w12.cell? ⟨w.heap.size + 1, 5, none⟩ = some (.slice a5_vR vR.fContributions.length c5_vR) := (hst12.cell (p := ⟨w.heap.size + 1, 5, none⟩) sz11_paR).trans bx11_paR_5; have sz12_paO : w.heap.size + 2 < w12.heap.size := Nat.lt_of_lt_of_le sz11_paO hst12.size; have bx12_paO_0 : w12.cell? ⟨w.heap.size + 2, 0, none⟩ = some (.int .i64 vO.fPos) := (hst12.cell (p := ⟨w.heap.size + 2, 0, none⟩) sz11_paO).trans bx11_paO_0; have bx12_paO_1 : w12.cell? ⟨w.heap.size + 2, 1, none⟩ = some (.string vO.fName) := (hst12.cell (p := ⟨w.heap.size + 2, 1, none⟩) sz11_paO).trans bx11_paO_1; have sz12_x0 : w8.heap.size < w12.heap.size := Nat.lt_of_lt_of_le sz11_x0 hst12.size; have bx12_x0_0 : w12.cell? ⟨w8.heap.size, 0, none⟩ = some (.slice a0_vG_8 vG.fSymbols.length c0_vG_8) := (hst12.cell (p := ⟨w8.heap.size, 0, none⟩) sz11_x0).trans bx11_x0_0; have bx12_x0_1 : w12.cell? ⟨w8.heap.size, 1, none⟩ = some (.slice a1_vG_8 vG.fRules.length c1_vG_8) := (hst12.cell (p := ⟨w8.heap.size, 1, none⟩) sz11_x0).trans bx11_x0_1; have sz12_x1 : w9.heap.size < w12.heap.size := Nat.lt_of_lt_of_le sz11_x1 hst12.size; have bx12_x1_0 : w12.cell? ⟨w9.heap.size, 0, none⟩ = some (.string vR.fName) := (hst12.cell (p := ⟨w9.heap.size, 0, none⟩) sz11_x1).trans bx11_x1_0; have bx12_x1_1 : w12.cell? ⟨w9.heap.size, 1, none⟩ = some (.string vR.fLeft) := (hst12.cell (p := ⟨w9.heap.size, 1, none⟩) sz11_x1).trans bx11_x1_1; have bx12_x1_2 : w12.cell? ⟨w9.heap.size, 2, none⟩ = some (.slice a2_vR_9 vR.fRight.length c2_vR_9) := (hst12.cell (p := ⟨w9.heap.size, 2, none⟩) sz11_x1).trans bx11_x1_2; have bx12_x1_3 : w12.cell? ⟨w9.heap.size, 3, none⟩ = some (.bool vR.fLiteral) := (hst12.cell (p := ⟨w9.heap.size, 3, none⟩) sz11_x1).trans bx11_x1_3; have bx12_x1_4 : w12.cell? ⟨w9.heap.size, 4, none⟩ = some (.slice a4_vR_9 vR.fEquations.length c4_vR_9) := (hst12.cell (p := ⟨w9.heap.size, 4, none⟩) sz11_x1).trans bx11_x1_4; have bx12_x1_5 : w12.cell? ⟨w9.heap.size, 5, none⟩ = some (.slice a5_vR_9 vR.fContributions.length c5_vR_9) := (hst12.cell (p := ⟨w9.heap.size, 5, none⟩) sz11_x1).trans bx11_x1_5; have HS12_0_vG := Lib.hid (HS11_0_vG.out.up hst12 (Nat.le_refl _)); have HS12_1_vG := Lib.hid (HS11_1_vG.out.up hst12 (Nat.le_refl _)); have HS12_2_vR := Lib.hid (HS11_2_vR.out.up hst12 (Nat.le_refl _)); have HS12_4_vR := Lib.hid (HS11_4_vR.out.up hst12 (Nat.le_refl _)); have HS12_5_vR := Lib.hid (HS11_5_vR.out.up hst12 (Nat.le_refl _)); have HS12_0_vG_8 := Lib.hid (HS11_0_vG_8.out.up hst12 (Nat.le_refl _)); have HS12_1_vG_8 := Lib.hid (HS11_1_vG_8.out.up hst12 (Nat.le_refl _)); have HS12_2_vR_9 := Lib.hid (HS11_2_vR_9.out.up hst12 (Nat.le_refl _)); have HS12_4_vR_9 := Lib.hid (HS11_4_vR_9.out.up hst12 (Nat.le_refl _)); have HS12_5_vR_9 := Lib.hid (HS11_5_vR_9.out.up hst12 (Nat.le_refl _)); have HS12_0_vG_12 := Lib.hid (show Sl 0 w12.heap.size w12 2 vG.fSymbols.length (fun k => DSymbol.ct (vG.fSymbols.getD k default)) a0_vG_12 from Sl.of (cap := c0_vG_12) (l := vG.fSymbols.length) (a := a0_vG_12) (ho12.lies (lo := 0) (hi := w12.heap.size) (fun y hy => ⟨Nat.zero_le _, hy.2⟩) 0 (by decide))); have HS12_1_vG_12 := Lib.hid (show Sl 0 w12.heap.size w12 6 vG.fRules.length (fun k => DRule.ct (vG.fRules.getD k default)) a1_vG_12 from Sl.of (cap := c1_vG_12) (l := vG.fRules.length) (a := a1_vG_12) (ho12.lies (lo := 0) (hi := w12.heap.size) (fun y hy => ⟨Nat.zero_le _, hy.2⟩) 1 (by decide))); have HB12 := Lib.hid (HB11.out.trans (hst12.mono HB11.out.size)); clear bx11_paG_0 bx11_paG_1 sz11_paG bx11_paR_0 bx11_paR_1 bx11_paR_2 bx11_paR_3 bx11_paR_4 bx11_paR_5 sz11_paR bx11_paO_0 bx11_paO_1 sz11_paO bx11_x0_0 bx11_x0_1 sz11_x0 bx11_x1_0 bx11_x1_1 bx11_x1_2 bx11_x1_3 bx11_x1_4 bx11_x1_5 sz11_x1 HS11_0_vG HS11_1_vG HS11_2_vR HS11_4_vR HS11_5_vR HS11_0_vG_8 HS11_1_vG_8 HS11_2_vR_9 HS11_4_vR_9 HS11_5_vR_9 ho12 hb12 hst12 HB11) | (go_at_call 12; refine (laws_eqGrammar (c0 := c0_vG_8) (c1 := c1_vG_8) (c0q := c0_vG_12) (c1q := c1_vG_12) vG hq_vG _ (Below.size (by repeat (first | (with_reducible exact Below.refl _ _) | (with_reducible apply Below.drew) | (with_reducible refine below_drewN ?_ _) | (refine Below.setCell ?_ (by simp <;> omega) _) | (refine Below.alloc ?_ (by simp <;> omega) _)) : Below w12.heap.size w12 _)) (Below.size (by repeat (first | (with_reducible exact Below.refl _ _) | (with_reducible apply Below.drew) | (with_reducible refine below_drewN ?_ _) | (refine Below.setCell ?_ (by simp <;> omega) _) | (refine Below.alloc ?_ (by simp <;> omega) _)) : Below w12.heap.size w12 _)) (HS12_0_vG_8.out.later (by repeat (first | (with_reducible exact Below.refl _ _) | (with_reducible apply Below.drew) | (with_reducible refine below_drewN ?_ _) | (refine Below.setCell ?_ (by simp <;> omega) _) | (refine Below.alloc ?_ (by simp <;> omega) _)) : Below w12.heap.size w12 _) (Nat.le_refl _)) (HS12_1_vG_8.out.later (by repeat (first | (with_reducible exact Below.refl _ _) | (with_reducible apply Below.drew) | (with_reducible refine below_drewN ?_ _) | (refine Below.setCell ?_ (by simp <;> omega) _) | (refine Below.alloc ?_ (by simp <;> omega) _)) : Below w12.heap.size w12 _) (Nat.le_refl _)) (HS12_0_vG_12.out.later (by repeat (first | (with_reducible exact Below.refl _ _) | (with_reducible apply Below.drew) | (with_reducible refine below_drewN ?_ _) | (refine Below.setCell ?_ (by simp <;> omega) _) | (refine Below.alloc ?_ (by simp <;> omega) _)) : Below w12.heap.size w12 _) (Nat.le_refl _)) (HS12_1_vG_12.out.later (by repeat (first | (with_reducible exact Below.refl _ _) | (with_reducible apply Below.drew) | (with_reducible refine below_drewN ?_ _) | (refine Below.setCell ?_ (by simp <;> omega) _) | (refine Below.alloc ?_ (by simp <;> omega) _)) : Below w12.heap.size w12 _) (Nat.le_refl _))).mono ?_; rintro e w13 ⟨rfl, hb13⟩; have hst13 : Below w12.heap.size w12 w13 := Below.trans (by repeat (first | (with_reducible exact Below.refl _ _) | (with_reducible apply Below.drew) | (with_reducible refine below_drewN ?_ _) | (refine Below.setCell ?_ (by simp <;> omega) _) | (refine Below.alloc ?_ (by simp <;> omega) _)) : Below w12.heap.size w12 _) (hb13.mono (Below.size (by repeat (first | (with_reducible exact Below.refl _ _) | (with_reducible apply Below.drew) | (with_reducible refine below_drewN ?_ _) | (refine Below.setCell ?_ (by simp <;> omega) _) | (refine Below.alloc ?_ (by simp <;> omega) _)) : Below w12.heap.size w12 _))); have sz13_paG : w.heap.size < w13.heap.size := Nat.lt_of_lt_of_le sz12_paG hst13.size; have bx13_paG_0 : w13.cell? ⟨w.heap.size, 0, none⟩ = some (.slice a0_vG vG.fSymbols.length c0_vG) := (hst13.cell (p := ⟨w.heap.size, 0, none⟩) sz12_paG).trans bx12_paG_0; have bx13_paG_1 : w13.cell? ⟨w.heap.size, 1, none⟩ = some (.slice a1_vG vG.fRules.length c1_vG) := (hst13.cell (p := ⟨w.heap.size, 1, none⟩) sz12_paG).trans bx12_paG_1; have sz13_paR : w.heap.size + 1 < w13.heap.size := Nat.lt_of_lt_of_le sz12_paR hst13.size; have bx13_paR_0 : w13.cell? ⟨w.heap.size + 1, 0, none⟩ = some (.string vR.fName) := (hst13.cell (p := ⟨w.heap.size + 1, 0, none⟩) sz12_paR).trans bx12_paR_0; have bx13_paR_1 : w13.cell? ⟨w.heap.size + 1, 1, none⟩ = some (.string vR.fLeft) := (hst13.cell (p := ⟨w.heap.size + 1, 1, none⟩) sz12_paR).trans bx12_paR_1; have bx13_paR_2 : w13.cell? ⟨w.heap.size + 1, 2, none⟩ = some (.slice a2_vR vR.fRight.length c2_vR) := (hst13.cell (p := ⟨w.heap.size + 1, 2, none⟩) sz12_paR).trans bx12_paR_2; have bx13_paR_3 : w13.cell? ⟨w.heap.size + 1, 3, none⟩ = some (.bool vR.fLiteral) := (hst13.cell (p := ⟨w.heap.size + 1, 3, none⟩) sz12_paR).trans bx12_paR_3; have bx13_paR_4 : w13.cell? ⟨w.heap.size + 1, 4, none⟩ = some (.slice a4_vR vR.fEquations.length c4_vR) := (hst13.cell (p := ⟨w.heap.size + 1, 4, none⟩) sz12_paR).trans bx12_paR_4; have bx13_paR_5 : w13.cell? ⟨w.heap.size + 1, 5, none⟩ = some (.slice a5_vR vR.fContributions.length c5_vR) := (hst13.cell (p := ⟨w.heap.size + 1, 5, none⟩) sz12_paR).trans bx12_paR_5; have sz13_paO : w.heap.size + 2 < w13.heap.size := Nat.lt_of_lt_of_le sz12_paO hst13.size; have bx13_paO_0 : w13.cell? ⟨w.heap.size + 2, 0, none⟩ = some (.int .i64 vO.fPos) := (hst13.cell (p := ⟨w.heap.size + 2, 0, none⟩) sz12_paO).trans bx12_paO_0; have bx13_paO_1 : w13.cell? ⟨w.heap.size + 2, 1, none⟩ = some (.string vO.fName) := (hst13.cell (p := ⟨w.heap.size + 2, 1, none⟩) sz12_paO).trans bx12_paO_1; have sz13_x0 : w8.heap.size < w13.heap.size := Nat.lt_of_lt_of_le sz12_x0 hst13.size; have bx13_x0_0 : w13.cell? ⟨w8.heap.size, 0, none⟩ = some (.slice a0_vG_8 vG.fSymbols.length c0_vG_8) := (hst13.cell (p := ⟨w8.heap.size, 0, none⟩) sz12_x0).trans bx12_x0_0; have bx13_x0_1 : w13.cell? ⟨w8.heap.size, 1, none⟩ = some (.slice a1_vG_8 vG.fRules.length c1_vG_8) := (hst13.cell (p := ⟨w8.heap.size, 1, none⟩) sz12_x0).trans bx12_x0_1; have sz13_x1 : w9.heap.size < w13.heap.size := Nat.lt_of_lt_of_le sz12_x1 hst13.size; have bx13_x1_0 : w13.cell? ⟨w9.heap.size, 0, none⟩ = some (.string vR.fName) := (hst13.cell (p := ⟨w9.heap.size, 0, none⟩) sz12_x1).trans bx12_x1_0; have bx13_x1_1 : w13.cell? ⟨w9.heap.size, 1, none⟩ = some (.string vR.fLeft) := (hst13.cell (p := ⟨w9.heap.size, 1, none⟩) sz12_x1).trans bx12_x1_1; have bx13_x1_2 : w13.cell? ⟨w9.heap.size, 2, none⟩ = some (.slice a2_vR_9 vR.fRight.length c2_vR_9) := (hst13.cell (p := ⟨w9.heap.size, 2, none⟩) sz12_x1).trans bx12_x1_2; have bx13_x1_3 : w13.cell? ⟨w9.heap.size, 3, none⟩ = some (.bool vR.fLiteral) := (hst13.cell (p := ⟨w9.heap.size, 3, none⟩) sz12_x1).trans bx12_x1_3; have bx13_x1_4 : w13.cell? ⟨w9.heap.size, 4, none⟩ = some (.slice a4_vR_9 vR.fEquations.length c4_vR_9) := (hst13.cell (p := ⟨w9.heap.size, 4, none⟩) sz12_x1).trans bx12_x1_4; have bx13_x1_5 : w13.cell? ⟨w9.heap.size, 5, none⟩ = some (.slice a5_vR_9 vR.fContributions.length c5_vR_9) := (hst13.cell (p := ⟨w9.heap.size, 5, none⟩) sz12_x1).trans bx12_x1_5; have HS13_0_vG := Lib.hid (HS12_0_vG.out.up hst13 (Nat.le_refl _)); have HS13_1_vG := Lib.hid (HS12_1_vG.out.up hst13 (Nat.le_refl _)); have HS13_2_vR := Lib.hid (HS12_2_vR.out.up hst13 (Nat.le_refl _)); have HS13_4_vR := Lib.hid (HS12_4_vR.out.up hst13 (Nat.le_refl _)); have HS13_5_vR := Lib.hid (HS12_5_vR.out.up hst13 (Nat.le_refl _)); have HS13_0_vG_8 := Lib.hid (HS12_0_vG_8.out.up hst13 (Nat.le_refl _)); have HS13_1_vG_8 := Lib.hid (HS12_1_vG_8.out.up hst13 (Nat.le_refl _)); have HS13_2_vR_9 := Lib.hid (HS12_2_vR_9.out.up hst13 (Nat.le_refl _)); have HS13_4_vR_9 := Lib.hid (HS12_4_vR_9.out.up hst13 (Nat.le_refl _)); have HS13_5_vR_9 := Lib.hid (HS12_5_vR_9.out.up hst13 (Nat.le_refl _)); have HS13_0_vG_12 := Lib.hid (HS12_0_vG_12.out.up hst13 (Nat.le_refl _)); have HS13_1_vG_12 := Lib.hid (HS12_1_vG_12.out.up hst13 (Nat.le_refl _)); have HB13 := Lib.hid (HB12.out.trans (hst13.mono HB12.out.size)); clear bx12_paG_0 bx12_paG_1 sz12_paG bx12_paR_0 bx12_paR_1 bx12_paR_2 bx12_paR_3 bx12_paR_4 bx12_paR_5 sz12_paR bx12_paO_0 bx12_paO_1 sz12_paO bx12_x0_0 bx12_x0_1 sz12_x0 bx12_x1_0 bx12_x1_1 bx12_x1_2 bx12_x1_3 bx12_x1_4 bx12_x1_5 sz12_x1 HS12_0_vG HS12_1_vG HS12_2_vR HS12_4_vR HS12_5_vR HS12_0_vG_8 HS12_1_vG_8 HS12_2_vR_9 HS12_4_vR_9 HS12_5_vR_9 HS12_0_vG_12 HS12_1_vG_12 hb13 hst13 HB12)))
            all_goals
              go_wp2_with fail
              go_region_with ((first | (go_at_call 9; refine (laws_toRule (c2 := c2_vR) (c4 := c4_vR) (c5 := c5_vR) vR hq_vR _ (Below.size (by repeat (first | (with_reducible exact Below.refl _ _) | (with_reducible apply Below.drew) | (with_reducible refine below_drewN ?_ _) | (refine Below.setCell ?_ (by simp <;> omega) _) | (refine Below.alloc ?_ (by simp <;> omega) _)) : Below w13.heap.size w13 _)) (HS13_2_vR.out.later (by repeat (first | (with_reducible exact Below.refl _ _) | (with_reducible apply Below.drew) | (with_reducible refine below_drewN ?_ _) | (refine Below.setCell ?_ (by simp <;> omega) _) | (refine Below.alloc ?_ (by simp <;> omega) _)) : Below w13.heap.size w13 _) (Nat.le_refl _)) (HS13_4_vR.out.later (by repeat (first | (with_reducible exact Below.refl _ _) | (with_reducible apply Below.drew) | (with_reducible refine below_drewN ?_ _) | (refine Below.setCell ?_ (by simp <;> omega) _) | (refine Below.alloc ?_ (by simp <;> omega) _)) : Below w13.heap.size w13 _) (Nat.le_refl _)) (HS13_5_vR.out.later (by repeat (first | (with_reducible exact Below.refl _ _) | (with_reducible apply Below.drew) | (with_reducible refine below_drewN ?_ _) | (refine Below.setCell ?_ (by simp <;> omega) _) | (refine Below.alloc ?_ (by simp <;> omega) _)) : Below w13.heap.size w13 _) (Nat.le_refl _))).mono ?_; rintro e w14 ⟨a2_vR_14, c2_vR_14, a4_vR_14, c4_vR_14, a5_vR_14, c5_vR_14, rfl, ho14, hb14⟩; have hst14 : Below w13.heap.size w13 w14 := Below.trans (by repeat (first | (with_reducible exact Below.refl _ _) | (with_reducible apply Below.drew) | (with_reducible refine below_drewN ?_ _) | (refine Below.setCell ?_ (by simp <;> omega) _) | (refine Below.alloc ?_ (by simp <;> omega) _)) : Below w13.heap.size w13 _) (hb14.mono (Below.size (by repeat (first | (with_reducible exact Below.refl _ _) | (with_reducible apply Below.drew) | (with_reducible refine below_drewN ?_ _) | (refine Below.setCell ?_ (by simp <;> omega) _) | (refine Below.alloc ?_ (by simp <;> omega) _)) : Below w13.heap.size w13 _))); have sz14_paG : w.heap.size < w14.heap.size := Nat.lt_of_lt_of_le sz13_paG hst14.size; have bx14_paG_0 : w14.cell? ⟨w.heap.size, 0, none⟩ = some (.slice a0_vG vG.fSymbols.length c0_vG) := (hst14.cell (p := ⟨w.heap.size, 0, none⟩) sz13_paG).trans bx13_paG_0; have bx14_paG_1 : w14.cell? ⟨w.heap.size, 1, none⟩ = some (.slice a1_vG vG.fRules.length c1_vG) := (hst14.cell (p := ⟨w.heap.size, 1, none⟩) sz13_paG).trans bx13_paG_1; have sz14_paR : w.heap.size + 1 < w14.heap.size := Nat.lt_of_lt_of_le sz13_paR hst14.size; have bx14_paR_0 : w14.cell? ⟨w.heap.size + 1, 0, none⟩ = some (.string vR.fName) := (hst14.cell (p := ⟨w.heap.size + 1, 0, none⟩) sz13_paR).trans bx13_paR_0; have bx14_paR_1 : w14.cell? ⟨w.heap.size + 1, 1, none⟩ = some (.string vR.fLeft) := (hst14.cell (p := ⟨w.heap.size + 1, 1, none⟩) sz13_paR).trans bx13_paR_1; have bx14_paR_2 : w14.cell? ⟨w.heap.size + 1, 2, none⟩ = some (.slice a2_vR vR.fRight.length c2_vR) := (hst14.cell (p := ⟨w.heap.size + 1, 2, none⟩) sz13_paR).trans bx13_paR_2; have bx14_paR_3 : w14.cell? ⟨w.heap.size + 1, 3, none⟩ = some (.bool vR.fLiteral) := (hst14.cell (p := ⟨w.heap.size + 1, 3, none⟩) sz13_paR).trans bx13_paR_3; have bx14_paR_4 : w14.cell? ⟨w.heap.size + 1, 4, none⟩ = some (.slice a4_vR vR.fEquations.length c4_vR) := (hst14.cell (p := ⟨w.heap.size + 1, 4, none⟩) sz13_paR).trans bx13_paR_4; have bx14_paR_5 : w14.cell? ⟨w.heap.size + 1, 5, none⟩ = some (.slice a5_vR vR.fContributions.length c5_vR) := (hst14.cell (p := ⟨w.heap.size + 1, 5, none⟩) sz13_paR).trans bx13_paR_5; have sz14_paO : w.heap.size + 2 < w14.heap.size := Nat.lt_of_lt_of_le sz13_paO hst14.size; have bx14_paO_0 : w14.cell? ⟨w.heap.size + 2, 0, none⟩ = some (.int .i64 vO.fPos) := (hst14.cell (p := ⟨w.heap.size + 2, 0, none⟩) sz13_paO).trans bx13_paO_0; have bx14_paO_1 : w14.cell? ⟨w.heap.size + 2, 1, none⟩ = some (.string vO.fName) := (hst14.cell (p := ⟨w.heap.size + 2, 1, none⟩) sz13_paO).trans bx13_paO_1; have sz14_x0 : w8.heap.size < w14.heap.size := Nat.lt_of_lt_of_le sz13_x0 hst14.size; have bx14_x0_0 : w14.cell? ⟨w8.heap.size, 0, none⟩ = some (.slice a0_vG_8 vG.fSymbols.length c0_vG_8) := (hst14.cell (p := ⟨w8.heap.size, 0, none⟩) sz13_x0).trans bx13_x0_0; have bx14_x0_1 : w14.cell? ⟨w8.heap.size, 1, none⟩ = some (.slice a1_vG_8 vG.fRules.length c1_vG_8) := (hst14.cell (p := ⟨w8.heap.size, 1, none⟩) sz13_x0).trans bx13_x0_1; have sz14_x1 : w9.heap.size < w14.heap.size := Nat.lt_of_lt_of_le sz13_x1 hst14.size; have bx14_x1_0 : w14.cell? ⟨w9.heap.size, 0, none⟩ = some (.string vR.fName) := (hst14.cell (p := ⟨w9.heap.size, 0, none⟩) sz13_x1).trans bx13_x1_0; have bx14_x1_1 : w14.cell? ⟨w9.heap.size, 1, none⟩ = some (.string vR.fLeft) := (hst14.cell (p := ⟨w9.heap.size, 1, none⟩) sz13_x1).trans bx13_x1_1; have bx14_x1_2 : w14.cell? ⟨w9.heap.size, 2, none⟩ = some (.slice a2_vR_9 vR.fRight.length c2_vR_9) := (hst14.cell (p := ⟨w9.heap.size, 2, none⟩) sz13_x1).trans bx13_x1_2; have bx14_x1_3 : w14.cell? ⟨w9.heap.size, 3, none⟩ = some (.bool vR.fLiteral) := (hst14.cell (p := ⟨w9.heap.size, 3, none⟩) sz13_x1).trans bx13_x1_3; have bx14_x1_4 : w14.cell? ⟨w9.heap.size, 4, none⟩ = some (.slice a4_vR_9 vR.fEquations.length c4_vR_9) := (hst14.cell (p := ⟨w9.heap.size, 4, none⟩) sz13_x1).trans bx13_x1_4; have bx14_x1_5 : w14.cell? ⟨w9.heap.size, 5, none⟩ = some (.slice a5_vR_9 vR.fContributions.length c5_vR_9) := (hst14.cell (p := ⟨w9.heap.size, 5, none⟩) sz13_x1).trans bx13_x1_5; have HS14_0_vG := Lib.hid (HS13_0_vG.out.up hst14 (Nat.le_refl _)); have HS14_1_vG := Lib.hid (HS13_1_vG.out.up hst14 (Nat.le_refl _)); have HS14_2_vR := Lib.hid (HS13_2_vR.out.up hst14 (Nat.le_refl _)); have HS14_4_vR := Lib.hid (HS13_4_vR.out.up hst14 (Nat.le_refl _)); have HS14_5_vR := Lib.hid (HS13_5_vR.out.up hst14 (Nat.le_refl _)); have HS14_0_vG_8 := Lib.hid (HS13_0_vG_8.out.up hst14 (Nat.le_refl _)); have HS14_1_vG_8 := Lib.hid (HS13_1_vG_8.out.up hst14 (Nat.le_refl _)); have HS14_2_vR_9 := Lib.hid (HS13_2_vR_9.out.up hst14 (Nat.le_refl _)); have HS14_4_vR_9 := Lib.hid (HS13_4_vR_9.out.up hst14 (Nat.le_refl _)); have HS14_5_vR_9 := Lib.hid (HS13_5_vR_9.out.up hst14 (Nat.le_refl _)); have HS14_0_vG_12 := Lib.hid (HS13_0_vG_12.out.up hst14 (Nat.le_refl _)); have HS14_1_vG_12 := Lib.hid (HS13_1_vG_12.out.up hst14 (Nat.le_refl _)); have HS14_2_vR_14 := Lib.hid (show Sl 0 w14.heap.size w14 1 vR.fRight.length (fun k => ictS (vR.fRight.getD k default)) a2_vR_14 from Sl.of (cap := c2_vR_14) (l := vR.fRight.length) (a := a2_vR_14) (ho14.lies (lo := 0) (hi := w14.heap.size) (fun y hy => ⟨Nat.zero_le _, hy.2⟩) 2 (by decide))); have HS14_4_vR_14 := Lib.hid (show Sl 0 w14.heap.size w14 9 vR.fEquations.length (fun k => DEquation.ct (vR.fEquations.getD k default)) a4_vR_14 from Sl.of (cap := c4_vR_14) (l := vR.fEquations.length) (a := a4_vR_14) (ho14.lies (lo := 0) (hi := w14.heap.size) (fun y hy => ⟨Nat.zero_le _, hy.2⟩) 4 (by decide))); have HS14_5_vR_14 := Lib.hid (show Sl 0 w14.heap.size w14 16 vR.fContributions.length (fun k => DContribution.ct (vR.fContributions.getD k default)) a5_vR_14 from Sl.of (cap := c5_vR_14) (l := vR.fContributions.length) (a := a5_vR_14) (ho14.lies (lo := 0) (hi := w14.heap.size) (fun y hy => ⟨Nat.zero_le _, hy.2⟩) 5 (by decide))); have HB14 := Lib.hid (HB13.out.trans (hst14.mono HB13.out.size)); clear bx13_paG_0 bx13_paG_1 sz13_paG bx13_paR_0 bx13_paR_1 bx13_paR_2 bx13_paR_3 bx13_paR_4 bx13_paR_5 sz13_paR bx13_paO_0 bx13_paO_1 sz13_paO bx13_x0_0 bx13_x0_1 sz13_x0 bx13_x1_0 bx13_x1_1 bx13_x1_2 bx13_x1_3 bx13_x1_4 bx13_x1_5 sz13_x1 HS13_0_vG HS13_1_vG HS13_2_vR HS13_4_vR HS13_5_vR HS13_0_vG_8 HS13_1_vG_8 HS13_2_vR_9 HS13_4_vR_9 HS13_5_vR_9 HS13_0_vG_12 HS13_1_vG_12 ho14 hb14 hst14 HB13) | (go_at_call 13; refine (laws_eqRule (c2 := c2_vR_9) (c4 := c4_vR_9) (c5 := c5_vR_9) (c2q := c2_vR_14) (c4q := c4_vR_14) (c5q := c5_vR_14) vR hq_vR _ (Below.size (by repeat (first | (with_reducible exact Below.refl _ _) | (with_reducible apply Below.drew) | (with_reducible refine below_drewN ?_ _) | (refine Below.setCell ?_ (by simp <;> omega) _) | (refine Below.alloc ?_ (by simp <;> omega) _)) : Below w14.heap.size w14 _)) (Below.size (by repeat (first | (with_reducible exact Below.refl _ _) | (with_reducible apply Below.drew) | (with_reducible refine below_drewN ?_ _) | (refine Below.setCell ?_ (by simp <;> omega) _) | (refine Below.alloc ?_ (by simp <;> omega) _)) : Below w14.heap.size w14 _)) (HS14_2_vR_9.out.later (by repeat (first | (with_reducible exact Below.refl _ _) | (with_reducible apply Below.drew) | (with_reducible refine below_drewN ?_ _) | (refine Below.setCell ?_ (by simp <;> omega) _) | (refine Below.alloc ?_ (by simp <;> omega) _)) : Below w14.heap.size w14 _) (Nat.le_refl _)) (HS14_4_vR_9.out.later (by repeat (first | (with_reducible exact Below.refl _ _) | (with_reducible apply Below.drew) | (with_reducible refine below_drewN ?_ _) | (refine Below.setCell ?_ (by simp <;> omega) _) | (refine Below.alloc ?_ (by simp <;> omega) _)) : Below w14.heap.size w14 _) (Nat.le_refl _)) (HS14_5_vR_9.out.later (by repeat (first | (with_reducible exact Below.refl _ _) | (with_reducible apply Below.drew) | (with_reducible refine below_drewN ?_ _) | (refine Below.setCell ?_ (by simp <;> omega) _) | (refine Below.alloc ?_ (by simp <;> omega) _)) : Below w14.heap.size w14 _) (Nat.le_refl _)) (HS14_2_vR_14.out.later (by repeat (first | (with_reducible exact Below.refl _ _) | (with_reducible apply Below.drew) | (with_reducible refine below_drewN ?_ _) | (refine Below.setCell ?_ (by simp <;> omega) _) | (refine Below.alloc ?_ (by simp <;> omega) _)) : Below w14.heap.size w14 _) (Nat.le_refl _)) (HS14_4_vR_14.out.later (by repeat (first | (with_reducible exact Below.refl _ _) | (with_reducible apply Below.drew) | (with_reducible refine below_drewN ?_ _) | (refine Below.setCell ?_ (by simp <;> omega) _) | (refine Below.alloc ?_ (by simp <;> omega) _)) : Below w14.heap.size w14 _) (Nat.le_refl _)) (HS14_5_vR_14.out.later (by repeat (first | (with_reducible exact Below.refl _ _) | (with_reducible apply Below.drew) | (with_reducible refine below_drewN ?_ _) | (refine Below.setCell ?_ (by simp <;> omega) _) | (refine Below.alloc ?_ (by simp <;> omega) _)) : Below w14.heap.size w14 _) (Nat.le_refl _))).mono ?_; rintro e w15 ⟨rfl, hb15⟩; have hst15 : Below w14.heap.size w14 w15 := Below.trans (by repeat (first | (with_reducible exact Below.refl _ _) | (with_reducible apply Below.drew) | (with_reducible refine below_drewN ?_ _) | (refine Below.setCell ?_ (by simp <;> omega) _) | (refine Below.alloc ?_ (by simp <;> omega) _)) : Below w14.heap.size w14 _) (hb15.mono (Below.size (by repeat (first | (with_reducible exact Below.refl _ _) | (with_reducible apply Below.drew) | (with_reducible refine below_drewN ?_ _) | (refine Below.setCell ?_ (by simp <;> omega) _) | (refine Below.alloc ?_ (by simp <;> omega) _)) : Below w14.heap.size w14 _))); have sz15_paG : w.heap.size < w15.heap.size := Nat.lt_of_lt_of_le sz14_paG hst15.size; have bx15_paG_0 : w15.cell? ⟨w.heap.size, 0, none⟩ = some (.slice a0_vG vG.fSymbols.length c0_vG) := (hst15.cell (p := ⟨w.heap.size, 0, none⟩) sz14_paG).trans bx14_paG_0; have bx15_paG_1 : w15.cell? ⟨w.heap.size, 1, none⟩ = some (.slice a1_vG vG.fRules.length c1_vG) := (hst15.cell (p := ⟨w.heap.size, 1, none⟩) sz14_paG).trans bx14_paG_1; have sz15_paR : w.heap.size + 1 < w15.heap.size := Nat.lt_of_lt_of_le sz14_paR hst15.size; have bx15_paR_0 : w15.cell? ⟨w.heap.size + 1, 0, none⟩ = some (.string vR.fName) := (hst15.cell (p := ⟨w.heap.size + 1, 0, none⟩) sz14_paR).trans bx14_paR_0; have bx15_paR_1 : w15.cell? ⟨w.heap.size + 1, 1, none⟩ = some (.string vR.fLeft) := (hst15.cell (p := ⟨w.heap.size + 1, 1, none⟩) sz14_paR).trans bx14_paR_1; have bx15_paR_2 : w15.cell? ⟨w.heap.size + 1, 2, none⟩ = some (.slice a2_vR vR.fRight.length c2_vR) := (hst15.cell (p := ⟨w.heap.size + 1, 2, none⟩) sz14_paR).trans bx14_paR_2; have bx15_paR_3 : w15.cell? ⟨w.heap.size + 1, 3, none⟩ = some (.bool vR.fLiteral) := (hst15.cell (p := ⟨w.heap.size + 1, 3, none⟩) sz14_paR).trans bx14_paR_3; have bx15_paR_4 : w15.cell? ⟨w.heap.size + 1, 4, none⟩ = some (.slice a4_vR vR.fEquations.length c4_vR) := (hst15.cell (p := ⟨w.heap.size + 1, 4, none⟩) sz14_paR).trans bx14_paR_4; have bx15_paR_5 : w15.cell? ⟨w.heap.size + 1, 5, none⟩ = some (.slice a5_vR vR.fContributions.length c5_vR) := (hst15.cell (p := ⟨w.heap.size + 1, 5, none⟩) sz14_paR).trans bx14_paR_5; have sz15_paO : w.heap.size + 2 < w15.heap.size := Nat.lt_of_lt_of_le sz14_paO hst15.size; have bx15_paO_0 : w15.cell? ⟨w.heap.size + 2, 0, none⟩ = some (.int .i64 vO.fPos) := (hst15.cell (p := ⟨w.heap.size + 2, 0, none⟩) sz14_paO).trans bx14_paO_0; have bx15_paO_1 : w15.cell? ⟨w.heap.size + 2, 1, none⟩ = some (.string vO.fName) := (hst15.cell (p := ⟨w.heap.size + 2, 1, none⟩) sz14_paO).trans bx14_paO_1; have sz15_x0 : w8.heap.size < w15.heap.size := Nat.lt_of_lt_of_le sz14_x0 hst15.size; have bx15_x0_0 : w15.cell? ⟨w8.heap.size, 0, none⟩ = some (.slice a0_vG_8 vG.fSymbols.length c0_vG_8) := (hst15.cell (p := ⟨w8.heap.size, 0, none⟩) sz14_x0).trans bx14_x0_0; have bx15_x0_1 : w15.cell? ⟨w8.heap.size, 1, none⟩ = some (.slice a1_vG_8 vG.fRules.length c1_vG_8) := (hst15.cell (p := ⟨w8.heap.size, 1, none⟩) sz14_x0).trans bx14_x0_1; have sz15_x1 : w9.heap.size < w15.heap.size := Nat.lt_of_lt_of_le sz14_x1 hst15.size; have bx15_x1_0 : w15.cell? ⟨w9.heap.size, 0, none⟩ = some (.string vR.fName) := (hst15.cell (p := ⟨w9.heap.size, 0, none⟩) sz14_x1).trans bx14_x1_0; have bx15_x1_1 : w15.cell? ⟨w9.heap.size, 1, none⟩ = some (.string vR.fLeft) := (hst15.cell (p := ⟨w9.heap.size, 1, none⟩) sz14_x1).trans bx14_x1_1; have bx15_x1_2 : w15.cell? ⟨w9.heap.size, 2, none⟩ = some (.slice a2_vR_9 vR.fRight.length c2_vR_9) := (hst15.cell (p := ⟨w9.heap.size, 2, none⟩) sz14_x1).trans bx14_x1_2; have bx15_x1_3 : w15.cell? ⟨w9.heap.size, 3, none⟩ = some (.bool vR.fLiteral) := (hst15.cell (p := ⟨w9.heap.size, 3, none⟩) sz14_x1).trans bx14_x1_3; have bx15_x1_4 : w15.cell? ⟨w9.heap.size, 4, none⟩ = some (.slice a4_vR_9 vR.fEquations.length c4_vR_9) := (hst15.cell (p := ⟨w9.heap.size, 4, none⟩) sz14_x1).trans bx14_x1_4; have bx15_x1_5 : w15.cell? ⟨w9.heap.size, 5, none⟩ = some (.slice a5_vR_9 vR.fContributions.length c5_vR_9) := (hst15.cell (p := ⟨w9.heap.size, 5, none⟩) sz14_x1).trans bx14_x1_5; have HS15_0_vG := Lib.hid (HS14_0_vG.out.up hst15 (Nat.le_refl _)); have HS15_1_vG := Lib.hid (HS14_1_vG.out.up hst15 (Nat.le_refl _)); have HS15_2_vR := Lib.hid (HS14_2_vR.out.up hst15 (Nat.le_refl _)); have HS15_4_vR := Lib.hid (HS14_4_vR.out.up hst15 (Nat.le_refl _)); have HS15_5_vR := Lib.hid (HS14_5_vR.out.up hst15 (Nat.le_refl _)); have HS15_0_vG_8 := Lib.hid (HS14_0_vG_8.out.up hst15 (Nat.le_refl _)); have HS15_1_vG_8 := Lib.hid (HS14_1_vG_8.out.up hst15 (Nat.le_refl _)); have HS15_2_vR_9 := Lib.hid (HS14_2_vR_9.out.up hst15 (Nat.le_refl _)); have HS15_4_vR_9 := Lib.hid (HS14_4_vR_9.out.up hst15 (Nat.le_refl _)); have HS15_5_vR_9 := Lib.hid (HS14_5_vR_9.out.up hst15 (Nat.le_refl _)); have HS15_0_vG_12 := Lib.hid (HS14_0_vG_12.out.up hst15 (Nat.le_refl _)); have HS15_1_vG_12 := Lib.hid (HS14_1_vG_12.out.up hst15 (Nat.le_refl _)); have HS15_2_vR_14 := Lib.hid (HS14_2_vR_14.out.up hst15 (Nat.le_refl _)); have HS15_4_vR_14 := Lib.hid (HS14_4_vR_14.out.up hst15 (Nat.le_refl _)); have HS15_5_vR_14 := Lib.hid (HS14_5_vR_14.out.up hst15 (Nat.le_refl _)); have HB15 := Lib.hid (HB14.out.trans (hst15.mono HB14.out.size)); clear bx14_paG_0 bx14_paG_1 sz14_paG bx14_paR_0 bx14_paR_1 bx14_paR_2 bx14_paR_3 bx14_paR_4 bx14_paR_5 sz14_paR bx14_paO_0 bx14_paO_1 sz14_paO bx14_x0_0 bx14_x0_1 sz14_x0 bx14_x1_0 bx14_x1_1 bx14_x1_2 bx14_x1_3 bx14_x1_4 bx14_x1_5 sz14_x1 HS14_0_vG HS14_1_vG HS14_2_vR HS14_4_vR HS14_5_vR HS14_0_vG_8 HS14_1_vG_8 HS14_2_vR_9 HS14_4_vR_9 HS14_5_vR_9 HS14_0_vG_12 HS14_1_vG_12 HS14_2_vR_14 HS14_4_vR_14 HS14_5_vR_14 hb15 hst15 HB14)))
              all_goals
                go_wp2
                go_ret
                exact ⟨rfl, HB15.out⟩
end Go.Proofs.Ytbaibioifmbchab.fnExactMayUse
