/-
  The law FnExactAttributeOf: for every grammar, tree and instance the program's AttributeOf answers as the model's. No condition.
-/
import Derived.Test.YtnkhjkdocaobpaaAttrOf
import Derived.Test.YtnkhjkdocaobpaaFree
import Derived.Test.YtnkhjkdocaobpaaOwnAt
import Derived.Deep.CutRange
import Derived.SizedLaws
namespace Go.Proofs.Ytnkhjkdocaobpaa.fnExactAttributeOf
open Go.ChangeShapes Go.WideShapes Go.ChangeAt Go.RowKit Go.WideMaps Go.WideElems
open Go.ChangeMaps (open_string)
open Go.Lib Go.Deep

set_option maxHeartbeats 40000000 in
set_option maxRecDepth 100000 in
theorem walk (vG : DGrammar) (a0_vG : Option Addr) (c0_vG : Nat) (a1_vG : Option Addr) (c1_vG : Nat) (ok_vG : DGrammar.ok vG) (vT : DTree) (a0_vT : Option Addr) (c0_vT : Nat) (ok_vT : DTree.ok vT) (vX : DInstance) (ok_vX : DInstance.ok vX) (w : World) (hs_0_vG : Sl 0 w.heap.size w 2 vG.fSymbols.length (fun k => DSymbol.ct (vG.fSymbols.getD k default)) a0_vG) (hs_1_vG : Sl 0 w.heap.size w 6 vG.fRules.length (fun k => DRule.ct (vG.fRules.getD k default)) a1_vG) (hs_0_vT : Sl 0 w.heap.size w 6 vT.fNodes.length (fun k => DNode.ct (vT.fNodes.getD k default)) a0_vT) :
    Calls Try.prog 3 #[.agg #[.slice a0_vG vG.fSymbols.length c0_vG, .slice a1_vG vG.fRules.length c1_vG], .agg #[.slice a0_vT vT.fNodes.length c0_vT], .agg #[.int .i64 vX.fNode, .string vX.fName]] w fun e w' => e = .returned (.bool true) ∧ Below w.heap.size w w' := by
  have HS_0_vG := Lib.hid hs_0_vG
  clear hs_0_vG
  have HS_1_vG := Lib.hid hs_1_vG
  clear hs_1_vG
  have OK_vG := Lib.hid ok_vG
  clear ok_vG
  have HS_0_vT := Lib.hid hs_0_vT
  clear hs_0_vT
  have OK_vT := Lib.hid ok_vT
  clear ok_vT
  have OK_vX := Lib.hid ok_vX
  clear ok_vX
  by_cases h0 : 1048576 < ((DGrammar.sz vG : Nat) : Int)
  · skip
    have hz := fun (hi : Nat) (w' : World) (hhi : hi ≤ w'.heap.size) (hs_0_vG : Sl 0 hi w' 2 vG.fSymbols.length (fun k => DSymbol.ct (vG.fSymbols.getD k default)) a0_vG) (hs_1_vG : Sl 0 hi w' 6 vG.fRules.length (fun k => DRule.ct (vG.fRules.getD k default)) a1_vG) => laws_szGrammar (c0 := c0_vG) (c1 := c1_vG) vG 1048576 (by omega) (by omega) OK_vG.out w' hhi hs_0_vG hs_1_vG
    rw [szR_gt (by omega)] at hz
    have HZ_vG := Lib.hid hz
    clear hz
    go_enter Try.func3, Try.ntmps3
    go_wp2_with fail
    refine (HZ_vG.out w.heap.size _ (Below.size (by repeat (first | (with_reducible exact Below.refl _ _) | (with_reducible apply Below.drew) | (with_reducible refine below_drewN ?_ _) | (refine Below.setCell ?_ (by simp <;> omega) _) | (refine Below.alloc ?_ (by simp <;> omega) _)) : Below w.heap.size w _)) (HS_0_vG.out.later (by repeat (first | (with_reducible exact Below.refl _ _) | (with_reducible apply Below.drew) | (with_reducible refine below_drewN ?_ _) | (refine Below.setCell ?_ (by simp <;> omega) _) | (refine Below.alloc ?_ (by simp <;> omega) _)) : Below w.heap.size w _) (Nat.le_refl _)) (HS_1_vG.out.later (by repeat (first | (with_reducible exact Below.refl _ _) | (with_reducible apply Below.drew) | (with_reducible refine below_drewN ?_ _) | (refine Below.setCell ?_ (by simp <;> omega) _) | (refine Below.alloc ?_ (by simp <;> omega) _)) : Below w.heap.size w _) (Nat.le_refl _))).mono ?_
    rintro e w1 ⟨rfl, hb1⟩
    have hst1 : Below w.heap.size w w1 := Below.trans (by repeat (first | (with_reducible exact Below.refl _ _) | (with_reducible apply Below.drew) | (with_reducible refine below_drewN ?_ _) | (refine Below.setCell ?_ (by simp <;> omega) _) | (refine Below.alloc ?_ (by simp <;> omega) _)) : Below w.heap.size w _) (hb1.mono (Below.size (by repeat (first | (with_reducible exact Below.refl _ _) | (with_reducible apply Below.drew) | (with_reducible refine below_drewN ?_ _) | (refine Below.setCell ?_ (by simp <;> omega) _) | (refine Below.alloc ?_ (by simp <;> omega) _)) : Below w.heap.size w _)))
    have sz1_paG : w.heap.size < w1.heap.size := Nat.lt_of_lt_of_le (by first | omega | (simp; done) | (simp; omega) | (simp [World.setCell]; omega)) hb1.size
    have bx1_paG_0 : w1.cell? ⟨w.heap.size, 0, none⟩ = some (.slice a0_vG vG.fSymbols.length c0_vG) := (hb1.cell (p := ⟨w.heap.size, 0, none⟩) (by first | omega | (simp; done) | (simp; omega) | (simp [World.setCell]; omega))).trans (by go_simp)
    have bx1_paG_1 : w1.cell? ⟨w.heap.size, 1, none⟩ = some (.slice a1_vG vG.fRules.length c1_vG) := (hb1.cell (p := ⟨w.heap.size, 1, none⟩) (by first | omega | (simp; done) | (simp; omega) | (simp [World.setCell]; omega))).trans (by go_simp)
    have sz1_paT : w.heap.size + 1 < w1.heap.size := Nat.lt_of_lt_of_le (by first | omega | (simp; done) | (simp; omega) | (simp [World.setCell]; omega)) hb1.size
    have bx1_paT_0 : w1.cell? ⟨w.heap.size + 1, 0, none⟩ = some (.slice a0_vT vT.fNodes.length c0_vT) := (hb1.cell (p := ⟨w.heap.size + 1, 0, none⟩) (by first | omega | (simp; done) | (simp; omega) | (simp [World.setCell]; omega))).trans (by go_simp)
    have sz1_paX : w.heap.size + 2 < w1.heap.size := Nat.lt_of_lt_of_le (by first | omega | (simp; done) | (simp; omega) | (simp [World.setCell]; omega)) hb1.size
    have bx1_paX_0 : w1.cell? ⟨w.heap.size + 2, 0, none⟩ = some (.int .i64 vX.fNode) := (hb1.cell (p := ⟨w.heap.size + 2, 0, none⟩) (by first | omega | (simp; done) | (simp; omega) | (simp [World.setCell]; omega))).trans (by go_simp)
    have bx1_paX_1 : w1.cell? ⟨w.heap.size + 2, 1, none⟩ = some (.string vX.fName) := (hb1.cell (p := ⟨w.heap.size + 2, 1, none⟩) (by first | omega | (simp; done) | (simp; omega) | (simp [World.setCell]; omega))).trans (by go_simp)
    have HS1_0_vG := Lib.hid (HS_0_vG.out.up hst1 (Nat.le_refl _))
    have HS1_1_vG := Lib.hid (HS_1_vG.out.up hst1 (Nat.le_refl _))
    have HS1_0_vT := Lib.hid (HS_0_vT.out.up hst1 (Nat.le_refl _))
    have HB1 := Lib.hid ((Below.refl w.heap.size w).trans (hst1.mono (Below.refl w.heap.size w).size))
    clear hb1 hst1
    go_wp2
    go_ret
    exact ⟨rfl, HB1.out⟩
  · skip
    by_cases h1 : (1048576 - (DGrammar.sz vG : Nat)) < ((DTree.sz vT : Nat) : Int)
    · skip
      have hz := fun (hi : Nat) (w' : World) (hhi : hi ≤ w'.heap.size) (hs_0_vG : Sl 0 hi w' 2 vG.fSymbols.length (fun k => DSymbol.ct (vG.fSymbols.getD k default)) a0_vG) (hs_1_vG : Sl 0 hi w' 6 vG.fRules.length (fun k => DRule.ct (vG.fRules.getD k default)) a1_vG) => laws_szGrammar (c0 := c0_vG) (c1 := c1_vG) vG 1048576 (by omega) (by omega) OK_vG.out w' hhi hs_0_vG hs_1_vG
      rw [szR_le (by omega)] at hz
      have HZ_vG := Lib.hid hz
      clear hz
      have hz := fun (hi : Nat) (w' : World) (hhi : hi ≤ w'.heap.size) (hs_0_vT : Sl 0 hi w' 6 vT.fNodes.length (fun k => DNode.ct (vT.fNodes.getD k default)) a0_vT) => laws_szTree (c0 := c0_vT) vT (1048576 - (DGrammar.sz vG : Nat)) (by omega) (by omega) OK_vT.out w' hhi hs_0_vT
      rw [szR_gt (by omega)] at hz
      have HZ_vT := Lib.hid hz
      clear hz
      go_enter Try.func3, Try.ntmps3
      go_wp2_with fail
      refine (HZ_vG.out w.heap.size _ (Below.size (by repeat (first | (with_reducible exact Below.refl _ _) | (with_reducible apply Below.drew) | (with_reducible refine below_drewN ?_ _) | (refine Below.setCell ?_ (by simp <;> omega) _) | (refine Below.alloc ?_ (by simp <;> omega) _)) : Below w.heap.size w _)) (HS_0_vG.out.later (by repeat (first | (with_reducible exact Below.refl _ _) | (with_reducible apply Below.drew) | (with_reducible refine below_drewN ?_ _) | (refine Below.setCell ?_ (by simp <;> omega) _) | (refine Below.alloc ?_ (by simp <;> omega) _)) : Below w.heap.size w _) (Nat.le_refl _)) (HS_1_vG.out.later (by repeat (first | (with_reducible exact Below.refl _ _) | (with_reducible apply Below.drew) | (with_reducible refine below_drewN ?_ _) | (refine Below.setCell ?_ (by simp <;> omega) _) | (refine Below.alloc ?_ (by simp <;> omega) _)) : Below w.heap.size w _) (Nat.le_refl _))).mono ?_
      rintro e w1 ⟨rfl, hb1⟩
      have hst1 : Below w.heap.size w w1 := Below.trans (by repeat (first | (with_reducible exact Below.refl _ _) | (with_reducible apply Below.drew) | (with_reducible refine below_drewN ?_ _) | (refine Below.setCell ?_ (by simp <;> omega) _) | (refine Below.alloc ?_ (by simp <;> omega) _)) : Below w.heap.size w _) (hb1.mono (Below.size (by repeat (first | (with_reducible exact Below.refl _ _) | (with_reducible apply Below.drew) | (with_reducible refine below_drewN ?_ _) | (refine Below.setCell ?_ (by simp <;> omega) _) | (refine Below.alloc ?_ (by simp <;> omega) _)) : Below w.heap.size w _)))
      have sz1_paG : w.heap.size < w1.heap.size := Nat.lt_of_lt_of_le (by first | omega | (simp; done) | (simp; omega) | (simp [World.setCell]; omega)) hb1.size
      have bx1_paG_0 : w1.cell? ⟨w.heap.size, 0, none⟩ = some (.slice a0_vG vG.fSymbols.length c0_vG) := (hb1.cell (p := ⟨w.heap.size, 0, none⟩) (by first | omega | (simp; done) | (simp; omega) | (simp [World.setCell]; omega))).trans (by go_simp)
      have bx1_paG_1 : w1.cell? ⟨w.heap.size, 1, none⟩ = some (.slice a1_vG vG.fRules.length c1_vG) := (hb1.cell (p := ⟨w.heap.size, 1, none⟩) (by first | omega | (simp; done) | (simp; omega) | (simp [World.setCell]; omega))).trans (by go_simp)
      have sz1_paT : w.heap.size + 1 < w1.heap.size := Nat.lt_of_lt_of_le (by first | omega | (simp; done) | (simp; omega) | (simp [World.setCell]; omega)) hb1.size
      have bx1_paT_0 : w1.cell? ⟨w.heap.size + 1, 0, none⟩ = some (.slice a0_vT vT.fNodes.length c0_vT) := (hb1.cell (p := ⟨w.heap.size + 1, 0, none⟩) (by first | omega | (simp; done) | (simp; omega) | (simp [World.setCell]; omega))).trans (by go_simp)
      have sz1_paX : w.heap.size + 2 < w1.heap.size := Nat.lt_of_lt_of_le (by first | omega | (simp; done) | (simp; omega) | (simp [World.setCell]; omega)) hb1.size
      have bx1_paX_0 : w1.cell? ⟨w.heap.size + 2, 0, none⟩ = some (.int .i64 vX.fNode) := (hb1.cell (p := ⟨w.heap.size + 2, 0, none⟩) (by first | omega | (simp; done) | (simp; omega) | (simp [World.setCell]; omega))).trans (by go_simp)
      have bx1_paX_1 : w1.cell? ⟨w.heap.size + 2, 1, none⟩ = some (.string vX.fName) := (hb1.cell (p := ⟨w.heap.size + 2, 1, none⟩) (by first | omega | (simp; done) | (simp; omega) | (simp [World.setCell]; omega))).trans (by go_simp)
      have HS1_0_vG := Lib.hid (HS_0_vG.out.up hst1 (Nat.le_refl _))
      have HS1_1_vG := Lib.hid (HS_1_vG.out.up hst1 (Nat.le_refl _))
      have HS1_0_vT := Lib.hid (HS_0_vT.out.up hst1 (Nat.le_refl _))
      have HB1 := Lib.hid ((Below.refl w.heap.size w).trans (hst1.mono (Below.refl w.heap.size w).size))
      clear hb1 hst1
      go_wp2_with fail
      refine (HZ_vT.out w1.heap.size _ (Below.size (by repeat (first | (with_reducible exact Below.refl _ _) | (with_reducible apply Below.drew) | (with_reducible refine below_drewN ?_ _) | (refine Below.setCell ?_ (by simp <;> omega) _) | (refine Below.alloc ?_ (by simp <;> omega) _)) : Below w1.heap.size w1 _)) (HS1_0_vT.out.later (by repeat (first | (with_reducible exact Below.refl _ _) | (with_reducible apply Below.drew) | (with_reducible refine below_drewN ?_ _) | (refine Below.setCell ?_ (by simp <;> omega) _) | (refine Below.alloc ?_ (by simp <;> omega) _)) : Below w1.heap.size w1 _) (Nat.le_refl _))).mono ?_
      rintro e w2 ⟨rfl, hb2⟩
      have hst2 : Below w1.heap.size w1 w2 := Below.trans (by repeat (first | (with_reducible exact Below.refl _ _) | (with_reducible apply Below.drew) | (with_reducible refine below_drewN ?_ _) | (refine Below.setCell ?_ (by simp <;> omega) _) | (refine Below.alloc ?_ (by simp <;> omega) _)) : Below w1.heap.size w1 _) (hb2.mono (Below.size (by repeat (first | (with_reducible exact Below.refl _ _) | (with_reducible apply Below.drew) | (with_reducible refine below_drewN ?_ _) | (refine Below.setCell ?_ (by simp <;> omega) _) | (refine Below.alloc ?_ (by simp <;> omega) _)) : Below w1.heap.size w1 _)))
      have sz2_paG : w.heap.size < w2.heap.size := Nat.lt_of_lt_of_le sz1_paG hst2.size
      have bx2_paG_0 : w2.cell? ⟨w.heap.size, 0, none⟩ = some (.slice a0_vG vG.fSymbols.length c0_vG) := (hst2.cell (p := ⟨w.heap.size, 0, none⟩) sz1_paG).trans bx1_paG_0
      have bx2_paG_1 : w2.cell? ⟨w.heap.size, 1, none⟩ = some (.slice a1_vG vG.fRules.length c1_vG) := (hst2.cell (p := ⟨w.heap.size, 1, none⟩) sz1_paG).trans bx1_paG_1
      have sz2_paT : w.heap.size + 1 < w2.heap.size := Nat.lt_of_lt_of_le sz1_paT hst2.size
      have bx2_paT_0 : w2.cell? ⟨w.heap.size + 1, 0, none⟩ = some (.slice a0_vT vT.fNodes.length c0_vT) := (hst2.cell (p := ⟨w.heap.size + 1, 0, none⟩) sz1_paT).trans bx1_paT_0
      have sz2_paX : w.heap.size + 2 < w2.heap.size := Nat.lt_of_lt_of_le sz1_paX hst2.size
      have bx2_paX_0 : w2.cell? ⟨w.heap.size + 2, 0, none⟩ = some (.int .i64 vX.fNode) := (hst2.cell (p := ⟨w.heap.size + 2, 0, none⟩) sz1_paX).trans bx1_paX_0
      have bx2_paX_1 : w2.cell? ⟨w.heap.size + 2, 1, none⟩ = some (.string vX.fName) := (hst2.cell (p := ⟨w.heap.size + 2, 1, none⟩) sz1_paX).trans bx1_paX_1
      have HS2_0_vG := Lib.hid (HS1_0_vG.out.up hst2 (Nat.le_refl _))
      have HS2_1_vG := Lib.hid (HS1_1_vG.out.up hst2 (Nat.le_refl _))
      have HS2_0_vT := Lib.hid (HS1_0_vT.out.up hst2 (Nat.le_refl _))
      have HB2 := Lib.hid (HB1.out.trans (hst2.mono HB1.out.size))
      clear bx1_paG_0 bx1_paG_1 sz1_paG bx1_paT_0 sz1_paT bx1_paX_0 bx1_paX_1 sz1_paX HS1_0_vG HS1_1_vG HS1_0_vT hb2 hst2 HB1
      go_wp2
      go_ret
      exact ⟨rfl, HB2.out⟩
    · skip
      by_cases h2 : ((1048576 - (DGrammar.sz vG : Nat)) - (DTree.sz vT : Nat)) < ((DInstance.sz vX : Nat) : Int)
      · skip
        have hz := fun (hi : Nat) (w' : World) (hhi : hi ≤ w'.heap.size) (hs_0_vG : Sl 0 hi w' 2 vG.fSymbols.length (fun k => DSymbol.ct (vG.fSymbols.getD k default)) a0_vG) (hs_1_vG : Sl 0 hi w' 6 vG.fRules.length (fun k => DRule.ct (vG.fRules.getD k default)) a1_vG) => laws_szGrammar (c0 := c0_vG) (c1 := c1_vG) vG 1048576 (by omega) (by omega) OK_vG.out w' hhi hs_0_vG hs_1_vG
        rw [szR_le (by omega)] at hz
        have HZ_vG := Lib.hid hz
        clear hz
        have hz := fun (hi : Nat) (w' : World) (hhi : hi ≤ w'.heap.size) (hs_0_vT : Sl 0 hi w' 6 vT.fNodes.length (fun k => DNode.ct (vT.fNodes.getD k default)) a0_vT) => laws_szTree (c0 := c0_vT) vT (1048576 - (DGrammar.sz vG : Nat)) (by omega) (by omega) OK_vT.out w' hhi hs_0_vT
        rw [szR_le (by omega)] at hz
        have HZ_vT := Lib.hid hz
        clear hz
        have hz := fun (hi : Nat) (w' : World) => laws_szInstance vX ((1048576 - (DGrammar.sz vG : Nat)) - (DTree.sz vT : Nat)) (by omega) (by omega) OK_vX.out w'
        rw [szR_gt (by omega)] at hz
        have HZ_vX := Lib.hid hz
        clear hz
        go_enter Try.func3, Try.ntmps3
        go_wp2_with fail
        refine (HZ_vG.out w.heap.size _ (Below.size (by repeat (first | (with_reducible exact Below.refl _ _) | (with_reducible apply Below.drew) | (with_reducible refine below_drewN ?_ _) | (refine Below.setCell ?_ (by simp <;> omega) _) | (refine Below.alloc ?_ (by simp <;> omega) _)) : Below w.heap.size w _)) (HS_0_vG.out.later (by repeat (first | (with_reducible exact Below.refl _ _) | (with_reducible apply Below.drew) | (with_reducible refine below_drewN ?_ _) | (refine Below.setCell ?_ (by simp <;> omega) _) | (refine Below.alloc ?_ (by simp <;> omega) _)) : Below w.heap.size w _) (Nat.le_refl _)) (HS_1_vG.out.later (by repeat (first | (with_reducible exact Below.refl _ _) | (with_reducible apply Below.drew) | (with_reducible refine below_drewN ?_ _) | (refine Below.setCell ?_ (by simp <;> omega) _) | (refine Below.alloc ?_ (by simp <;> omega) _)) : Below w.heap.size w _) (Nat.le_refl _))).mono ?_
        rintro e w1 ⟨rfl, hb1⟩
        have hst1 : Below w.heap.size w w1 := Below.trans (by repeat (first | (with_reducible exact Below.refl _ _) | (with_reducible apply Below.drew) | (with_reducible refine below_drewN ?_ _) | (refine Below.setCell ?_ (by simp <;> omega) _) | (refine Below.alloc ?_ (by simp <;> omega) _)) : Below w.heap.size w _) (hb1.mono (Below.size (by repeat (first | (with_reducible exact Below.refl _ _) | (with_reducible apply Below.drew) | (with_reducible refine below_drewN ?_ _) | (refine Below.setCell ?_ (by simp <;> omega) _) | (refine Below.alloc ?_ (by simp <;> omega) _)) : Below w.heap.size w _)))
        have sz1_paG : w.heap.size < w1.heap.size := Nat.lt_of_lt_of_le (by first | omega | (simp; done) | (simp; omega) | (simp [World.setCell]; omega)) hb1.size
        have bx1_paG_0 : w1.cell? ⟨w.heap.size, 0, none⟩ = some (.slice a0_vG vG.fSymbols.length c0_vG) := (hb1.cell (p := ⟨w.heap.size, 0, none⟩) (by first | omega | (simp; done) | (simp; omega) | (simp [World.setCell]; omega))).trans (by go_simp)
        have bx1_paG_1 : w1.cell? ⟨w.heap.size, 1, none⟩ = some (.slice a1_vG vG.fRules.length c1_vG) := (hb1.cell (p := ⟨w.heap.size, 1, none⟩) (by first | omega | (simp; done) | (simp; omega) | (simp [World.setCell]; omega))).trans (by go_simp)
        have sz1_paT : w.heap.size + 1 < w1.heap.size := Nat.lt_of_lt_of_le (by first | omega | (simp; done) | (simp; omega) | (simp [World.setCell]; omega)) hb1.size
        have bx1_paT_0 : w1.cell? ⟨w.heap.size + 1, 0, none⟩ = some (.slice a0_vT vT.fNodes.length c0_vT) := (hb1.cell (p := ⟨w.heap.size + 1, 0, none⟩) (by first | omega | (simp; done) | (simp; omega) | (simp [World.setCell]; omega))).trans (by go_simp)
        have sz1_paX : w.heap.size + 2 < w1.heap.size := Nat.lt_of_lt_of_le (by first | omega | (simp; done) | (simp; omega) | (simp [World.setCell]; omega)) hb1.size
        have bx1_paX_0 : w1.cell? ⟨w.heap.size + 2, 0, none⟩ = some (.int .i64 vX.fNode) := (hb1.cell (p := ⟨w.heap.size + 2, 0, none⟩) (by first | omega | (simp; done) | (simp; omega) | (simp [World.setCell]; omega))).trans (by go_simp)
        have bx1_paX_1 : w1.cell? ⟨w.heap.size + 2, 1, none⟩ = some (.string vX.fName) := (hb1.cell (p := ⟨w.heap.size + 2, 1, none⟩) (by first | omega | (simp; done) | (simp; omega) | (simp [World.setCell]; omega))).trans (by go_simp)
        have HS1_0_vG := Lib.hid (HS_0_vG.out.up hst1 (Nat.le_refl _))
        have HS1_1_vG := Lib.hid (HS_1_vG.out.up hst1 (Nat.le_refl _))
        have HS1_0_vT := Lib.hid (HS_0_vT.out.up hst1 (Nat.le_refl _))
        have HB1 := Lib.hid ((Below.refl w.heap.size w).trans (hst1.mono (Below.refl w.heap.size w).size))
        clear hb1 hst1
        go_wp2_with fail
        refine (HZ_vT.out w1.heap.size _ (Below.size (by repeat (first | (with_reducible exact Below.refl _ _) | (with_reducible apply Below.drew) | (with_reducible refine below_drewN ?_ _) | (refine Below.setCell ?_ (by simp <;> omega) _) | (refine Below.alloc ?_ (by simp <;> omega) _)) : Below w1.heap.size w1 _)) (HS1_0_vT.out.later (by repeat (first | (with_reducible exact Below.refl _ _) | (with_reducible apply Below.drew) | (with_reducible refine below_drewN ?_ _) | (refine Below.setCell ?_ (by simp <;> omega) _) | (refine Below.alloc ?_ (by simp <;> omega) _)) : Below w1.heap.size w1 _) (Nat.le_refl _))).mono ?_
        rintro e w2 ⟨rfl, hb2⟩
        have hst2 : Below w1.heap.size w1 w2 := Below.trans (by repeat (first | (with_reducible exact Below.refl _ _) | (with_reducible apply Below.drew) | (with_reducible refine below_drewN ?_ _) | (refine Below.setCell ?_ (by simp <;> omega) _) | (refine Below.alloc ?_ (by simp <;> omega) _)) : Below w1.heap.size w1 _) (hb2.mono (Below.size (by repeat (first | (with_reducible exact Below.refl _ _) | (with_reducible apply Below.drew) | (with_reducible refine below_drewN ?_ _) | (refine Below.setCell ?_ (by simp <;> omega) _) | (refine Below.alloc ?_ (by simp <;> omega) _)) : Below w1.heap.size w1 _)))
        have sz2_paG : w.heap.size < w2.heap.size := Nat.lt_of_lt_of_le sz1_paG hst2.size
        have bx2_paG_0 : w2.cell? ⟨w.heap.size, 0, none⟩ = some (.slice a0_vG vG.fSymbols.length c0_vG) := (hst2.cell (p := ⟨w.heap.size, 0, none⟩) sz1_paG).trans bx1_paG_0
        have bx2_paG_1 : w2.cell? ⟨w.heap.size, 1, none⟩ = some (.slice a1_vG vG.fRules.length c1_vG) := (hst2.cell (p := ⟨w.heap.size, 1, none⟩) sz1_paG).trans bx1_paG_1
        have sz2_paT : w.heap.size + 1 < w2.heap.size := Nat.lt_of_lt_of_le sz1_paT hst2.size
        have bx2_paT_0 : w2.cell? ⟨w.heap.size + 1, 0, none⟩ = some (.slice a0_vT vT.fNodes.length c0_vT) := (hst2.cell (p := ⟨w.heap.size + 1, 0, none⟩) sz1_paT).trans bx1_paT_0
        have sz2_paX : w.heap.size + 2 < w2.heap.size := Nat.lt_of_lt_of_le sz1_paX hst2.size
        have bx2_paX_0 : w2.cell? ⟨w.heap.size + 2, 0, none⟩ = some (.int .i64 vX.fNode) := (hst2.cell (p := ⟨w.heap.size + 2, 0, none⟩) sz1_paX).trans bx1_paX_0
        have bx2_paX_1 : w2.cell? ⟨w.heap.size + 2, 1, none⟩ = some (.string vX.fName) := (hst2.cell (p := ⟨w.heap.size + 2, 1, none⟩) sz1_paX).trans bx1_paX_1
        have HS2_0_vG := Lib.hid (HS1_0_vG.out.up hst2 (Nat.le_refl _))
        have HS2_1_vG := Lib.hid (HS1_1_vG.out.up hst2 (Nat.le_refl _))
        have HS2_0_vT := Lib.hid (HS1_0_vT.out.up hst2 (Nat.le_refl _))
        have HB2 := Lib.hid (HB1.out.trans (hst2.mono HB1.out.size))
        clear bx1_paG_0 bx1_paG_1 sz1_paG bx1_paT_0 sz1_paT bx1_paX_0 bx1_paX_1 sz1_paX HS1_0_vG HS1_1_vG HS1_0_vT hb2 hst2 HB1
        go_wp2_with fail
        refine (HZ_vX.out 0 _).mono ?_
        rintro e w3 ⟨rfl, hb3⟩
        have hst3 : Below w2.heap.size w2 w3 := Below.trans (by repeat (first | (with_reducible exact Below.refl _ _) | (with_reducible apply Below.drew) | (with_reducible refine below_drewN ?_ _) | (refine Below.setCell ?_ (by simp <;> omega) _) | (refine Below.alloc ?_ (by simp <;> omega) _)) : Below w2.heap.size w2 _) (hb3.mono (Below.size (by repeat (first | (with_reducible exact Below.refl _ _) | (with_reducible apply Below.drew) | (with_reducible refine below_drewN ?_ _) | (refine Below.setCell ?_ (by simp <;> omega) _) | (refine Below.alloc ?_ (by simp <;> omega) _)) : Below w2.heap.size w2 _)))
        have sz3_paG : w.heap.size < w3.heap.size := Nat.lt_of_lt_of_le sz2_paG hst3.size
        have bx3_paG_0 : w3.cell? ⟨w.heap.size, 0, none⟩ = some (.slice a0_vG vG.fSymbols.length c0_vG) := (hst3.cell (p := ⟨w.heap.size, 0, none⟩) sz2_paG).trans bx2_paG_0
        have bx3_paG_1 : w3.cell? ⟨w.heap.size, 1, none⟩ = some (.slice a1_vG vG.fRules.length c1_vG) := (hst3.cell (p := ⟨w.heap.size, 1, none⟩) sz2_paG).trans bx2_paG_1
        have sz3_paT : w.heap.size + 1 < w3.heap.size := Nat.lt_of_lt_of_le sz2_paT hst3.size
        have bx3_paT_0 : w3.cell? ⟨w.heap.size + 1, 0, none⟩ = some (.slice a0_vT vT.fNodes.length c0_vT) := (hst3.cell (p := ⟨w.heap.size + 1, 0, none⟩) sz2_paT).trans bx2_paT_0
        have sz3_paX : w.heap.size + 2 < w3.heap.size := Nat.lt_of_lt_of_le sz2_paX hst3.size
        have bx3_paX_0 : w3.cell? ⟨w.heap.size + 2, 0, none⟩ = some (.int .i64 vX.fNode) := (hst3.cell (p := ⟨w.heap.size + 2, 0, none⟩) sz2_paX).trans bx2_paX_0
        have bx3_paX_1 : w3.cell? ⟨w.heap.size + 2, 1, none⟩ = some (.string vX.fName) := (hst3.cell (p := ⟨w.heap.size + 2, 1, none⟩) sz2_paX).trans bx2_paX_1
        have HS3_0_vG := Lib.hid (HS2_0_vG.out.up hst3 (Nat.le_refl _))
        have HS3_1_vG := Lib.hid (HS2_1_vG.out.up hst3 (Nat.le_refl _))
        have HS3_0_vT := Lib.hid (HS2_0_vT.out.up hst3 (Nat.le_refl _))
        have HB3 := Lib.hid (HB2.out.trans (hst3.mono HB2.out.size))
        clear bx2_paG_0 bx2_paG_1 sz2_paG bx2_paT_0 sz2_paT bx2_paX_0 bx2_paX_1 sz2_paX HS2_0_vG HS2_1_vG HS2_0_vT hb3 hst3 HB2
        go_wp2
        go_ret
        exact ⟨rfl, HB3.out⟩
      · skip
        have hz := fun (hi : Nat) (w' : World) (hhi : hi ≤ w'.heap.size) (hs_0_vG : Sl 0 hi w' 2 vG.fSymbols.length (fun k => DSymbol.ct (vG.fSymbols.getD k default)) a0_vG) (hs_1_vG : Sl 0 hi w' 6 vG.fRules.length (fun k => DRule.ct (vG.fRules.getD k default)) a1_vG) => laws_szGrammar (c0 := c0_vG) (c1 := c1_vG) vG 1048576 (by omega) (by omega) OK_vG.out w' hhi hs_0_vG hs_1_vG
        rw [szR_le (by omega)] at hz
        have HZ_vG := Lib.hid hz
        clear hz
        have hz := fun (hi : Nat) (w' : World) (hhi : hi ≤ w'.heap.size) (hs_0_vT : Sl 0 hi w' 6 vT.fNodes.length (fun k => DNode.ct (vT.fNodes.getD k default)) a0_vT) => laws_szTree (c0 := c0_vT) vT (1048576 - (DGrammar.sz vG : Nat)) (by omega) (by omega) OK_vT.out w' hhi hs_0_vT
        rw [szR_le (by omega)] at hz
        have HZ_vT := Lib.hid hz
        clear hz
        have hz := fun (hi : Nat) (w' : World) => laws_szInstance vX ((1048576 - (DGrammar.sz vG : Nat)) - (DTree.sz vT : Nat)) (by omega) (by omega) OK_vX.out w'
        rw [szR_le (by omega)] at hz
        have HZ_vX := Lib.hid hz
        clear hz
        have hq_vG : DGrammar.sz vG ≤ 1048576 := by omega
        have hq_vT : DTree.sz vT ≤ 1048576 := by omega
        have hq_vX : DInstance.sz vX ≤ 1048576 := by omega
        go_enter Try.func3, Try.ntmps3
        go_wp2_with fail
        refine (HZ_vG.out w.heap.size _ (Below.size (by repeat (first | (with_reducible exact Below.refl _ _) | (with_reducible apply Below.drew) | (with_reducible refine below_drewN ?_ _) | (refine Below.setCell ?_ (by simp <;> omega) _) | (refine Below.alloc ?_ (by simp <;> omega) _)) : Below w.heap.size w _)) (HS_0_vG.out.later (by repeat (first | (with_reducible exact Below.refl _ _) | (with_reducible apply Below.drew) | (with_reducible refine below_drewN ?_ _) | (refine Below.setCell ?_ (by simp <;> omega) _) | (refine Below.alloc ?_ (by simp <;> omega) _)) : Below w.heap.size w _) (Nat.le_refl _)) (HS_1_vG.out.later (by repeat (first | (with_reducible exact Below.refl _ _) | (with_reducible apply Below.drew) | (with_reducible refine below_drewN ?_ _) | (refine Below.setCell ?_ (by simp <;> omega) _) | (refine Below.alloc ?_ (by simp <;> omega) _)) : Below w.heap.size w _) (Nat.le_refl _))).mono ?_
        rintro e w1 ⟨rfl, hb1⟩
        have hst1 : Below w.heap.size w w1 := Below.trans (by repeat (first | (with_reducible exact Below.refl _ _) | (with_reducible apply Below.drew) | (with_reducible refine below_drewN ?_ _) | (refine Below.setCell ?_ (by simp <;> omega) _) | (refine Below.alloc ?_ (by simp <;> omega) _)) : Below w.heap.size w _) (hb1.mono (Below.size (by repeat (first | (with_reducible exact Below.refl _ _) | (with_reducible apply Below.drew) | (with_reducible refine below_drewN ?_ _) | (refine Below.setCell ?_ (by simp <;> omega) _) | (refine Below.alloc ?_ (by simp <;> omega) _)) : Below w.heap.size w _)))
        have sz1_paG : w.heap.size < w1.heap.size := Nat.lt_of_lt_of_le (by first | omega | (simp; done) | (simp; omega) | (simp [World.setCell]; omega)) hb1.size
        have bx1_paG_0 : w1.cell? ⟨w.heap.size, 0, none⟩ = some (.slice a0_vG vG.fSymbols.length c0_vG) := (hb1.cell (p := ⟨w.heap.size, 0, none⟩) (by first | omega | (simp; done) | (simp; omega) | (simp [World.setCell]; omega))).trans (by go_simp)
        have bx1_paG_1 : w1.cell? ⟨w.heap.size, 1, none⟩ = some (.slice a1_vG vG.fRules.length c1_vG) := (hb1.cell (p := ⟨w.heap.size, 1, none⟩) (by first | omega | (simp; done) | (simp; omega) | (simp [World.setCell]; omega))).trans (by go_simp)
        have sz1_paT : w.heap.size + 1 < w1.heap.size := Nat.lt_of_lt_of_le (by first | omega | (simp; done) | (simp; omega) | (simp [World.setCell]; omega)) hb1.size
        have bx1_paT_0 : w1.cell? ⟨w.heap.size + 1, 0, none⟩ = some (.slice a0_vT vT.fNodes.length c0_vT) := (hb1.cell (p := ⟨w.heap.size + 1, 0, none⟩) (by first | omega | (simp; done) | (simp; omega) | (simp [World.setCell]; omega))).trans (by go_simp)
        have sz1_paX : w.heap.size + 2 < w1.heap.size := Nat.lt_of_lt_of_le (by first | omega | (simp; done) | (simp; omega) | (simp [World.setCell]; omega)) hb1.size
        have bx1_paX_0 : w1.cell? ⟨w.heap.size + 2, 0, none⟩ = some (.int .i64 vX.fNode) := (hb1.cell (p := ⟨w.heap.size + 2, 0, none⟩) (by first | omega | (simp; done) | (simp; omega) | (simp [World.setCell]; omega))).trans (by go_simp)
        have bx1_paX_1 : w1.cell? ⟨w.heap.size + 2, 1, none⟩ = some (.string vX.fName) := (hb1.cell (p := ⟨w.heap.size + 2, 1, none⟩) (by first | omega | (simp; done) | (simp; omega) | (simp [World.setCell]; omega))).trans (by go_simp)
        have HS1_0_vG := Lib.hid (HS_0_vG.out.up hst1 (Nat.le_refl _))
        have HS1_1_vG := Lib.hid (HS_1_vG.out.up hst1 (Nat.le_refl _))
        have HS1_0_vT := Lib.hid (HS_0_vT.out.up hst1 (Nat.le_refl _))
        have HB1 := Lib.hid ((Below.refl w.heap.size w).trans (hst1.mono (Below.refl w.heap.size w).size))
        clear hb1 hst1
        go_wp2_with fail
        refine (HZ_vT.out w1.heap.size _ (Below.size (by repeat (first | (with_reducible exact Below.refl _ _) | (with_reducible apply Below.drew) | (with_reducible refine below_drewN ?_ _) | (refine Below.setCell ?_ (by simp <;> omega) _) | (refine Below.alloc ?_ (by simp <;> omega) _)) : Below w1.heap.size w1 _)) (HS1_0_vT.out.later (by repeat (first | (with_reducible exact Below.refl _ _) | (with_reducible apply Below.drew) | (with_reducible refine below_drewN ?_ _) | (refine Below.setCell ?_ (by simp <;> omega) _) | (refine Below.alloc ?_ (by simp <;> omega) _)) : Below w1.heap.size w1 _) (Nat.le_refl _))).mono ?_
        rintro e w2 ⟨rfl, hb2⟩
        have hst2 : Below w1.heap.size w1 w2 := Below.trans (by repeat (first | (with_reducible exact Below.refl _ _) | (with_reducible apply Below.drew) | (with_reducible refine below_drewN ?_ _) | (refine Below.setCell ?_ (by simp <;> omega) _) | (refine Below.alloc ?_ (by simp <;> omega) _)) : Below w1.heap.size w1 _) (hb2.mono (Below.size (by repeat (first | (with_reducible exact Below.refl _ _) | (with_reducible apply Below.drew) | (with_reducible refine below_drewN ?_ _) | (refine Below.setCell ?_ (by simp <;> omega) _) | (refine Below.alloc ?_ (by simp <;> omega) _)) : Below w1.heap.size w1 _)))
        have sz2_paG : w.heap.size < w2.heap.size := Nat.lt_of_lt_of_le sz1_paG hst2.size
        have bx2_paG_0 : w2.cell? ⟨w.heap.size, 0, none⟩ = some (.slice a0_vG vG.fSymbols.length c0_vG) := (hst2.cell (p := ⟨w.heap.size, 0, none⟩) sz1_paG).trans bx1_paG_0
        have bx2_paG_1 : w2.cell? ⟨w.heap.size, 1, none⟩ = some (.slice a1_vG vG.fRules.length c1_vG) := (hst2.cell (p := ⟨w.heap.size, 1, none⟩) sz1_paG).trans bx1_paG_1
        have sz2_paT : w.heap.size + 1 < w2.heap.size := Nat.lt_of_lt_of_le sz1_paT hst2.size
        have bx2_paT_0 : w2.cell? ⟨w.heap.size + 1, 0, none⟩ = some (.slice a0_vT vT.fNodes.length c0_vT) := (hst2.cell (p := ⟨w.heap.size + 1, 0, none⟩) sz1_paT).trans bx1_paT_0
        have sz2_paX : w.heap.size + 2 < w2.heap.size := Nat.lt_of_lt_of_le sz1_paX hst2.size
        have bx2_paX_0 : w2.cell? ⟨w.heap.size + 2, 0, none⟩ = some (.int .i64 vX.fNode) := (hst2.cell (p := ⟨w.heap.size + 2, 0, none⟩) sz1_paX).trans bx1_paX_0
        have bx2_paX_1 : w2.cell? ⟨w.heap.size + 2, 1, none⟩ = some (.string vX.fName) := (hst2.cell (p := ⟨w.heap.size + 2, 1, none⟩) sz1_paX).trans bx1_paX_1
        have HS2_0_vG := Lib.hid (HS1_0_vG.out.up hst2 (Nat.le_refl _))
        have HS2_1_vG := Lib.hid (HS1_1_vG.out.up hst2 (Nat.le_refl _))
        have HS2_0_vT := Lib.hid (HS1_0_vT.out.up hst2 (Nat.le_refl _))
        have HB2 := Lib.hid (HB1.out.trans (hst2.mono HB1.out.size))
        clear bx1_paG_0 bx1_paG_1 sz1_paG bx1_paT_0 sz1_paT bx1_paX_0 bx1_paX_1 sz1_paX HS1_0_vG HS1_1_vG HS1_0_vT hb2 hst2 HB1
        go_wp2_with fail
        refine (HZ_vX.out 0 _).mono ?_
        rintro e w3 ⟨rfl, hb3⟩
        have hst3 : Below w2.heap.size w2 w3 := Below.trans (by repeat (first | (with_reducible exact Below.refl _ _) | (with_reducible apply Below.drew) | (with_reducible refine below_drewN ?_ _) | (refine Below.setCell ?_ (by simp <;> omega) _) | (refine Below.alloc ?_ (by simp <;> omega) _)) : Below w2.heap.size w2 _) (hb3.mono (Below.size (by repeat (first | (with_reducible exact Below.refl _ _) | (with_reducible apply Below.drew) | (with_reducible refine below_drewN ?_ _) | (refine Below.setCell ?_ (by simp <;> omega) _) | (refine Below.alloc ?_ (by simp <;> omega) _)) : Below w2.heap.size w2 _)))
        have sz3_paG : w.heap.size < w3.heap.size := Nat.lt_of_lt_of_le sz2_paG hst3.size
        have bx3_paG_0 : w3.cell? ⟨w.heap.size, 0, none⟩ = some (.slice a0_vG vG.fSymbols.length c0_vG) := (hst3.cell (p := ⟨w.heap.size, 0, none⟩) sz2_paG).trans bx2_paG_0
        have bx3_paG_1 : w3.cell? ⟨w.heap.size, 1, none⟩ = some (.slice a1_vG vG.fRules.length c1_vG) := (hst3.cell (p := ⟨w.heap.size, 1, none⟩) sz2_paG).trans bx2_paG_1
        have sz3_paT : w.heap.size + 1 < w3.heap.size := Nat.lt_of_lt_of_le sz2_paT hst3.size
        have bx3_paT_0 : w3.cell? ⟨w.heap.size + 1, 0, none⟩ = some (.slice a0_vT vT.fNodes.length c0_vT) := (hst3.cell (p := ⟨w.heap.size + 1, 0, none⟩) sz2_paT).trans bx2_paT_0
        have sz3_paX : w.heap.size + 2 < w3.heap.size := Nat.lt_of_lt_of_le sz2_paX hst3.size
        have bx3_paX_0 : w3.cell? ⟨w.heap.size + 2, 0, none⟩ = some (.int .i64 vX.fNode) := (hst3.cell (p := ⟨w.heap.size + 2, 0, none⟩) sz2_paX).trans bx2_paX_0
        have bx3_paX_1 : w3.cell? ⟨w.heap.size + 2, 1, none⟩ = some (.string vX.fName) := (hst3.cell (p := ⟨w.heap.size + 2, 1, none⟩) sz2_paX).trans bx2_paX_1
        have HS3_0_vG := Lib.hid (HS2_0_vG.out.up hst3 (Nat.le_refl _))
        have HS3_1_vG := Lib.hid (HS2_1_vG.out.up hst3 (Nat.le_refl _))
        have HS3_0_vT := Lib.hid (HS2_0_vT.out.up hst3 (Nat.le_refl _))
        have HB3 := Lib.hid (HB2.out.trans (hst3.mono HB2.out.size))
        clear bx2_paG_0 bx2_paG_1 sz2_paG bx2_paT_0 sz2_paT bx2_paX_0 bx2_paX_1 sz2_paX HS2_0_vG HS2_1_vG HS2_0_vT hb3 hst3 HB2
        go_upto_region 11 with fail
        go_cut [8, 9] from 29 to 38 (fun sW tW wx => ∃ bW : Nat, sW = .pointer (some ⟨bW, 0, none⟩) ∧ tW = .bool (attrOf vG vT.fNodes vX).2 ∧ wx.cell? ⟨bW, 0, none⟩ = some (.string (attrOf vG vT.fNodes vX).1.fName) ∧ wx.cell? ⟨bW, 1, none⟩ = some (.int .i64 (attrOf vG vT.fNodes vX).1.fType) ∧ wx.cell? ⟨bW, 2, none⟩ = some (.int .i64 (attrOf vG vT.fNodes vX).1.fMode) ∧ wx.cell? ⟨bW, 3, none⟩ = some (.bool (attrOf vG vT.fNodes vX).1.fCircular) ∧ bW < wx.heap.size ∧ w3.heap.size ≤ bW ∧ Below w3.heap.size w3 wx)
        case first =>
          refine wp_region_free [([], none), ([0], none), ([], none), ([2], none), ([], none), ([4], none), ([1, 3, 5], none), ([6], none), ([7], none), ([7], none), ([], none), ([10, 8], some 10), ([9], none)] [0, 1, 2, 3, 4, 5, 6, 7, 8, 9, 11, 12] (fun jq9 V L H wx => match jq9 with | 0 => V 0 = .agg #[.slice a0_vG vG.fSymbols.length c0_vG, .slice a1_vG vG.fRules.length c1_vG] | 1 => ∃ a0_vG_f1 c0_vG_f1 a1_vG_f1 c1_vG_f1, V 1 = .agg #[.slice a0_vG_f1 vG.fSymbols.length c0_vG_f1, .slice a1_vG_f1 vG.fRules.length c1_vG_f1] ∧ OwnR wx (fun y => L ≤ y ∧ y < H) 2 vG.ct (fun j => [.slice a0_vG_f1 vG.fSymbols.length c0_vG_f1, .slice a1_vG_f1 vG.fRules.length c1_vG_f1].getD j .nilFunc) | 2 => V 2 = .agg #[.slice a0_vT vT.fNodes.length c0_vT] | 3 => ∃ a0_vT_f3 c0_vT_f3, V 3 = .agg #[.slice a0_vT_f3 vT.fNodes.length c0_vT_f3] ∧ OwnR wx (fun y => L ≤ y ∧ y < H) 1 vT.ct (fun j => [.slice a0_vT_f3 vT.fNodes.length c0_vT_f3].getD j .nilFunc) | 4 => V 4 = .agg #[.int .i64 vX.fNode, .string vX.fName] | 5 => V 5 = .agg #[.int .i64 vX.fNode, .string vX.fName] | 6 => V 6 = .tuple #[.agg #[.string (attrOf vG vT.fNodes vX).1.fName, .int .i64 (attrOf vG vT.fNodes vX).1.fType, .int .i64 (attrOf vG vT.fNodes vX).1.fMode, .bool (attrOf vG vT.fNodes vX).1.fCircular], .bool (attrOf vG vT.fNodes vX).2] | 7 => V 7 = V 6 ∧ V 7 = .tuple #[.agg #[.string (attrOf vG vT.fNodes vX).1.fName, .int .i64 (attrOf vG vT.fNodes vX).1.fType, .int .i64 (attrOf vG vT.fNodes vX).1.fMode, .bool (attrOf vG vT.fNodes vX).1.fCircular], .bool (attrOf vG vT.fNodes vX).2] | 8 => (∀ x0 x1, V 7 = .tuple #[x0, x1] → V 8 = x0) ∧ V 8 = .agg #[.string (attrOf vG vT.fNodes vX).1.fName, .int .i64 (attrOf vG vT.fNodes vX).1.fType, .int .i64 (attrOf vG vT.fNodes vX).1.fMode, .bool (attrOf vG vT.fNodes vX).1.fCircular] | 9 => (∀ x0 x1, V 7 = .tuple #[x0, x1] → V 9 = x1) | 10 => V 10 = .pointer (some ⟨L, 0, none⟩) ∧ L < H ∧ wx.cell? ⟨L, 0, none⟩ = some (.string ⟨#[]⟩) ∧ wx.frozen? ⟨L, 0, none⟩ = false ∧ wx.cell? ⟨L, 1, none⟩ = some (.int .i64 0) ∧ wx.frozen? ⟨L, 1, none⟩ = false ∧ wx.cell? ⟨L, 2, none⟩ = some (.int .i64 0) ∧ wx.frozen? ⟨L, 2, none⟩ = false ∧ wx.cell? ⟨L, 3, none⟩ = some (.bool false) ∧ wx.frozen? ⟨L, 3, none⟩ = false | 11 => ∀ x0 x1 x2 x3, V 8 = .agg #[x0, x1, x2, x3] → L < H ∧ wx.cell? ⟨L, 0, none⟩ = some x0 ∧ wx.cell? ⟨L, 1, none⟩ = some x1 ∧ wx.cell? ⟨L, 2, none⟩ = some x2 ∧ wx.cell? ⟨L, 3, none⟩ = some x3 | 12 => V 12 = V 9 | _ => True) (by kernel_rfl) (by kernel_rfl) ?loc ?lasts ?walk
          case loc =>
            intro k V V' L H wx h0 h1 hG
            match k with
            | 0 =>
              try dsimp only at hG ⊢
              rw [← h0]
              exact hG
            | 1 =>
              have e0 := h1 0 (by decide)
              try dsimp only at hG ⊢
              rw [← h0]
              exact hG
            | 2 =>
              try dsimp only at hG ⊢
              rw [← h0]
              exact hG
            | 3 =>
              have e2 := h1 2 (by decide)
              try dsimp only at hG ⊢
              rw [← h0]
              exact hG
            | 4 =>
              try dsimp only at hG ⊢
              rw [← h0]
              exact hG
            | 5 =>
              have e4 := h1 4 (by decide)
              try dsimp only at hG ⊢
              rw [← h0]
              exact hG
            | 6 =>
              have e1 := h1 1 (by decide)
              have e3 := h1 3 (by decide)
              have e5 := h1 5 (by decide)
              try dsimp only at hG ⊢
              rw [← h0]
              exact hG
            | 7 =>
              have e6 := h1 6 (by decide)
              try dsimp only at hG ⊢
              rw [← h0, ← e6]
              exact hG
            | 8 =>
              have e7 := h1 7 (by decide)
              try dsimp only at hG ⊢
              rw [← h0, ← e7]
              exact hG
            | 9 =>
              have e7 := h1 7 (by decide)
              try dsimp only at hG ⊢
              rw [← h0, ← e7]
              exact hG
            | 10 =>
              try dsimp only at hG ⊢
              rw [← h0]
              exact hG
            | 11 =>
              have e10 := h1 10 (by decide)
              have e8 := h1 8 (by decide)
              try dsimp only at hG ⊢
              rw [← e8]
              exact hG
            | 12 =>
              have e9 := h1 9 (by decide)
              try dsimp only at hG ⊢
              rw [← h0, ← e9]
              exact hG
            | n + 13 => trivial
          case lasts =>
            intro i hi V L H wx wy hB hH hk
            match i, hi with
            | 0, _ => exact fun h => h
            | 1, _ => exact fun ⟨a0_vG_f1, c0_vG_f1, a1_vG_f1, c1_vG_f1, hv, ho⟩ => ⟨a0_vG_f1, c0_vG_f1, a1_vG_f1, c1_vG_f1, hv, ho.kept (hk.sub fun x hx => .inr hx)⟩
            | 2, _ => exact fun h => h
            | 3, _ => exact fun ⟨a0_vT_f3, c0_vT_f3, hv, ho⟩ => ⟨a0_vT_f3, c0_vT_f3, hv, ho.kept (hk.sub fun x hx => .inr hx)⟩
            | 4, _ => exact fun h => h
            | 5, _ => exact fun h => h
            | 6, _ => exact fun h => h
            | 7, _ => exact fun h => h
            | 8, _ => exact fun h => h
            | 9, _ => exact fun h => h
            | 10, _ => exact fun ⟨hv, hl, hc0, hf0, hc1, hf1, hc2, hf2, hc3, hf3⟩ => ⟨hv, hl, (hk.cell (p := ⟨L, 0, none⟩) (.inr ⟨Nat.le_refl _, hl⟩) (Nat.lt_of_lt_of_le hl hH)).trans hc0, (hk.frozen (p := ⟨L, 0, none⟩) (.inr ⟨Nat.le_refl _, hl⟩) (Nat.lt_of_lt_of_le hl hH)).trans hf0, (hk.cell (p := ⟨L, 1, none⟩) (.inr ⟨Nat.le_refl _, hl⟩) (Nat.lt_of_lt_of_le hl hH)).trans hc1, (hk.frozen (p := ⟨L, 1, none⟩) (.inr ⟨Nat.le_refl _, hl⟩) (Nat.lt_of_lt_of_le hl hH)).trans hf1, (hk.cell (p := ⟨L, 2, none⟩) (.inr ⟨Nat.le_refl _, hl⟩) (Nat.lt_of_lt_of_le hl hH)).trans hc2, (hk.frozen (p := ⟨L, 2, none⟩) (.inr ⟨Nat.le_refl _, hl⟩) (Nat.lt_of_lt_of_le hl hH)).trans hf2, (hk.cell (p := ⟨L, 3, none⟩) (.inr ⟨Nat.le_refl _, hl⟩) (Nat.lt_of_lt_of_le hl hH)).trans hc3, (hk.frozen (p := ⟨L, 3, none⟩) (.inr ⟨Nat.le_refl _, hl⟩) (Nat.lt_of_lt_of_le hl hH)).trans hf3⟩
            | 11, _ => exact fun h x0 x1 x2 x3 hv => ⟨(h x0 x1 x2 x3 hv).1, (hk.cell (p := ⟨L, 0, none⟩) (.inr ⟨Nat.le_refl _, (h x0 x1 x2 x3 hv).1⟩) (Nat.lt_of_lt_of_le (h x0 x1 x2 x3 hv).1 hH)).trans (h x0 x1 x2 x3 hv).2.1, (hk.cell (p := ⟨L, 1, none⟩) (.inr ⟨Nat.le_refl _, (h x0 x1 x2 x3 hv).1⟩) (Nat.lt_of_lt_of_le (h x0 x1 x2 x3 hv).1 hH)).trans (h x0 x1 x2 x3 hv).2.2.1, (hk.cell (p := ⟨L, 2, none⟩) (.inr ⟨Nat.le_refl _, (h x0 x1 x2 x3 hv).1⟩) (Nat.lt_of_lt_of_le (h x0 x1 x2 x3 hv).1 hH)).trans (h x0 x1 x2 x3 hv).2.2.2.1, (hk.cell (p := ⟨L, 3, none⟩) (.inr ⟨Nat.le_refl _, (h x0 x1 x2 x3 hv).1⟩) (Nat.lt_of_lt_of_le (h x0 x1 x2 x3 hv).1 hH)).trans (h x0 x1 x2 x3 hv).2.2.2.2⟩
            | 12, _ => exact fun h => h
            | n + 13, hn => exact absurd hn (by simp)
          case walk =>
            simp only [free, Nat.reduceAdd, Act.put, List.setIfInBounds_toArray, List.set_cons_succ, List.set_cons_zero]
            refine ⟨?_, ?_, ?_, ?_, ?_, ?_, ?_, ?_, ?_, ?_, ?_, ?_, ?_, ?_⟩
            · intro V L H w4 hb4 hd
              clear hd
              have sz4_paG : w.heap.size < w4.heap.size := Nat.lt_of_lt_of_le sz3_paG hb4.size
              have bx4_paG_0 : w4.cell? ⟨w.heap.size, 0, none⟩ = some (.slice a0_vG vG.fSymbols.length c0_vG) := (hb4.cell (p := ⟨w.heap.size, 0, none⟩) sz3_paG).trans bx3_paG_0
              have bx4_paG_1 : w4.cell? ⟨w.heap.size, 1, none⟩ = some (.slice a1_vG vG.fRules.length c1_vG) := (hb4.cell (p := ⟨w.heap.size, 1, none⟩) sz3_paG).trans bx3_paG_1
              have sz4_paT : w.heap.size + 1 < w4.heap.size := Nat.lt_of_lt_of_le sz3_paT hb4.size
              have bx4_paT_0 : w4.cell? ⟨w.heap.size + 1, 0, none⟩ = some (.slice a0_vT vT.fNodes.length c0_vT) := (hb4.cell (p := ⟨w.heap.size + 1, 0, none⟩) sz3_paT).trans bx3_paT_0
              have sz4_paX : w.heap.size + 2 < w4.heap.size := Nat.lt_of_lt_of_le sz3_paX hb4.size
              have bx4_paX_0 : w4.cell? ⟨w.heap.size + 2, 0, none⟩ = some (.int .i64 vX.fNode) := (hb4.cell (p := ⟨w.heap.size + 2, 0, none⟩) sz3_paX).trans bx3_paX_0
              have bx4_paX_1 : w4.cell? ⟨w.heap.size + 2, 1, none⟩ = some (.string vX.fName) := (hb4.cell (p := ⟨w.heap.size + 2, 1, none⟩) sz3_paX).trans bx3_paX_1
              have HS4_0_vG := Lib.hid (HS3_0_vG.out.up hb4 (Nat.le_refl _))
              have HS4_1_vG := Lib.hid (HS3_1_vG.out.up hb4 (Nat.le_refl _))
              have HS4_0_vT := Lib.hid (HS3_0_vT.out.up hb4 (Nat.le_refl _))
              have HB4 := Lib.hid (HB3.out.trans (hb4.mono HB3.out.size))
              clear sz3_paG bx3_paG_0 bx3_paG_1 sz3_paT bx3_paT_0 sz3_paX bx3_paX_0 bx3_paX_1
              go_wp2_with fail
              exact freePost _ rfl ⟨Below.refl _ _, upd_self⟩
            · intro V L H w4 hb4 hd
              obtain ⟨⟨hL0, hM0, hH0, hv0⟩, -⟩ := hd
              rw [hv0]
              have HV0 := Lib.hid hv0
              clear hv0
              have sz4_paG : w.heap.size < w4.heap.size := Nat.lt_of_lt_of_le sz3_paG hb4.size
              have bx4_paG_0 : w4.cell? ⟨w.heap.size, 0, none⟩ = some (.slice a0_vG vG.fSymbols.length c0_vG) := (hb4.cell (p := ⟨w.heap.size, 0, none⟩) sz3_paG).trans bx3_paG_0
              have bx4_paG_1 : w4.cell? ⟨w.heap.size, 1, none⟩ = some (.slice a1_vG vG.fRules.length c1_vG) := (hb4.cell (p := ⟨w.heap.size, 1, none⟩) sz3_paG).trans bx3_paG_1
              have sz4_paT : w.heap.size + 1 < w4.heap.size := Nat.lt_of_lt_of_le sz3_paT hb4.size
              have bx4_paT_0 : w4.cell? ⟨w.heap.size + 1, 0, none⟩ = some (.slice a0_vT vT.fNodes.length c0_vT) := (hb4.cell (p := ⟨w.heap.size + 1, 0, none⟩) sz3_paT).trans bx3_paT_0
              have sz4_paX : w.heap.size + 2 < w4.heap.size := Nat.lt_of_lt_of_le sz3_paX hb4.size
              have bx4_paX_0 : w4.cell? ⟨w.heap.size + 2, 0, none⟩ = some (.int .i64 vX.fNode) := (hb4.cell (p := ⟨w.heap.size + 2, 0, none⟩) sz3_paX).trans bx3_paX_0
              have bx4_paX_1 : w4.cell? ⟨w.heap.size + 2, 1, none⟩ = some (.string vX.fName) := (hb4.cell (p := ⟨w.heap.size + 2, 1, none⟩) sz3_paX).trans bx3_paX_1
              have HS4_0_vG := Lib.hid (HS3_0_vG.out.up hb4 (Nat.le_refl _))
              have HS4_1_vG := Lib.hid (HS3_1_vG.out.up hb4 (Nat.le_refl _))
              have HS4_0_vT := Lib.hid (HS3_0_vT.out.up hb4 (Nat.le_refl _))
              have HB4 := Lib.hid (HB3.out.trans (hb4.mono HB3.out.size))
              clear sz3_paG bx3_paG_0 bx3_paG_1 sz3_paT bx3_paT_0 sz3_paX bx3_paX_0 bx3_paX_1
              go_wp2_with fail
              refine (laws_toGrammar (c0 := c0_vG) (c1 := c1_vG) vG hq_vG _ (Below.size (by repeat (first | (with_reducible exact Below.refl _ _) | (with_reducible apply Below.drew) | (with_reducible refine below_drewN ?_ _) | (refine Below.setCell ?_ (by simp <;> omega) _) | (refine Below.alloc ?_ (by simp <;> omega) _)) : Below w4.heap.size w4 _)) (HS4_0_vG.out.later (by repeat (first | (with_reducible exact Below.refl _ _) | (with_reducible apply Below.drew) | (with_reducible refine below_drewN ?_ _) | (refine Below.setCell ?_ (by simp <;> omega) _) | (refine Below.alloc ?_ (by simp <;> omega) _)) : Below w4.heap.size w4 _) (Nat.le_refl _)) (HS4_1_vG.out.later (by repeat (first | (with_reducible exact Below.refl _ _) | (with_reducible apply Below.drew) | (with_reducible refine below_drewN ?_ _) | (refine Below.setCell ?_ (by simp <;> omega) _) | (refine Below.alloc ?_ (by simp <;> omega) _)) : Below w4.heap.size w4 _) (Nat.le_refl _))).mono ?_
              rintro e w5 ⟨a0_vG_f1, c0_vG_f1, a1_vG_f1, c1_vG_f1, rfl, ho, hb5⟩
              go_wp2_with fail
              exact freePost _ rfl ⟨hb5, Exists.intro a0_vG_f1 (Exists.intro c0_vG_f1 (Exists.intro a1_vG_f1 (Exists.intro c1_vG_f1 (And.intro upd_self ho))))⟩
            · intro V L H w4 hb4 hd
              clear hd
              have sz4_paG : w.heap.size < w4.heap.size := Nat.lt_of_lt_of_le sz3_paG hb4.size
              have bx4_paG_0 : w4.cell? ⟨w.heap.size, 0, none⟩ = some (.slice a0_vG vG.fSymbols.length c0_vG) := (hb4.cell (p := ⟨w.heap.size, 0, none⟩) sz3_paG).trans bx3_paG_0
              have bx4_paG_1 : w4.cell? ⟨w.heap.size, 1, none⟩ = some (.slice a1_vG vG.fRules.length c1_vG) := (hb4.cell (p := ⟨w.heap.size, 1, none⟩) sz3_paG).trans bx3_paG_1
              have sz4_paT : w.heap.size + 1 < w4.heap.size := Nat.lt_of_lt_of_le sz3_paT hb4.size
              have bx4_paT_0 : w4.cell? ⟨w.heap.size + 1, 0, none⟩ = some (.slice a0_vT vT.fNodes.length c0_vT) := (hb4.cell (p := ⟨w.heap.size + 1, 0, none⟩) sz3_paT).trans bx3_paT_0
              have sz4_paX : w.heap.size + 2 < w4.heap.size := Nat.lt_of_lt_of_le sz3_paX hb4.size
              have bx4_paX_0 : w4.cell? ⟨w.heap.size + 2, 0, none⟩ = some (.int .i64 vX.fNode) := (hb4.cell (p := ⟨w.heap.size + 2, 0, none⟩) sz3_paX).trans bx3_paX_0
              have bx4_paX_1 : w4.cell? ⟨w.heap.size + 2, 1, none⟩ = some (.string vX.fName) := (hb4.cell (p := ⟨w.heap.size + 2, 1, none⟩) sz3_paX).trans bx3_paX_1
              have HS4_0_vG := Lib.hid (HS3_0_vG.out.up hb4 (Nat.le_refl _))
              have HS4_1_vG := Lib.hid (HS3_1_vG.out.up hb4 (Nat.le_refl _))
              have HS4_0_vT := Lib.hid (HS3_0_vT.out.up hb4 (Nat.le_refl _))
              have HB4 := Lib.hid (HB3.out.trans (hb4.mono HB3.out.size))
              clear sz3_paG bx3_paG_0 bx3_paG_1 sz3_paT bx3_paT_0 sz3_paX bx3_paX_0 bx3_paX_1
              go_wp2_with fail
              exact freePost _ rfl ⟨Below.refl _ _, upd_self⟩
            · intro V L H w4 hb4 hd
              obtain ⟨⟨hL2, hM2, hH2, hv2⟩, -⟩ := hd
              rw [hv2]
              have HV2 := Lib.hid hv2
              clear hv2
              have sz4_paG : w.heap.size < w4.heap.size := Nat.lt_of_lt_of_le sz3_paG hb4.size
              have bx4_paG_0 : w4.cell? ⟨w.heap.size, 0, none⟩ = some (.slice a0_vG vG.fSymbols.length c0_vG) := (hb4.cell (p := ⟨w.heap.size, 0, none⟩) sz3_paG).trans bx3_paG_0
              have bx4_paG_1 : w4.cell? ⟨w.heap.size, 1, none⟩ = some (.slice a1_vG vG.fRules.length c1_vG) := (hb4.cell (p := ⟨w.heap.size, 1, none⟩) sz3_paG).trans bx3_paG_1
              have sz4_paT : w.heap.size + 1 < w4.heap.size := Nat.lt_of_lt_of_le sz3_paT hb4.size
              have bx4_paT_0 : w4.cell? ⟨w.heap.size + 1, 0, none⟩ = some (.slice a0_vT vT.fNodes.length c0_vT) := (hb4.cell (p := ⟨w.heap.size + 1, 0, none⟩) sz3_paT).trans bx3_paT_0
              have sz4_paX : w.heap.size + 2 < w4.heap.size := Nat.lt_of_lt_of_le sz3_paX hb4.size
              have bx4_paX_0 : w4.cell? ⟨w.heap.size + 2, 0, none⟩ = some (.int .i64 vX.fNode) := (hb4.cell (p := ⟨w.heap.size + 2, 0, none⟩) sz3_paX).trans bx3_paX_0
              have bx4_paX_1 : w4.cell? ⟨w.heap.size + 2, 1, none⟩ = some (.string vX.fName) := (hb4.cell (p := ⟨w.heap.size + 2, 1, none⟩) sz3_paX).trans bx3_paX_1
              have HS4_0_vG := Lib.hid (HS3_0_vG.out.up hb4 (Nat.le_refl _))
              have HS4_1_vG := Lib.hid (HS3_1_vG.out.up hb4 (Nat.le_refl _))
              have HS4_0_vT := Lib.hid (HS3_0_vT.out.up hb4 (Nat.le_refl _))
              have HB4 := Lib.hid (HB3.out.trans (hb4.mono HB3.out.size))
              clear sz3_paG bx3_paG_0 bx3_paG_1 sz3_paT bx3_paT_0 sz3_paX bx3_paX_0 bx3_paX_1
              go_wp2_with fail
              refine (laws_toTree (c0 := c0_vT) vT hq_vT _ (Below.size (by repeat (first | (with_reducible exact Below.refl _ _) | (with_reducible apply Below.drew) | (with_reducible refine below_drewN ?_ _) | (refine Below.setCell ?_ (by simp <;> omega) _) | (refine Below.alloc ?_ (by simp <;> omega) _)) : Below w4.heap.size w4 _)) (HS4_0_vT.out.later (by repeat (first | (with_reducible exact Below.refl _ _) | (with_reducible apply Below.drew) | (with_reducible refine below_drewN ?_ _) | (refine Below.setCell ?_ (by simp <;> omega) _) | (refine Below.alloc ?_ (by simp <;> omega) _)) : Below w4.heap.size w4 _) (Nat.le_refl _))).mono ?_
              rintro e w5 ⟨a0_vT_f3, c0_vT_f3, rfl, ho, hb5⟩
              go_wp2_with fail
              exact freePost _ rfl ⟨hb5, Exists.intro a0_vT_f3 (Exists.intro c0_vT_f3 (And.intro upd_self ho))⟩
            · intro V L H w4 hb4 hd
              clear hd
              have sz4_paG : w.heap.size < w4.heap.size := Nat.lt_of_lt_of_le sz3_paG hb4.size
              have bx4_paG_0 : w4.cell? ⟨w.heap.size, 0, none⟩ = some (.slice a0_vG vG.fSymbols.length c0_vG) := (hb4.cell (p := ⟨w.heap.size, 0, none⟩) sz3_paG).trans bx3_paG_0
              have bx4_paG_1 : w4.cell? ⟨w.heap.size, 1, none⟩ = some (.slice a1_vG vG.fRules.length c1_vG) := (hb4.cell (p := ⟨w.heap.size, 1, none⟩) sz3_paG).trans bx3_paG_1
              have sz4_paT : w.heap.size + 1 < w4.heap.size := Nat.lt_of_lt_of_le sz3_paT hb4.size
              have bx4_paT_0 : w4.cell? ⟨w.heap.size + 1, 0, none⟩ = some (.slice a0_vT vT.fNodes.length c0_vT) := (hb4.cell (p := ⟨w.heap.size + 1, 0, none⟩) sz3_paT).trans bx3_paT_0
              have sz4_paX : w.heap.size + 2 < w4.heap.size := Nat.lt_of_lt_of_le sz3_paX hb4.size
              have bx4_paX_0 : w4.cell? ⟨w.heap.size + 2, 0, none⟩ = some (.int .i64 vX.fNode) := (hb4.cell (p := ⟨w.heap.size + 2, 0, none⟩) sz3_paX).trans bx3_paX_0
              have bx4_paX_1 : w4.cell? ⟨w.heap.size + 2, 1, none⟩ = some (.string vX.fName) := (hb4.cell (p := ⟨w.heap.size + 2, 1, none⟩) sz3_paX).trans bx3_paX_1
              have HS4_0_vG := Lib.hid (HS3_0_vG.out.up hb4 (Nat.le_refl _))
              have HS4_1_vG := Lib.hid (HS3_1_vG.out.up hb4 (Nat.le_refl _))
              have HS4_0_vT := Lib.hid (HS3_0_vT.out.up hb4 (Nat.le_refl _))
              have HB4 := Lib.hid (HB3.out.trans (hb4.mono HB3.out.size))
              clear sz3_paG bx3_paG_0 bx3_paG_1 sz3_paT bx3_paT_0 sz3_paX bx3_paX_0 bx3_paX_1
              go_wp2_with fail
              exact freePost _ rfl ⟨Below.refl _ _, upd_self⟩
            · intro V L H w4 hb4 hd
              obtain ⟨⟨hL4, hM4, hH4, hv4⟩, -⟩ := hd
              rw [hv4]
              have HV4 := Lib.hid hv4
              clear hv4
              have sz4_paG : w.heap.size < w4.heap.size := Nat.lt_of_lt_of_le sz3_paG hb4.size
              have bx4_paG_0 : w4.cell? ⟨w.heap.size, 0, none⟩ = some (.slice a0_vG vG.fSymbols.length c0_vG) := (hb4.cell (p := ⟨w.heap.size, 0, none⟩) sz3_paG).trans bx3_paG_0
              have bx4_paG_1 : w4.cell? ⟨w.heap.size, 1, none⟩ = some (.slice a1_vG vG.fRules.length c1_vG) := (hb4.cell (p := ⟨w.heap.size, 1, none⟩) sz3_paG).trans bx3_paG_1
              have sz4_paT : w.heap.size + 1 < w4.heap.size := Nat.lt_of_lt_of_le sz3_paT hb4.size
              have bx4_paT_0 : w4.cell? ⟨w.heap.size + 1, 0, none⟩ = some (.slice a0_vT vT.fNodes.length c0_vT) := (hb4.cell (p := ⟨w.heap.size + 1, 0, none⟩) sz3_paT).trans bx3_paT_0
              have sz4_paX : w.heap.size + 2 < w4.heap.size := Nat.lt_of_lt_of_le sz3_paX hb4.size
              have bx4_paX_0 : w4.cell? ⟨w.heap.size + 2, 0, none⟩ = some (.int .i64 vX.fNode) := (hb4.cell (p := ⟨w.heap.size + 2, 0, none⟩) sz3_paX).trans bx3_paX_0
              have bx4_paX_1 : w4.cell? ⟨w.heap.size + 2, 1, none⟩ = some (.string vX.fName) := (hb4.cell (p := ⟨w.heap.size + 2, 1, none⟩) sz3_paX).trans bx3_paX_1
              have HS4_0_vG := Lib.hid (HS3_0_vG.out.up hb4 (Nat.le_refl _))
              have HS4_1_vG := Lib.hid (HS3_1_vG.out.up hb4 (Nat.le_refl _))
              have HS4_0_vT := Lib.hid (HS3_0_vT.out.up hb4 (Nat.le_refl _))
              have HB4 := Lib.hid (HB3.out.trans (hb4.mono HB3.out.size))
              clear sz3_paG bx3_paG_0 bx3_paG_1 sz3_paT bx3_paT_0 sz3_paX bx3_paX_0 bx3_paX_1
              go_wp2_with fail
              refine (laws_toInstance vX _).mono ?_
              rintro e w5 ⟨rfl, hb5⟩
              go_wp2_with fail
              exact freePost _ rfl ⟨hb5, upd_self⟩
            · intro V L H w4 hb4 hd
              obtain ⟨⟨hL1, hM1, hH1, a0_vG_f1, c0_vG_f1, a1_vG_f1, c1_vG_f1, hv1, ho1_⟩, ⟨hL3, hM3, hH3, a0_vT_f3, c0_vT_f3, hv3, ho3_⟩, ⟨hL5, hM5, hH5, hv5⟩, -⟩ := hd
              rw [hv1, hv3, hv5]
              have HV1 := Lib.hid hv1
              have HV3 := Lib.hid hv3
              have HV5 := Lib.hid hv5
              clear hv1 hv3 hv5
              have sz4_paG : w.heap.size < w4.heap.size := Nat.lt_of_lt_of_le sz3_paG hb4.size
              have bx4_paG_0 : w4.cell? ⟨w.heap.size, 0, none⟩ = some (.slice a0_vG vG.fSymbols.length c0_vG) := (hb4.cell (p := ⟨w.heap.size, 0, none⟩) sz3_paG).trans bx3_paG_0
              have bx4_paG_1 : w4.cell? ⟨w.heap.size, 1, none⟩ = some (.slice a1_vG vG.fRules.length c1_vG) := (hb4.cell (p := ⟨w.heap.size, 1, none⟩) sz3_paG).trans bx3_paG_1
              have sz4_paT : w.heap.size + 1 < w4.heap.size := Nat.lt_of_lt_of_le sz3_paT hb4.size
              have bx4_paT_0 : w4.cell? ⟨w.heap.size + 1, 0, none⟩ = some (.slice a0_vT vT.fNodes.length c0_vT) := (hb4.cell (p := ⟨w.heap.size + 1, 0, none⟩) sz3_paT).trans bx3_paT_0
              have sz4_paX : w.heap.size + 2 < w4.heap.size := Nat.lt_of_lt_of_le sz3_paX hb4.size
              have bx4_paX_0 : w4.cell? ⟨w.heap.size + 2, 0, none⟩ = some (.int .i64 vX.fNode) := (hb4.cell (p := ⟨w.heap.size + 2, 0, none⟩) sz3_paX).trans bx3_paX_0
              have bx4_paX_1 : w4.cell? ⟨w.heap.size + 2, 1, none⟩ = some (.string vX.fName) := (hb4.cell (p := ⟨w.heap.size + 2, 1, none⟩) sz3_paX).trans bx3_paX_1
              have HS4_0_vG := Lib.hid (HS3_0_vG.out.up hb4 (Nat.le_refl _))
              have HS4_1_vG := Lib.hid (HS3_1_vG.out.up hb4 (Nat.le_refl _))
              have HS4_0_vT := Lib.hid (HS3_0_vT.out.up hb4 (Nat.le_refl _))
              have HB4 := Lib.hid (HB3.out.trans (hb4.mono HB3.out.size))
              clear sz3_paG bx3_paG_0 bx3_paG_1 sz3_paT bx3_paT_0 sz3_paX bx3_paX_0 bx3_paX_1
              have HO_0_vG_f1 := Lib.hid (show Own w4 (fun y => L 1 ≤ y ∧ y < H 1) (.sl 2 vG.fSymbols.length (fun k => DSymbol.ct (vG.fSymbols.getD k default))) (.slice a0_vG_f1 vG.fSymbols.length c0_vG_f1) from OwnR.at ho1_ 0 (by decide))
              have HSf_0_vG_f1 := Lib.hid (Sl.of (HO_0_vG_f1.out.lies (lo := 0) (hi := w4.heap.size) (fun y hy => ⟨Nat.zero_le _, by have := hy.2; omega⟩)))
              have HO_1_vG_f1 := Lib.hid (show Own w4 (fun y => L 1 ≤ y ∧ y < H 1) (.sl 6 vG.fRules.length (fun k => DRule.ct (vG.fRules.getD k default))) (.slice a1_vG_f1 vG.fRules.length c1_vG_f1) from OwnR.at ho1_ 1 (by decide))
              have HSf_1_vG_f1 := Lib.hid (Sl.of (HO_1_vG_f1.out.lies (lo := 0) (hi := w4.heap.size) (fun y hy => ⟨Nat.zero_le _, by have := hy.2; omega⟩)))
              clear ho1_
              have HO_0_vT_f3 := Lib.hid (show Own w4 (fun y => L 3 ≤ y ∧ y < H 3) (.sl 6 vT.fNodes.length (fun k => DNode.ct (vT.fNodes.getD k default))) (.slice a0_vT_f3 vT.fNodes.length c0_vT_f3) from OwnR.at ho3_ 0 (by decide))
              have HSf_0_vT_f3 := Lib.hid (Sl.of (HO_0_vT_f3.out.lies (lo := 0) (hi := w4.heap.size) (fun y hy => ⟨Nat.zero_le _, by have := hy.2; omega⟩)))
              clear ho3_
              go_wp2_with fail
              refine (spec_AttributeOf (c0_0 := c0_vG_f1) (c0_1 := c1_vG_f1) (c1_0 := c0_vT_f3) vG OK_vG.out hq_vG vT OK_vT.out hq_vT vX OK_vX.out hq_vX _ (Below.size (by repeat (first | (with_reducible exact Below.refl _ _) | (with_reducible apply Below.drew) | (with_reducible refine below_drewN ?_ _) | (refine Below.setCell ?_ (by simp <;> omega) _) | (refine Below.alloc ?_ (by simp <;> omega) _)) : Below w4.heap.size w4 _)) (HSf_0_vG_f1.out.later (by repeat (first | (with_reducible exact Below.refl _ _) | (with_reducible apply Below.drew) | (with_reducible refine below_drewN ?_ _) | (refine Below.setCell ?_ (by simp <;> omega) _) | (refine Below.alloc ?_ (by simp <;> omega) _)) : Below w4.heap.size w4 _) (Nat.le_refl _)) (HSf_1_vG_f1.out.later (by repeat (first | (with_reducible exact Below.refl _ _) | (with_reducible apply Below.drew) | (with_reducible refine below_drewN ?_ _) | (refine Below.setCell ?_ (by simp <;> omega) _) | (refine Below.alloc ?_ (by simp <;> omega) _)) : Below w4.heap.size w4 _) (Nat.le_refl _)) (HSf_0_vT_f3.out.later (by repeat (first | (with_reducible exact Below.refl _ _) | (with_reducible apply Below.drew) | (with_reducible refine below_drewN ?_ _) | (refine Below.setCell ?_ (by simp <;> omega) _) | (refine Below.alloc ?_ (by simp <;> omega) _)) : Below w4.heap.size w4 _) (Nat.le_refl _))).mono ?_
              rintro e w5 ⟨rfl, hb5⟩
              go_wp2_with fail
              exact freePost _ rfl ⟨hb5, upd_self⟩
            · intro V L H w4 hb4 hd
              obtain ⟨⟨hL6, hM6, hH6, hv6⟩, -⟩ := hd
              rw [hv6]
              have HV6 := Lib.hid hv6
              clear hv6
              have HB4 := Lib.hid (HB3.out.trans (hb4.mono HB3.out.size))
              clear sz3_paG bx3_paG_0 bx3_paG_1 sz3_paT bx3_paT_0 sz3_paX bx3_paX_0 bx3_paX_1
              go_wp2_with fail
              exact freePost _ rfl ⟨Below.refl _ _, And.intro (upd_self.trans (HV6.out.symm.trans (upd_ne (by decide)).symm)) upd_self⟩
            · intro V L H w4 hb4 hd
              obtain ⟨⟨hL7, hM7, hH7, hv7, hz7⟩, -⟩ := hd
              clear hv7
              rw [hz7]
              have HV7 := Lib.hid hz7
              clear hz7
              have HB4 := Lib.hid (HB3.out.trans (hb4.mono HB3.out.size))
              clear sz3_paG bx3_paG_0 bx3_paG_1 sz3_paT bx3_paT_0 sz3_paX bx3_paX_0 bx3_paX_1
              go_wp2_with fail
              exact freePost _ rfl ⟨Below.refl _ _, And.intro (fun x0 x1 h => by cases (HV7.out.symm.trans ((upd_ne (by decide)).symm.trans h)); exact upd_self) upd_self⟩
            · intro V L H w4 hb4 hd
              obtain ⟨⟨hL7, hM7, hH7, hv7, hz7⟩, -⟩ := hd
              clear hv7
              rw [hz7]
              have HV7 := Lib.hid hz7
              clear hz7
              have HB4 := Lib.hid (HB3.out.trans (hb4.mono HB3.out.size))
              clear sz3_paG bx3_paG_0 bx3_paG_1 sz3_paT bx3_paT_0 sz3_paX bx3_paX_0 bx3_paX_1
              go_wp2_with fail
              exact freePost _ rfl ⟨Below.refl _ _, fun x0 x1 h => by cases (HV7.out.symm.trans ((upd_ne (by decide)).symm.trans h)); exact upd_self⟩
            · intro V L H w4 hb4 hd
              clear hd
              have HB4 := Lib.hid (HB3.out.trans (hb4.mono HB3.out.size))
              clear sz3_paG bx3_paG_0 bx3_paG_1 sz3_paT bx3_paT_0 sz3_paX bx3_paX_0 bx3_paX_1
              go_wp2_with fail
              refine freePost _ rfl ⟨Below.alloc (Below.refl _ _) (Nat.le_refl _) _, upd_self, ?_, ?_, ?_, ?_, ?_, ?_, ?_, ?_, ?_⟩
              · simp
              all_goals go_simp
            · intro V L H w4 hb4 hd
              obtain ⟨⟨hL10, hM10, hH10, hv10, hlt10, hc10_0, hf10_0, hc10_1, hf10_1, hc10_2, hf10_2, hc10_3, hf10_3⟩, ⟨hL8, hM8, hH8, hv8, hz8⟩, -⟩ := hd
              clear hv8
              rw [hv10, hz8]
              have HV10 := Lib.hid hv10
              have HV8 := Lib.hid hz8
              clear hv10 hz8
              have HB4 := Lib.hid (HB3.out.trans (hb4.mono HB3.out.size))
              clear sz3_paG bx3_paG_0 bx3_paG_1 sz3_paT bx3_paT_0 sz3_paX bx3_paX_0 bx3_paX_1
              go_wp2_with fail
              refine freePost undef rfl ⟨(Touches.put (L := L 10) (H := H 10) (Touches.put (L := L 10) (H := H 10) (Touches.put (L := L 10) (H := H 10) (Touches.put (L := L 10) (H := H 10) Touches.refl (p := ⟨L 10, 0, none⟩) ⟨Nat.le_refl _, hlt10⟩ _) (p := ⟨L 10, 1, none⟩) ⟨Nat.le_refl _, hlt10⟩ _) (p := ⟨L 10, 2, none⟩) ⟨Nat.le_refl _, hlt10⟩ _) (p := ⟨L 10, 3, none⟩) ⟨Nat.le_refl _, hlt10⟩ _), fun x0 x1 x2 x3 h => ?_⟩
              cases (HV8.out.symm.trans ((upd_ne (by decide)).symm.trans h))
              refine ⟨hlt10, ?_, ?_, ?_, ?_⟩
              all_goals go_simp
            · intro V L H w4 hb4 hd
              obtain ⟨⟨hL9, hM9, hH9, hv9⟩, -⟩ := hd
              clear hv9
              have HB4 := Lib.hid (HB3.out.trans (hb4.mono HB3.out.size))
              clear sz3_paG bx3_paG_0 bx3_paG_1 sz3_paT bx3_paT_0 sz3_paX bx3_paX_0 bx3_paX_1
              go_wp2_with fail
              exact freePost _ rfl ⟨Below.refl _ _, upd_self.trans (upd_ne (by decide)).symm⟩
            · intro V L H w4 hb4 hd hap hdead
              obtain ⟨⟨hL0, hM0, hH0, hv0⟩, ⟨hL1, hM1, hH1, a0_vG_f1, c0_vG_f1, a1_vG_f1, c1_vG_f1, hv1, ho1_⟩, ⟨hL2, hM2, hH2, hv2⟩, ⟨hL3, hM3, hH3, a0_vT_f3, c0_vT_f3, hv3, ho3_⟩, ⟨hL4, hM4, hH4, hv4⟩, ⟨hL5, hM5, hH5, hv5⟩, ⟨hL6, hM6, hH6, hv6⟩, ⟨hL7, hM7, hH7, hv7, hz7⟩, ⟨hL8, hM8, hH8, hv8, hz8⟩, ⟨hL9, hM9, hH9, hv9⟩, ⟨hL11, hM11, hH11, hst11_⟩, ⟨hL12, hM12, hH12, hv12⟩, -⟩ := hd
              obtain ⟨hLe, hHe, wo, hva, -⟩ := hdead 11 10 (by decide) rfl
              have hv6' := hv6
              have hv7' := hv7.trans hv6'
              have hv8' := hv8 _ _ hv7'
              have hv9' := hv9 _ _ hv7'
              have hv12' := hv12.trans hv9'
              obtain ⟨hlt, hc0, hc1, hc2, hc3⟩ := hst11_ _ _ _ _ hv8'
              rw [hv0, hv2, hv4, hv6', hv7', hv8', hv9', hv12', hva, hv1, hv3, hv5]
              clear hv0 hv2 hv4 hv6' hv7' hv8' hv9' hv12' hva hv1 hv3 hv5 hv6 hv7 hv8 hv9 hv12
              clear hap hdead
              have HLe := Lib.hid hLe
              have HHe := Lib.hid hHe
              clear hLe hHe
              go_wp2_with fail
              go_meet
              have hLe := HLe.out
              have hHe := HHe.out
              refine ⟨L 10, rfl, rfl, ?_, ?_, ?_, ?_, ?_, ?_, hb4⟩
              · rw [← hLe]; exact hc0
              · rw [← hLe]; exact hc1
              · rw [← hLe]; exact hc2
              · rw [← hLe]; exact hc3
              · omega
              · omega
        case rest =>
          obtain ⟨bV7, rfl, rfl, bx7_w0_0, bx7_w0_1, bx7_w0_2, bx7_w0_3, sz7_w0, hB7, hb7⟩ := hcut
          obtain ⟨w7, rfl⟩ : ∃ w_ : World, w_ = wc := ⟨_, rfl⟩
          have sz7_paG : w.heap.size < w7.heap.size := Nat.lt_of_lt_of_le sz3_paG hb7.size
          have bx7_paG_0 : w7.cell? ⟨w.heap.size, 0, none⟩ = some (.slice a0_vG vG.fSymbols.length c0_vG) := (hb7.cell (p := ⟨w.heap.size, 0, none⟩) sz3_paG).trans bx3_paG_0
          have bx7_paG_1 : w7.cell? ⟨w.heap.size, 1, none⟩ = some (.slice a1_vG vG.fRules.length c1_vG) := (hb7.cell (p := ⟨w.heap.size, 1, none⟩) sz3_paG).trans bx3_paG_1
          have sz7_paT : w.heap.size + 1 < w7.heap.size := Nat.lt_of_lt_of_le sz3_paT hb7.size
          have bx7_paT_0 : w7.cell? ⟨w.heap.size + 1, 0, none⟩ = some (.slice a0_vT vT.fNodes.length c0_vT) := (hb7.cell (p := ⟨w.heap.size + 1, 0, none⟩) sz3_paT).trans bx3_paT_0
          have sz7_paX : w.heap.size + 2 < w7.heap.size := Nat.lt_of_lt_of_le sz3_paX hb7.size
          have bx7_paX_0 : w7.cell? ⟨w.heap.size + 2, 0, none⟩ = some (.int .i64 vX.fNode) := (hb7.cell (p := ⟨w.heap.size + 2, 0, none⟩) sz3_paX).trans bx3_paX_0
          have bx7_paX_1 : w7.cell? ⟨w.heap.size + 2, 1, none⟩ = some (.string vX.fName) := (hb7.cell (p := ⟨w.heap.size + 2, 1, none⟩) sz3_paX).trans bx3_paX_1
          have HS7_0_vG := Lib.hid (HS3_0_vG.out.up hb7 (Nat.le_refl _))
          have HS7_1_vG := Lib.hid (HS3_1_vG.out.up hb7 (Nat.le_refl _))
          have HS7_0_vT := Lib.hid (HS3_0_vT.out.up hb7 (Nat.le_refl _))
          have HB7 := Lib.hid (HB3.out.trans (hb7.mono HB3.out.size))
          clear hb7 bx3_paG_0 bx3_paG_1 sz3_paG bx3_paT_0 sz3_paT bx3_paX_0 bx3_paX_1 sz3_paX HS3_0_vG HS3_1_vG HS3_0_vT HB3
          go_wp2_with fail
          refine (laws_toGrammar (c0 := c0_vG) (c1 := c1_vG) vG hq_vG _ (Below.size (by repeat (first | (with_reducible exact Below.refl _ _) | (with_reducible apply Below.drew) | (with_reducible refine below_drewN ?_ _) | (refine Below.setCell ?_ (by simp <;> omega) _) | (refine Below.alloc ?_ (by simp <;> omega) _)) : Below w7.heap.size w7 _)) (HS7_0_vG.out.later (by repeat (first | (with_reducible exact Below.refl _ _) | (with_reducible apply Below.drew) | (with_reducible refine below_drewN ?_ _) | (refine Below.setCell ?_ (by simp <;> omega) _) | (refine Below.alloc ?_ (by simp <;> omega) _)) : Below w7.heap.size w7 _) (Nat.le_refl _)) (HS7_1_vG.out.later (by repeat (first | (with_reducible exact Below.refl _ _) | (with_reducible apply Below.drew) | (with_reducible refine below_drewN ?_ _) | (refine Below.setCell ?_ (by simp <;> omega) _) | (refine Below.alloc ?_ (by simp <;> omega) _)) : Below w7.heap.size w7 _) (Nat.le_refl _))).mono ?_
          rintro e w8 ⟨a0_vG_8, c0_vG_8, a1_vG_8, c1_vG_8, rfl, ho8, hb8⟩
          have hst8 : Below w7.heap.size w7 w8 := Below.trans (by repeat (first | (with_reducible exact Below.refl _ _) | (with_reducible apply Below.drew) | (with_reducible refine below_drewN ?_ _) | (refine Below.setCell ?_ (by simp <;> omega) _) | (refine Below.alloc ?_ (by simp <;> omega) _)) : Below w7.heap.size w7 _) (hb8.mono (Below.size (by repeat (first | (with_reducible exact Below.refl _ _) | (with_reducible apply Below.drew) | (with_reducible refine below_drewN ?_ _) | (refine Below.setCell ?_ (by simp <;> omega) _) | (refine Below.alloc ?_ (by simp <;> omega) _)) : Below w7.heap.size w7 _)))
          have sz8_paG : w.heap.size < w8.heap.size := Nat.lt_of_lt_of_le sz7_paG hst8.size
          have bx8_paG_0 : w8.cell? ⟨w.heap.size, 0, none⟩ = some (.slice a0_vG vG.fSymbols.length c0_vG) := (hst8.cell (p := ⟨w.heap.size, 0, none⟩) sz7_paG).trans bx7_paG_0
          have bx8_paG_1 : w8.cell? ⟨w.heap.size, 1, none⟩ = some (.slice a1_vG vG.fRules.length c1_vG) := (hst8.cell (p := ⟨w.heap.size, 1, none⟩) sz7_paG).trans bx7_paG_1
          have sz8_paT : w.heap.size + 1 < w8.heap.size := Nat.lt_of_lt_of_le sz7_paT hst8.size
          have bx8_paT_0 : w8.cell? ⟨w.heap.size + 1, 0, none⟩ = some (.slice a0_vT vT.fNodes.length c0_vT) := (hst8.cell (p := ⟨w.heap.size + 1, 0, none⟩) sz7_paT).trans bx7_paT_0
          have sz8_paX : w.heap.size + 2 < w8.heap.size := Nat.lt_of_lt_of_le sz7_paX hst8.size
          have bx8_paX_0 : w8.cell? ⟨w.heap.size + 2, 0, none⟩ = some (.int .i64 vX.fNode) := (hst8.cell (p := ⟨w.heap.size + 2, 0, none⟩) sz7_paX).trans bx7_paX_0
          have bx8_paX_1 : w8.cell? ⟨w.heap.size + 2, 1, none⟩ = some (.string vX.fName) := (hst8.cell (p := ⟨w.heap.size + 2, 1, none⟩) sz7_paX).trans bx7_paX_1
          have sz8_w0 : bV7 < w8.heap.size := Nat.lt_of_lt_of_le sz7_w0 hst8.size
          have bx8_w0_0 : w8.cell? ⟨bV7, 0, none⟩ = some (.string (attrOf vG vT.fNodes vX).1.fName) := (hst8.cell (p := ⟨bV7, 0, none⟩) sz7_w0).trans bx7_w0_0
          have bx8_w0_1 : w8.cell? ⟨bV7, 1, none⟩ = some (.int .i64 (attrOf vG vT.fNodes vX).1.fType) := (hst8.cell (p := ⟨bV7, 1, none⟩) sz7_w0).trans bx7_w0_1
          have bx8_w0_2 : w8.cell? ⟨bV7, 2, none⟩ = some (.int .i64 (attrOf vG vT.fNodes vX).1.fMode) := (hst8.cell (p := ⟨bV7, 2, none⟩) sz7_w0).trans bx7_w0_2
          have bx8_w0_3 : w8.cell? ⟨bV7, 3, none⟩ = some (.bool (attrOf vG vT.fNodes vX).1.fCircular) := (hst8.cell (p := ⟨bV7, 3, none⟩) sz7_w0).trans bx7_w0_3
          have HS8_0_vG := Lib.hid (HS7_0_vG.out.up hst8 (Nat.le_refl _))
          have HS8_1_vG := Lib.hid (HS7_1_vG.out.up hst8 (Nat.le_refl _))
          have HS8_0_vT := Lib.hid (HS7_0_vT.out.up hst8 (Nat.le_refl _))
          have HS8_0_vG_8 := Lib.hid (show Sl 0 w8.heap.size w8 2 vG.fSymbols.length (fun k => DSymbol.ct (vG.fSymbols.getD k default)) a0_vG_8 from Sl.of (cap := c0_vG_8) (l := vG.fSymbols.length) (a := a0_vG_8) (ho8.lies (lo := 0) (hi := w8.heap.size) (fun y hy => ⟨Nat.zero_le _, hy.2⟩) 0 (by decide)))
          have HS8_1_vG_8 := Lib.hid (show Sl 0 w8.heap.size w8 6 vG.fRules.length (fun k => DRule.ct (vG.fRules.getD k default)) a1_vG_8 from Sl.of (cap := c1_vG_8) (l := vG.fRules.length) (a := a1_vG_8) (ho8.lies (lo := 0) (hi := w8.heap.size) (fun y hy => ⟨Nat.zero_le _, hy.2⟩) 1 (by decide)))
          have HB8 := Lib.hid (HB7.out.trans (hst8.mono HB7.out.size))
          clear bx7_paG_0 bx7_paG_1 sz7_paG bx7_paT_0 sz7_paT bx7_paX_0 bx7_paX_1 sz7_paX bx7_w0_0 bx7_w0_1 bx7_w0_2 bx7_w0_3 sz7_w0 HS7_0_vG HS7_1_vG HS7_0_vT ho8 hb8 hst8 HB7
          go_wp2_with fail
          refine (laws_toTree (c0 := c0_vT) vT hq_vT _ (Below.size (by repeat (first | (with_reducible exact Below.refl _ _) | (with_reducible apply Below.drew) | (with_reducible refine below_drewN ?_ _) | (refine Below.setCell ?_ (by simp <;> omega) _) | (refine Below.alloc ?_ (by simp <;> omega) _)) : Below w8.heap.size w8 _)) (HS8_0_vT.out.later (by repeat (first | (with_reducible exact Below.refl _ _) | (with_reducible apply Below.drew) | (with_reducible refine below_drewN ?_ _) | (refine Below.setCell ?_ (by simp <;> omega) _) | (refine Below.alloc ?_ (by simp <;> omega) _)) : Below w8.heap.size w8 _) (Nat.le_refl _))).mono ?_
          rintro e w9 ⟨a0_vT_9, c0_vT_9, rfl, ho9, hb9⟩
          have hst9 : Below w8.heap.size w8 w9 := Below.trans (by repeat (first | (with_reducible exact Below.refl _ _) | (with_reducible apply Below.drew) | (with_reducible refine below_drewN ?_ _) | (refine Below.setCell ?_ (by simp <;> omega) _) | (refine Below.alloc ?_ (by simp <;> omega) _)) : Below w8.heap.size w8 _) (hb9.mono (Below.size (by repeat (first | (with_reducible exact Below.refl _ _) | (with_reducible apply Below.drew) | (with_reducible refine below_drewN ?_ _) | (refine Below.setCell ?_ (by simp <;> omega) _) | (refine Below.alloc ?_ (by simp <;> omega) _)) : Below w8.heap.size w8 _)))
          have sz9_paG : w.heap.size < w9.heap.size := Nat.lt_of_lt_of_le sz8_paG hst9.size
          have bx9_paG_0 : w9.cell? ⟨w.heap.size, 0, none⟩ = some (.slice a0_vG vG.fSymbols.length c0_vG) := (hst9.cell (p := ⟨w.heap.size, 0, none⟩) sz8_paG).trans bx8_paG_0
          have bx9_paG_1 : w9.cell? ⟨w.heap.size, 1, none⟩ = some (.slice a1_vG vG.fRules.length c1_vG) := (hst9.cell (p := ⟨w.heap.size, 1, none⟩) sz8_paG).trans bx8_paG_1
          have sz9_paT : w.heap.size + 1 < w9.heap.size := Nat.lt_of_lt_of_le sz8_paT hst9.size
          have bx9_paT_0 : w9.cell? ⟨w.heap.size + 1, 0, none⟩ = some (.slice a0_vT vT.fNodes.length c0_vT) := (hst9.cell (p := ⟨w.heap.size + 1, 0, none⟩) sz8_paT).trans bx8_paT_0
          have sz9_paX : w.heap.size + 2 < w9.heap.size := Nat.lt_of_lt_of_le sz8_paX hst9.size
          have bx9_paX_0 : w9.cell? ⟨w.heap.size + 2, 0, none⟩ = some (.int .i64 vX.fNode) := (hst9.cell (p := ⟨w.heap.size + 2, 0, none⟩) sz8_paX).trans bx8_paX_0
          have bx9_paX_1 : w9.cell? ⟨w.heap.size + 2, 1, none⟩ = some (.string vX.fName) := (hst9.cell (p := ⟨w.heap.size + 2, 1, none⟩) sz8_paX).trans bx8_paX_1
          have sz9_w0 : bV7 < w9.heap.size := Nat.lt_of_lt_of_le sz8_w0 hst9.size
          have bx9_w0_0 : w9.cell? ⟨bV7, 0, none⟩ = some (.string (attrOf vG vT.fNodes vX).1.fName) := (hst9.cell (p := ⟨bV7, 0, none⟩) sz8_w0).trans bx8_w0_0
          have bx9_w0_1 : w9.cell? ⟨bV7, 1, none⟩ = some (.int .i64 (attrOf vG vT.fNodes vX).1.fType) := (hst9.cell (p := ⟨bV7, 1, none⟩) sz8_w0).trans bx8_w0_1
          have bx9_w0_2 : w9.cell? ⟨bV7, 2, none⟩ = some (.int .i64 (attrOf vG vT.fNodes vX).1.fMode) := (hst9.cell (p := ⟨bV7, 2, none⟩) sz8_w0).trans bx8_w0_2
          have bx9_w0_3 : w9.cell? ⟨bV7, 3, none⟩ = some (.bool (attrOf vG vT.fNodes vX).1.fCircular) := (hst9.cell (p := ⟨bV7, 3, none⟩) sz8_w0).trans bx8_w0_3
          have sz9_x0 : w8.heap.size < w9.heap.size := Nat.lt_of_lt_of_le (by first | omega | (simp; done) | (simp; omega) | (simp [World.setCell]; omega)) hb9.size
          have bx9_x0_0 : w9.cell? ⟨w8.heap.size, 0, none⟩ = some (.slice a0_vG_8 vG.fSymbols.length c0_vG_8) := (hb9.cell (p := ⟨w8.heap.size, 0, none⟩) (by first | omega | (simp; done) | (simp; omega) | (simp [World.setCell]; omega))).trans (by go_simp)
          have bx9_x0_1 : w9.cell? ⟨w8.heap.size, 1, none⟩ = some (.slice a1_vG_8 vG.fRules.length c1_vG_8) := (hb9.cell (p := ⟨w8.heap.size, 1, none⟩) (by first | omega | (simp; done) | (simp; omega) | (simp [World.setCell]; omega))).trans (by go_simp)
          have HS9_0_vG := Lib.hid (HS8_0_vG.out.up hst9 (Nat.le_refl _))
          have HS9_1_vG := Lib.hid (HS8_1_vG.out.up hst9 (Nat.le_refl _))
          have HS9_0_vT := Lib.hid (HS8_0_vT.out.up hst9 (Nat.le_refl _))
          have HS9_0_vG_8 := Lib.hid (HS8_0_vG_8.out.up hst9 (Nat.le_refl _))
          have HS9_1_vG_8 := Lib.hid (HS8_1_vG_8.out.up hst9 (Nat.le_refl _))
          have HS9_0_vT_9 := Lib.hid (show Sl 0 w9.heap.size w9 6 vT.fNodes.length (fun k => DNode.ct (vT.fNodes.getD k default)) a0_vT_9 from Sl.of (cap := c0_vT_9) (l := vT.fNodes.length) (a := a0_vT_9) (ho9.lies (lo := 0) (hi := w9.heap.size) (fun y hy => ⟨Nat.zero_le _, hy.2⟩) 0 (by decide)))
          have HB9 := Lib.hid (HB8.out.trans (hst9.mono HB8.out.size))
          clear bx8_paG_0 bx8_paG_1 sz8_paG bx8_paT_0 sz8_paT bx8_paX_0 bx8_paX_1 sz8_paX bx8_w0_0 bx8_w0_1 bx8_w0_2 bx8_w0_3 sz8_w0 HS8_0_vG HS8_1_vG HS8_0_vT HS8_0_vG_8 HS8_1_vG_8 ho9 hb9 hst9 HB8
          go_upto_region 14 with fail
          go_cut [12, 13] from 43 to 50 (fun sW tW wx => ∃ bW : Nat, sW = .pointer (some ⟨bW, 0, none⟩) ∧ tW = .bool (attrOf vG vT.fNodes vX).2 ∧ wx.cell? ⟨bW, 0, none⟩ = some (.string (attrOf vG vT.fNodes vX).1.fName) ∧ wx.cell? ⟨bW, 1, none⟩ = some (.int .i64 (attrOf vG vT.fNodes vX).1.fType) ∧ wx.cell? ⟨bW, 2, none⟩ = some (.int .i64 (attrOf vG vT.fNodes vX).1.fMode) ∧ wx.cell? ⟨bW, 3, none⟩ = some (.bool (attrOf vG vT.fNodes vX).1.fCircular) ∧ bW < wx.heap.size ∧ w9.heap.size ≤ bW ∧ Below w9.heap.size w9 wx ∧ w9.heap.size < wx.heap.size ∧ wx.cell? ⟨w9.heap.size, 0, none⟩ = some (.slice a0_vT_9 vT.fNodes.length c0_vT_9))
          case first =>
            refine wp_region_free [([], none), ([], none), ([], none), ([2], none), ([0, 1, 3], none), ([4], none), ([5], none), ([5], none), ([], none), ([8, 6], some 8), ([7], none)] [0, 1, 2, 3, 4, 5, 6, 7, 9, 10] (fun jq9 V L H wx => match jq9 with | 0 => V 0 = .agg #[.slice a0_vG_8 vG.fSymbols.length c0_vG_8, .slice a1_vG_8 vG.fRules.length c1_vG_8] | 1 => V 1 = .agg #[.slice a0_vT_9 vT.fNodes.length c0_vT_9] | 2 => V 2 = .agg #[.int .i64 vX.fNode, .string vX.fName] | 3 => V 3 = .agg #[.int .i64 vX.fNode, .string vX.fName] | 4 => V 4 = .tuple #[.agg #[.string (attrOf vG vT.fNodes vX).1.fName, .int .i64 (attrOf vG vT.fNodes vX).1.fType, .int .i64 (attrOf vG vT.fNodes vX).1.fMode, .bool (attrOf vG vT.fNodes vX).1.fCircular], .bool (attrOf vG vT.fNodes vX).2] | 5 => V 5 = V 4 ∧ V 5 = .tuple #[.agg #[.string (attrOf vG vT.fNodes vX).1.fName, .int .i64 (attrOf vG vT.fNodes vX).1.fType, .int .i64 (attrOf vG vT.fNodes vX).1.fMode, .bool (attrOf vG vT.fNodes vX).1.fCircular], .bool (attrOf vG vT.fNodes vX).2] | 6 => (∀ x0 x1, V 5 = .tuple #[x0, x1] → V 6 = x0) ∧ V 6 = .agg #[.string (attrOf vG vT.fNodes vX).1.fName, .int .i64 (attrOf vG vT.fNodes vX).1.fType, .int .i64 (attrOf vG vT.fNodes vX).1.fMode, .bool (attrOf vG vT.fNodes vX).1.fCircular] | 7 => (∀ x0 x1, V 5 = .tuple #[x0, x1] → V 7 = x1) | 8 => V 8 = .pointer (some ⟨L, 0, none⟩) ∧ L < H ∧ wx.cell? ⟨L, 0, none⟩ = some (.string ⟨#[]⟩) ∧ wx.frozen? ⟨L, 0, none⟩ = false ∧ wx.cell? ⟨L, 1, none⟩ = some (.int .i64 0) ∧ wx.frozen? ⟨L, 1, none⟩ = false ∧ wx.cell? ⟨L, 2, none⟩ = some (.int .i64 0) ∧ wx.frozen? ⟨L, 2, none⟩ = false ∧ wx.cell? ⟨L, 3, none⟩ = some (.bool false) ∧ wx.frozen? ⟨L, 3, none⟩ = false | 9 => ∀ x0 x1 x2 x3, V 6 = .agg #[x0, x1, x2, x3] → L < H ∧ wx.cell? ⟨L, 0, none⟩ = some x0 ∧ wx.cell? ⟨L, 1, none⟩ = some x1 ∧ wx.cell? ⟨L, 2, none⟩ = some x2 ∧ wx.cell? ⟨L, 3, none⟩ = some x3 | 10 => V 10 = V 7 | _ => True) (by kernel_rfl) (by kernel_rfl) ?loc ?lasts ?walk
            case loc =>
              intro k V V' L H wx h0 h1 hG
              match k with
              | 0 =>
                try dsimp only at hG ⊢
                rw [← h0]
                exact hG
              | 1 =>
                try dsimp only at hG ⊢
                rw [← h0]
                exact hG
              | 2 =>
                try dsimp only at hG ⊢
                rw [← h0]
                exact hG
              | 3 =>
                have e2 := h1 2 (by decide)
                try dsimp only at hG ⊢
                rw [← h0]
                exact hG
              | 4 =>
                have e0 := h1 0 (by decide)
                have e1 := h1 1 (by decide)
                have e3 := h1 3 (by decide)
                try dsimp only at hG ⊢
                rw [← h0]
                exact hG
              | 5 =>
                have e4 := h1 4 (by decide)
                try dsimp only at hG ⊢
                rw [← h0, ← e4]
                exact hG
              | 6 =>
                have e5 := h1 5 (by decide)
                try dsimp only at hG ⊢
                rw [← h0, ← e5]
                exact hG
              | 7 =>
                have e5 := h1 5 (by decide)
                try dsimp only at hG ⊢
                rw [← h0, ← e5]
                exact hG
              | 8 =>
                try dsimp only at hG ⊢
                rw [← h0]
                exact hG
              | 9 =>
                have e8 := h1 8 (by decide)
                have e6 := h1 6 (by decide)
                try dsimp only at hG ⊢
                rw [← e6]
                exact hG
              | 10 =>
                have e7 := h1 7 (by decide)
                try dsimp only at hG ⊢
                rw [← h0, ← e7]
                exact hG
              | n + 11 => trivial
            case lasts =>
              intro i hi V L H wx wy hB hH hk
              match i, hi with
              | 0, _ => exact fun h => h
              | 1, _ => exact fun h => h
              | 2, _ => exact fun h => h
              | 3, _ => exact fun h => h
              | 4, _ => exact fun h => h
              | 5, _ => exact fun h => h
              | 6, _ => exact fun h => h
              | 7, _ => exact fun h => h
              | 8, _ => exact fun ⟨hv, hl, hc0, hf0, hc1, hf1, hc2, hf2, hc3, hf3⟩ => ⟨hv, hl, (hk.cell (p := ⟨L, 0, none⟩) (.inr ⟨Nat.le_refl _, hl⟩) (Nat.lt_of_lt_of_le hl hH)).trans hc0, (hk.frozen (p := ⟨L, 0, none⟩) (.inr ⟨Nat.le_refl _, hl⟩) (Nat.lt_of_lt_of_le hl hH)).trans hf0, (hk.cell (p := ⟨L, 1, none⟩) (.inr ⟨Nat.le_refl _, hl⟩) (Nat.lt_of_lt_of_le hl hH)).trans hc1, (hk.frozen (p := ⟨L, 1, none⟩) (.inr ⟨Nat.le_refl _, hl⟩) (Nat.lt_of_lt_of_le hl hH)).trans hf1, (hk.cell (p := ⟨L, 2, none⟩) (.inr ⟨Nat.le_refl _, hl⟩) (Nat.lt_of_lt_of_le hl hH)).trans hc2, (hk.frozen (p := ⟨L, 2, none⟩) (.inr ⟨Nat.le_refl _, hl⟩) (Nat.lt_of_lt_of_le hl hH)).trans hf2, (hk.cell (p := ⟨L, 3, none⟩) (.inr ⟨Nat.le_refl _, hl⟩) (Nat.lt_of_lt_of_le hl hH)).trans hc3, (hk.frozen (p := ⟨L, 3, none⟩) (.inr ⟨Nat.le_refl _, hl⟩) (Nat.lt_of_lt_of_le hl hH)).trans hf3⟩
              | 9, _ => exact fun h x0 x1 x2 x3 hv => ⟨(h x0 x1 x2 x3 hv).1, (hk.cell (p := ⟨L, 0, none⟩) (.inr ⟨Nat.le_refl _, (h x0 x1 x2 x3 hv).1⟩) (Nat.lt_of_lt_of_le (h x0 x1 x2 x3 hv).1 hH)).trans (h x0 x1 x2 x3 hv).2.1, (hk.cell (p := ⟨L, 1, none⟩) (.inr ⟨Nat.le_refl _, (h x0 x1 x2 x3 hv).1⟩) (Nat.lt_of_lt_of_le (h x0 x1 x2 x3 hv).1 hH)).trans (h x0 x1 x2 x3 hv).2.2.1, (hk.cell (p := ⟨L, 2, none⟩) (.inr ⟨Nat.le_refl _, (h x0 x1 x2 x3 hv).1⟩) (Nat.lt_of_lt_of_le (h x0 x1 x2 x3 hv).1 hH)).trans (h x0 x1 x2 x3 hv).2.2.2.1, (hk.cell (p := ⟨L, 3, none⟩) (.inr ⟨Nat.le_refl _, (h x0 x1 x2 x3 hv).1⟩) (Nat.lt_of_lt_of_le (h x0 x1 x2 x3 hv).1 hH)).trans (h x0 x1 x2 x3 hv).2.2.2.2⟩
              | 10, _ => exact fun h => h
              | n + 11, hn => exact absurd hn (by simp)
            case walk =>
              simp only [free, Nat.reduceAdd, Act.put, List.setIfInBounds_toArray, List.set_cons_succ, List.set_cons_zero]
              refine ⟨?_, ?_, ?_, ?_, ?_, ?_, ?_, ?_, ?_, ?_, ?_, ?_⟩
              · intro V L H w10 hb10 hd
                clear hd
                have hst10 : Below w9.heap.size w9 w10 := Below.trans (by repeat (first | (with_reducible exact Below.refl _ _) | (with_reducible apply Below.drew) | (with_reducible refine below_drewN ?_ _) | (refine Below.setCell ?_ (by simp <;> omega) _) | (refine Below.alloc ?_ (by simp <;> omega) _)) : Below w9.heap.size w9 _) (hb10.mono (Below.size (by repeat (first | (with_reducible exact Below.refl _ _) | (with_reducible apply Below.drew) | (with_reducible refine below_drewN ?_ _) | (refine Below.setCell ?_ (by simp <;> omega) _) | (refine Below.alloc ?_ (by simp <;> omega) _)) : Below w9.heap.size w9 _)))
                have sz10_paG : w.heap.size < w10.heap.size := Nat.lt_of_lt_of_le sz9_paG hst10.size
                have bx10_paG_0 : w10.cell? ⟨w.heap.size, 0, none⟩ = some (.slice a0_vG vG.fSymbols.length c0_vG) := (hst10.cell (p := ⟨w.heap.size, 0, none⟩) sz9_paG).trans bx9_paG_0
                have bx10_paG_1 : w10.cell? ⟨w.heap.size, 1, none⟩ = some (.slice a1_vG vG.fRules.length c1_vG) := (hst10.cell (p := ⟨w.heap.size, 1, none⟩) sz9_paG).trans bx9_paG_1
                have sz10_paT : w.heap.size + 1 < w10.heap.size := Nat.lt_of_lt_of_le sz9_paT hst10.size
                have bx10_paT_0 : w10.cell? ⟨w.heap.size + 1, 0, none⟩ = some (.slice a0_vT vT.fNodes.length c0_vT) := (hst10.cell (p := ⟨w.heap.size + 1, 0, none⟩) sz9_paT).trans bx9_paT_0
                have sz10_paX : w.heap.size + 2 < w10.heap.size := Nat.lt_of_lt_of_le sz9_paX hst10.size
                have bx10_paX_0 : w10.cell? ⟨w.heap.size + 2, 0, none⟩ = some (.int .i64 vX.fNode) := (hst10.cell (p := ⟨w.heap.size + 2, 0, none⟩) sz9_paX).trans bx9_paX_0
                have bx10_paX_1 : w10.cell? ⟨w.heap.size + 2, 1, none⟩ = some (.string vX.fName) := (hst10.cell (p := ⟨w.heap.size + 2, 1, none⟩) sz9_paX).trans bx9_paX_1
                have sz10_w0 : bV7 < w10.heap.size := Nat.lt_of_lt_of_le sz9_w0 hst10.size
                have bx10_w0_0 : w10.cell? ⟨bV7, 0, none⟩ = some (.string (attrOf vG vT.fNodes vX).1.fName) := (hst10.cell (p := ⟨bV7, 0, none⟩) sz9_w0).trans bx9_w0_0
                have bx10_w0_1 : w10.cell? ⟨bV7, 1, none⟩ = some (.int .i64 (attrOf vG vT.fNodes vX).1.fType) := (hst10.cell (p := ⟨bV7, 1, none⟩) sz9_w0).trans bx9_w0_1
                have bx10_w0_2 : w10.cell? ⟨bV7, 2, none⟩ = some (.int .i64 (attrOf vG vT.fNodes vX).1.fMode) := (hst10.cell (p := ⟨bV7, 2, none⟩) sz9_w0).trans bx9_w0_2
                have bx10_w0_3 : w10.cell? ⟨bV7, 3, none⟩ = some (.bool (attrOf vG vT.fNodes vX).1.fCircular) := (hst10.cell (p := ⟨bV7, 3, none⟩) sz9_w0).trans bx9_w0_3
                have sz10_x0 : w8.heap.size < w10.heap.size := Nat.lt_of_lt_of_le sz9_x0 hst10.size
                have bx10_x0_0 : w10.cell? ⟨w8.heap.size, 0, none⟩ = some (.slice a0_vG_8 vG.fSymbols.length c0_vG_8) := (hst10.cell (p := ⟨w8.heap.size, 0, none⟩) sz9_x0).trans bx9_x0_0
                have bx10_x0_1 : w10.cell? ⟨w8.heap.size, 1, none⟩ = some (.slice a1_vG_8 vG.fRules.length c1_vG_8) := (hst10.cell (p := ⟨w8.heap.size, 1, none⟩) sz9_x0).trans bx9_x0_1
                have sz10_x1 : w9.heap.size < w10.heap.size := Nat.lt_of_lt_of_le (by first | omega | (simp; done) | (simp; omega) | (simp [World.setCell]; omega)) hb10.size
                have bx10_x1_0 : w10.cell? ⟨w9.heap.size, 0, none⟩ = some (.slice a0_vT_9 vT.fNodes.length c0_vT_9) := (hb10.cell (p := ⟨w9.heap.size, 0, none⟩) (by first | omega | (simp; done) | (simp; omega) | (simp [World.setCell]; omega))).trans (by go_simp)
                have HS10_0_vG := Lib.hid (HS9_0_vG.out.up hst10 (Nat.le_refl _))
                have HS10_1_vG := Lib.hid (HS9_1_vG.out.up hst10 (Nat.le_refl _))
                have HS10_0_vT := Lib.hid (HS9_0_vT.out.up hst10 (Nat.le_refl _))
                have HS10_0_vG_8 := Lib.hid (HS9_0_vG_8.out.up hst10 (Nat.le_refl _))
                have HS10_1_vG_8 := Lib.hid (HS9_1_vG_8.out.up hst10 (Nat.le_refl _))
                have HS10_0_vT_9 := Lib.hid (HS9_0_vT_9.out.up hst10 (Nat.le_refl _))
                have HB10 := Lib.hid (HB9.out.trans (hst10.mono HB9.out.size))
                clear sz9_paG bx9_paG_0 bx9_paG_1 sz9_paT bx9_paT_0 sz9_paX bx9_paX_0 bx9_paX_1 sz9_w0 bx9_w0_0 bx9_w0_1 bx9_w0_2 bx9_w0_3 sz9_x0 bx9_x0_0 bx9_x0_1
                go_wp2_with fail
                exact freePost _ rfl ⟨Below.refl _ _, upd_self⟩
              · intro V L H w10 hb10 hd
                clear hd
                have hst10 : Below w9.heap.size w9 w10 := Below.trans (by repeat (first | (with_reducible exact Below.refl _ _) | (with_reducible apply Below.drew) | (with_reducible refine below_drewN ?_ _) | (refine Below.setCell ?_ (by simp <;> omega) _) | (refine Below.alloc ?_ (by simp <;> omega) _)) : Below w9.heap.size w9 _) (hb10.mono (Below.size (by repeat (first | (with_reducible exact Below.refl _ _) | (with_reducible apply Below.drew) | (with_reducible refine below_drewN ?_ _) | (refine Below.setCell ?_ (by simp <;> omega) _) | (refine Below.alloc ?_ (by simp <;> omega) _)) : Below w9.heap.size w9 _)))
                have sz10_paG : w.heap.size < w10.heap.size := Nat.lt_of_lt_of_le sz9_paG hst10.size
                have bx10_paG_0 : w10.cell? ⟨w.heap.size, 0, none⟩ = some (.slice a0_vG vG.fSymbols.length c0_vG) := (hst10.cell (p := ⟨w.heap.size, 0, none⟩) sz9_paG).trans bx9_paG_0
                have bx10_paG_1 : w10.cell? ⟨w.heap.size, 1, none⟩ = some (.slice a1_vG vG.fRules.length c1_vG) := (hst10.cell (p := ⟨w.heap.size, 1, none⟩) sz9_paG).trans bx9_paG_1
                have sz10_paT : w.heap.size + 1 < w10.heap.size := Nat.lt_of_lt_of_le sz9_paT hst10.size
                have bx10_paT_0 : w10.cell? ⟨w.heap.size + 1, 0, none⟩ = some (.slice a0_vT vT.fNodes.length c0_vT) := (hst10.cell (p := ⟨w.heap.size + 1, 0, none⟩) sz9_paT).trans bx9_paT_0
                have sz10_paX : w.heap.size + 2 < w10.heap.size := Nat.lt_of_lt_of_le sz9_paX hst10.size
                have bx10_paX_0 : w10.cell? ⟨w.heap.size + 2, 0, none⟩ = some (.int .i64 vX.fNode) := (hst10.cell (p := ⟨w.heap.size + 2, 0, none⟩) sz9_paX).trans bx9_paX_0
                have bx10_paX_1 : w10.cell? ⟨w.heap.size + 2, 1, none⟩ = some (.string vX.fName) := (hst10.cell (p := ⟨w.heap.size + 2, 1, none⟩) sz9_paX).trans bx9_paX_1
                have sz10_w0 : bV7 < w10.heap.size := Nat.lt_of_lt_of_le sz9_w0 hst10.size
                have bx10_w0_0 : w10.cell? ⟨bV7, 0, none⟩ = some (.string (attrOf vG vT.fNodes vX).1.fName) := (hst10.cell (p := ⟨bV7, 0, none⟩) sz9_w0).trans bx9_w0_0
                have bx10_w0_1 : w10.cell? ⟨bV7, 1, none⟩ = some (.int .i64 (attrOf vG vT.fNodes vX).1.fType) := (hst10.cell (p := ⟨bV7, 1, none⟩) sz9_w0).trans bx9_w0_1
                have bx10_w0_2 : w10.cell? ⟨bV7, 2, none⟩ = some (.int .i64 (attrOf vG vT.fNodes vX).1.fMode) := (hst10.cell (p := ⟨bV7, 2, none⟩) sz9_w0).trans bx9_w0_2
                have bx10_w0_3 : w10.cell? ⟨bV7, 3, none⟩ = some (.bool (attrOf vG vT.fNodes vX).1.fCircular) := (hst10.cell (p := ⟨bV7, 3, none⟩) sz9_w0).trans bx9_w0_3
                have sz10_x0 : w8.heap.size < w10.heap.size := Nat.lt_of_lt_of_le sz9_x0 hst10.size
                have bx10_x0_0 : w10.cell? ⟨w8.heap.size, 0, none⟩ = some (.slice a0_vG_8 vG.fSymbols.length c0_vG_8) := (hst10.cell (p := ⟨w8.heap.size, 0, none⟩) sz9_x0).trans bx9_x0_0
                have bx10_x0_1 : w10.cell? ⟨w8.heap.size, 1, none⟩ = some (.slice a1_vG_8 vG.fRules.length c1_vG_8) := (hst10.cell (p := ⟨w8.heap.size, 1, none⟩) sz9_x0).trans bx9_x0_1
                have sz10_x1 : w9.heap.size < w10.heap.size := Nat.lt_of_lt_of_le (by first | omega | (simp; done) | (simp; omega) | (simp [World.setCell]; omega)) hb10.size
                have bx10_x1_0 : w10.cell? ⟨w9.heap.size, 0, none⟩ = some (.slice a0_vT_9 vT.fNodes.length c0_vT_9) := (hb10.cell (p := ⟨w9.heap.size, 0, none⟩) (by first | omega | (simp; done) | (simp; omega) | (simp [World.setCell]; omega))).trans (by go_simp)
                have HS10_0_vG := Lib.hid (HS9_0_vG.out.up hst10 (Nat.le_refl _))
                have HS10_1_vG := Lib.hid (HS9_1_vG.out.up hst10 (Nat.le_refl _))
                have HS10_0_vT := Lib.hid (HS9_0_vT.out.up hst10 (Nat.le_refl _))
                have HS10_0_vG_8 := Lib.hid (HS9_0_vG_8.out.up hst10 (Nat.le_refl _))
                have HS10_1_vG_8 := Lib.hid (HS9_1_vG_8.out.up hst10 (Nat.le_refl _))
                have HS10_0_vT_9 := Lib.hid (HS9_0_vT_9.out.up hst10 (Nat.le_refl _))
                have HB10 := Lib.hid (HB9.out.trans (hst10.mono HB9.out.size))
                clear sz9_paG bx9_paG_0 bx9_paG_1 sz9_paT bx9_paT_0 sz9_paX bx9_paX_0 bx9_paX_1 sz9_w0 bx9_w0_0 bx9_w0_1 bx9_w0_2 bx9_w0_3 sz9_x0 bx9_x0_0 bx9_x0_1
                go_wp2_with fail
                exact freePost _ rfl ⟨Below.refl _ _, upd_self⟩
              · intro V L H w10 hb10 hd
                clear hd
                have hst10 : Below w9.heap.size w9 w10 := Below.trans (by repeat (first | (with_reducible exact Below.refl _ _) | (with_reducible apply Below.drew) | (with_reducible refine below_drewN ?_ _) | (refine Below.setCell ?_ (by simp <;> omega) _) | (refine Below.alloc ?_ (by simp <;> omega) _)) : Below w9.heap.size w9 _) (hb10.mono (Below.size (by repeat (first | (with_reducible exact Below.refl _ _) | (with_reducible apply Below.drew) | (with_reducible refine below_drewN ?_ _) | (refine Below.setCell ?_ (by simp <;> omega) _) | (refine Below.alloc ?_ (by simp <;> omega) _)) : Below w9.heap.size w9 _)))
                have sz10_paG : w.heap.size < w10.heap.size := Nat.lt_of_lt_of_le sz9_paG hst10.size
                have bx10_paG_0 : w10.cell? ⟨w.heap.size, 0, none⟩ = some (.slice a0_vG vG.fSymbols.length c0_vG) := (hst10.cell (p := ⟨w.heap.size, 0, none⟩) sz9_paG).trans bx9_paG_0
                have bx10_paG_1 : w10.cell? ⟨w.heap.size, 1, none⟩ = some (.slice a1_vG vG.fRules.length c1_vG) := (hst10.cell (p := ⟨w.heap.size, 1, none⟩) sz9_paG).trans bx9_paG_1
                have sz10_paT : w.heap.size + 1 < w10.heap.size := Nat.lt_of_lt_of_le sz9_paT hst10.size
                have bx10_paT_0 : w10.cell? ⟨w.heap.size + 1, 0, none⟩ = some (.slice a0_vT vT.fNodes.length c0_vT) := (hst10.cell (p := ⟨w.heap.size + 1, 0, none⟩) sz9_paT).trans bx9_paT_0
                have sz10_paX : w.heap.size + 2 < w10.heap.size := Nat.lt_of_lt_of_le sz9_paX hst10.size
                have bx10_paX_0 : w10.cell? ⟨w.heap.size + 2, 0, none⟩ = some (.int .i64 vX.fNode) := (hst10.cell (p := ⟨w.heap.size + 2, 0, none⟩) sz9_paX).trans bx9_paX_0
                have bx10_paX_1 : w10.cell? ⟨w.heap.size + 2, 1, none⟩ = some (.string vX.fName) := (hst10.cell (p := ⟨w.heap.size + 2, 1, none⟩) sz9_paX).trans bx9_paX_1
                have sz10_w0 : bV7 < w10.heap.size := Nat.lt_of_lt_of_le sz9_w0 hst10.size
                have bx10_w0_0 : w10.cell? ⟨bV7, 0, none⟩ = some (.string (attrOf vG vT.fNodes vX).1.fName) := (hst10.cell (p := ⟨bV7, 0, none⟩) sz9_w0).trans bx9_w0_0
                have bx10_w0_1 : w10.cell? ⟨bV7, 1, none⟩ = some (.int .i64 (attrOf vG vT.fNodes vX).1.fType) := (hst10.cell (p := ⟨bV7, 1, none⟩) sz9_w0).trans bx9_w0_1
                have bx10_w0_2 : w10.cell? ⟨bV7, 2, none⟩ = some (.int .i64 (attrOf vG vT.fNodes vX).1.fMode) := (hst10.cell (p := ⟨bV7, 2, none⟩) sz9_w0).trans bx9_w0_2
                have bx10_w0_3 : w10.cell? ⟨bV7, 3, none⟩ = some (.bool (attrOf vG vT.fNodes vX).1.fCircular) := (hst10.cell (p := ⟨bV7, 3, none⟩) sz9_w0).trans bx9_w0_3
                have sz10_x0 : w8.heap.size < w10.heap.size := Nat.lt_of_lt_of_le sz9_x0 hst10.size
                have bx10_x0_0 : w10.cell? ⟨w8.heap.size, 0, none⟩ = some (.slice a0_vG_8 vG.fSymbols.length c0_vG_8) := (hst10.cell (p := ⟨w8.heap.size, 0, none⟩) sz9_x0).trans bx9_x0_0
                have bx10_x0_1 : w10.cell? ⟨w8.heap.size, 1, none⟩ = some (.slice a1_vG_8 vG.fRules.length c1_vG_8) := (hst10.cell (p := ⟨w8.heap.size, 1, none⟩) sz9_x0).trans bx9_x0_1
                have sz10_x1 : w9.heap.size < w10.heap.size := Nat.lt_of_lt_of_le (by first | omega | (simp; done) | (simp; omega) | (simp [World.setCell]; omega)) hb10.size
                have bx10_x1_0 : w10.cell? ⟨w9.heap.size, 0, none⟩ = some (.slice a0_vT_9 vT.fNodes.length c0_vT_9) := (hb10.cell (p := ⟨w9.heap.size, 0, none⟩) (by first | omega | (simp; done) | (simp; omega) | (simp [World.setCell]; omega))).trans (by go_simp)
                have HS10_0_vG := Lib.hid (HS9_0_vG.out.up hst10 (Nat.le_refl _))
                have HS10_1_vG := Lib.hid (HS9_1_vG.out.up hst10 (Nat.le_refl _))
                have HS10_0_vT := Lib.hid (HS9_0_vT.out.up hst10 (Nat.le_refl _))
                have HS10_0_vG_8 := Lib.hid (HS9_0_vG_8.out.up hst10 (Nat.le_refl _))
                have HS10_1_vG_8 := Lib.hid (HS9_1_vG_8.out.up hst10 (Nat.le_refl _))
                have HS10_0_vT_9 := Lib.hid (HS9_0_vT_9.out.up hst10 (Nat.le_refl _))
                have HB10 := Lib.hid (HB9.out.trans (hst10.mono HB9.out.size))
                clear sz9_paG bx9_paG_0 bx9_paG_1 sz9_paT bx9_paT_0 sz9_paX bx9_paX_0 bx9_paX_1 sz9_w0 bx9_w0_0 bx9_w0_1 bx9_w0_2 bx9_w0_3 sz9_x0 bx9_x0_0 bx9_x0_1
                go_wp2_with fail
                exact freePost _ rfl ⟨Below.refl _ _, upd_self⟩
              · intro V L H w10 hb10 hd
                obtain ⟨⟨hL2, hM2, hH2, hv2⟩, -⟩ := hd
                rw [hv2]
                have HV2 := Lib.hid hv2
                clear hv2
                have hst10 : Below w9.heap.size w9 w10 := Below.trans (by repeat (first | (with_reducible exact Below.refl _ _) | (with_reducible apply Below.drew) | (with_reducible refine below_drewN ?_ _) | (refine Below.setCell ?_ (by simp <;> omega) _) | (refine Below.alloc ?_ (by simp <;> omega) _)) : Below w9.heap.size w9 _) (hb10.mono (Below.size (by repeat (first | (with_reducible exact Below.refl _ _) | (with_reducible apply Below.drew) | (with_reducible refine below_drewN ?_ _) | (refine Below.setCell ?_ (by simp <;> omega) _) | (refine Below.alloc ?_ (by simp <;> omega) _)) : Below w9.heap.size w9 _)))
                have sz10_paG : w.heap.size < w10.heap.size := Nat.lt_of_lt_of_le sz9_paG hst10.size
                have bx10_paG_0 : w10.cell? ⟨w.heap.size, 0, none⟩ = some (.slice a0_vG vG.fSymbols.length c0_vG) := (hst10.cell (p := ⟨w.heap.size, 0, none⟩) sz9_paG).trans bx9_paG_0
                have bx10_paG_1 : w10.cell? ⟨w.heap.size, 1, none⟩ = some (.slice a1_vG vG.fRules.length c1_vG) := (hst10.cell (p := ⟨w.heap.size, 1, none⟩) sz9_paG).trans bx9_paG_1
                have sz10_paT : w.heap.size + 1 < w10.heap.size := Nat.lt_of_lt_of_le sz9_paT hst10.size
                have bx10_paT_0 : w10.cell? ⟨w.heap.size + 1, 0, none⟩ = some (.slice a0_vT vT.fNodes.length c0_vT) := (hst10.cell (p := ⟨w.heap.size + 1, 0, none⟩) sz9_paT).trans bx9_paT_0
                have sz10_paX : w.heap.size + 2 < w10.heap.size := Nat.lt_of_lt_of_le sz9_paX hst10.size
                have bx10_paX_0 : w10.cell? ⟨w.heap.size + 2, 0, none⟩ = some (.int .i64 vX.fNode) := (hst10.cell (p := ⟨w.heap.size + 2, 0, none⟩) sz9_paX).trans bx9_paX_0
                have bx10_paX_1 : w10.cell? ⟨w.heap.size + 2, 1, none⟩ = some (.string vX.fName) := (hst10.cell (p := ⟨w.heap.size + 2, 1, none⟩) sz9_paX).trans bx9_paX_1
                have sz10_w0 : bV7 < w10.heap.size := Nat.lt_of_lt_of_le sz9_w0 hst10.size
                have bx10_w0_0 : w10.cell? ⟨bV7, 0, none⟩ = some (.string (attrOf vG vT.fNodes vX).1.fName) := (hst10.cell (p := ⟨bV7, 0, none⟩) sz9_w0).trans bx9_w0_0
                have bx10_w0_1 : w10.cell? ⟨bV7, 1, none⟩ = some (.int .i64 (attrOf vG vT.fNodes vX).1.fType) := (hst10.cell (p := ⟨bV7, 1, none⟩) sz9_w0).trans bx9_w0_1
                have bx10_w0_2 : w10.cell? ⟨bV7, 2, none⟩ = some (.int .i64 (attrOf vG vT.fNodes vX).1.fMode) := (hst10.cell (p := ⟨bV7, 2, none⟩) sz9_w0).trans bx9_w0_2
                have bx10_w0_3 : w10.cell? ⟨bV7, 3, none⟩ = some (.bool (attrOf vG vT.fNodes vX).1.fCircular) := (hst10.cell (p := ⟨bV7, 3, none⟩) sz9_w0).trans bx9_w0_3
                have sz10_x0 : w8.heap.size < w10.heap.size := Nat.lt_of_lt_of_le sz9_x0 hst10.size
                have bx10_x0_0 : w10.cell? ⟨w8.heap.size, 0, none⟩ = some (.slice a0_vG_8 vG.fSymbols.length c0_vG_8) := (hst10.cell (p := ⟨w8.heap.size, 0, none⟩) sz9_x0).trans bx9_x0_0
                have bx10_x0_1 : w10.cell? ⟨w8.heap.size, 1, none⟩ = some (.slice a1_vG_8 vG.fRules.length c1_vG_8) := (hst10.cell (p := ⟨w8.heap.size, 1, none⟩) sz9_x0).trans bx9_x0_1
                have sz10_x1 : w9.heap.size < w10.heap.size := Nat.lt_of_lt_of_le (by first | omega | (simp; done) | (simp; omega) | (simp [World.setCell]; omega)) hb10.size
                have bx10_x1_0 : w10.cell? ⟨w9.heap.size, 0, none⟩ = some (.slice a0_vT_9 vT.fNodes.length c0_vT_9) := (hb10.cell (p := ⟨w9.heap.size, 0, none⟩) (by first | omega | (simp; done) | (simp; omega) | (simp [World.setCell]; omega))).trans (by go_simp)
                have HS10_0_vG := Lib.hid (HS9_0_vG.out.up hst10 (Nat.le_refl _))
                have HS10_1_vG := Lib.hid (HS9_1_vG.out.up hst10 (Nat.le_refl _))
                have HS10_0_vT := Lib.hid (HS9_0_vT.out.up hst10 (Nat.le_refl _))
                have HS10_0_vG_8 := Lib.hid (HS9_0_vG_8.out.up hst10 (Nat.le_refl _))
                have HS10_1_vG_8 := Lib.hid (HS9_1_vG_8.out.up hst10 (Nat.le_refl _))
                have HS10_0_vT_9 := Lib.hid (HS9_0_vT_9.out.up hst10 (Nat.le_refl _))
                have HB10 := Lib.hid (HB9.out.trans (hst10.mono HB9.out.size))
                clear sz9_paG bx9_paG_0 bx9_paG_1 sz9_paT bx9_paT_0 sz9_paX bx9_paX_0 bx9_paX_1 sz9_w0 bx9_w0_0 bx9_w0_1 bx9_w0_2 bx9_w0_3 sz9_x0 bx9_x0_0 bx9_x0_1
                go_wp2_with fail
                refine (laws_toInstance vX _).mono ?_
                rintro e w11 ⟨rfl, hb11⟩
                go_wp2_with fail
                exact freePost _ rfl ⟨hb11, upd_self⟩
              · intro V L H w10 hb10 hd
                obtain ⟨⟨hL0, hM0, hH0, hv0⟩, ⟨hL1, hM1, hH1, hv1⟩, ⟨hL3, hM3, hH3, hv3⟩, -⟩ := hd
                rw [hv0, hv1, hv3]
                have HV0 := Lib.hid hv0
                have HV1 := Lib.hid hv1
                have HV3 := Lib.hid hv3
                clear hv0 hv1 hv3
                have hst10 : Below w9.heap.size w9 w10 := Below.trans (by repeat (first | (with_reducible exact Below.refl _ _) | (with_reducible apply Below.drew) | (with_reducible refine below_drewN ?_ _) | (refine Below.setCell ?_ (by simp <;> omega) _) | (refine Below.alloc ?_ (by simp <;> omega) _)) : Below w9.heap.size w9 _) (hb10.mono (Below.size (by repeat (first | (with_reducible exact Below.refl _ _) | (with_reducible apply Below.drew) | (with_reducible refine below_drewN ?_ _) | (refine Below.setCell ?_ (by simp <;> omega) _) | (refine Below.alloc ?_ (by simp <;> omega) _)) : Below w9.heap.size w9 _)))
                have sz10_paG : w.heap.size < w10.heap.size := Nat.lt_of_lt_of_le sz9_paG hst10.size
                have bx10_paG_0 : w10.cell? ⟨w.heap.size, 0, none⟩ = some (.slice a0_vG vG.fSymbols.length c0_vG) := (hst10.cell (p := ⟨w.heap.size, 0, none⟩) sz9_paG).trans bx9_paG_0
                have bx10_paG_1 : w10.cell? ⟨w.heap.size, 1, none⟩ = some (.slice a1_vG vG.fRules.length c1_vG) := (hst10.cell (p := ⟨w.heap.size, 1, none⟩) sz9_paG).trans bx9_paG_1
                have sz10_paT : w.heap.size + 1 < w10.heap.size := Nat.lt_of_lt_of_le sz9_paT hst10.size
                have bx10_paT_0 : w10.cell? ⟨w.heap.size + 1, 0, none⟩ = some (.slice a0_vT vT.fNodes.length c0_vT) := (hst10.cell (p := ⟨w.heap.size + 1, 0, none⟩) sz9_paT).trans bx9_paT_0
                have sz10_paX : w.heap.size + 2 < w10.heap.size := Nat.lt_of_lt_of_le sz9_paX hst10.size
                have bx10_paX_0 : w10.cell? ⟨w.heap.size + 2, 0, none⟩ = some (.int .i64 vX.fNode) := (hst10.cell (p := ⟨w.heap.size + 2, 0, none⟩) sz9_paX).trans bx9_paX_0
                have bx10_paX_1 : w10.cell? ⟨w.heap.size + 2, 1, none⟩ = some (.string vX.fName) := (hst10.cell (p := ⟨w.heap.size + 2, 1, none⟩) sz9_paX).trans bx9_paX_1
                have sz10_w0 : bV7 < w10.heap.size := Nat.lt_of_lt_of_le sz9_w0 hst10.size
                have bx10_w0_0 : w10.cell? ⟨bV7, 0, none⟩ = some (.string (attrOf vG vT.fNodes vX).1.fName) := (hst10.cell (p := ⟨bV7, 0, none⟩) sz9_w0).trans bx9_w0_0
                have bx10_w0_1 : w10.cell? ⟨bV7, 1, none⟩ = some (.int .i64 (attrOf vG vT.fNodes vX).1.fType) := (hst10.cell (p := ⟨bV7, 1, none⟩) sz9_w0).trans bx9_w0_1
                have bx10_w0_2 : w10.cell? ⟨bV7, 2, none⟩ = some (.int .i64 (attrOf vG vT.fNodes vX).1.fMode) := (hst10.cell (p := ⟨bV7, 2, none⟩) sz9_w0).trans bx9_w0_2
                have bx10_w0_3 : w10.cell? ⟨bV7, 3, none⟩ = some (.bool (attrOf vG vT.fNodes vX).1.fCircular) := (hst10.cell (p := ⟨bV7, 3, none⟩) sz9_w0).trans bx9_w0_3
                have sz10_x0 : w8.heap.size < w10.heap.size := Nat.lt_of_lt_of_le sz9_x0 hst10.size
                have bx10_x0_0 : w10.cell? ⟨w8.heap.size, 0, none⟩ = some (.slice a0_vG_8 vG.fSymbols.length c0_vG_8) := (hst10.cell (p := ⟨w8.heap.size, 0, none⟩) sz9_x0).trans bx9_x0_0
                have bx10_x0_1 : w10.cell? ⟨w8.heap.size, 1, none⟩ = some (.slice a1_vG_8 vG.fRules.length c1_vG_8) := (hst10.cell (p := ⟨w8.heap.size, 1, none⟩) sz9_x0).trans bx9_x0_1
                have sz10_x1 : w9.heap.size < w10.heap.size := Nat.lt_of_lt_of_le (by first | omega | (simp; done) | (simp; omega) | (simp [World.setCell]; omega)) hb10.size
                have bx10_x1_0 : w10.cell? ⟨w9.heap.size, 0, none⟩ = some (.slice a0_vT_9 vT.fNodes.length c0_vT_9) := (hb10.cell (p := ⟨w9.heap.size, 0, none⟩) (by first | omega | (simp; done) | (simp; omega) | (simp [World.setCell]; omega))).trans (by go_simp)
                have HS10_0_vG := Lib.hid (HS9_0_vG.out.up hst10 (Nat.le_refl _))
                have HS10_1_vG := Lib.hid (HS9_1_vG.out.up hst10 (Nat.le_refl _))
                have HS10_0_vT := Lib.hid (HS9_0_vT.out.up hst10 (Nat.le_refl _))
                have HS10_0_vG_8 := Lib.hid (HS9_0_vG_8.out.up hst10 (Nat.le_refl _))
                have HS10_1_vG_8 := Lib.hid (HS9_1_vG_8.out.up hst10 (Nat.le_refl _))
                have HS10_0_vT_9 := Lib.hid (HS9_0_vT_9.out.up hst10 (Nat.le_refl _))
                have HB10 := Lib.hid (HB9.out.trans (hst10.mono HB9.out.size))
                clear sz9_paG bx9_paG_0 bx9_paG_1 sz9_paT bx9_paT_0 sz9_paX bx9_paX_0 bx9_paX_1 sz9_w0 bx9_w0_0 bx9_w0_1 bx9_w0_2 bx9_w0_3 sz9_x0 bx9_x0_0 bx9_x0_1
                go_wp2_with fail
                refine (impl_AttributeOf (c0_0 := c0_vG_8) (c0_1 := c1_vG_8) (c1_0 := c0_vT_9) vG OK_vG.out hq_vG vT OK_vT.out hq_vT vX OK_vX.out hq_vX _ (Below.size (by repeat (first | (with_reducible exact Below.refl _ _) | (with_reducible apply Below.drew) | (with_reducible refine below_drewN ?_ _) | (refine Below.setCell ?_ (by simp <;> omega) _) | (refine Below.alloc ?_ (by simp <;> omega) _)) : Below w10.heap.size w10 _)) (HS10_0_vG_8.out.later (by repeat (first | (with_reducible exact Below.refl _ _) | (with_reducible apply Below.drew) | (with_reducible refine below_drewN ?_ _) | (refine Below.setCell ?_ (by simp <;> omega) _) | (refine Below.alloc ?_ (by simp <;> omega) _)) : Below w10.heap.size w10 _) (Nat.le_refl _)) (HS10_1_vG_8.out.later (by repeat (first | (with_reducible exact Below.refl _ _) | (with_reducible apply Below.drew) | (with_reducible refine below_drewN ?_ _) | (refine Below.setCell ?_ (by simp <;> omega) _) | (refine Below.alloc ?_ (by simp <;> omega) _)) : Below w10.heap.size w10 _) (Nat.le_refl _)) (HS10_0_vT_9.out.later (by repeat (first | (with_reducible exact Below.refl _ _) | (with_reducible apply Below.drew) | (with_reducible refine below_drewN ?_ _) | (refine Below.setCell ?_ (by simp <;> omega) _) | (refine Below.alloc ?_ (by simp <;> omega) _)) : Below w10.heap.size w10 _) (Nat.le_refl _))).mono ?_
                rintro e w11 ⟨rfl, hb11⟩
                go_wp2_with fail
                exact freePost _ rfl ⟨hb11, upd_self⟩
              · intro V L H w10 hb10 hd
                obtain ⟨⟨hL4, hM4, hH4, hv4⟩, -⟩ := hd
                rw [hv4]
                have HV4 := Lib.hid hv4
                clear hv4
                have hst10 : Below w9.heap.size w9 w10 := Below.trans (by repeat (first | (with_reducible exact Below.refl _ _) | (with_reducible apply Below.drew) | (with_reducible refine below_drewN ?_ _) | (refine Below.setCell ?_ (by simp <;> omega) _) | (refine Below.alloc ?_ (by simp <;> omega) _)) : Below w9.heap.size w9 _) (hb10.mono (Below.size (by repeat (first | (with_reducible exact Below.refl _ _) | (with_reducible apply Below.drew) | (with_reducible refine below_drewN ?_ _) | (refine Below.setCell ?_ (by simp <;> omega) _) | (refine Below.alloc ?_ (by simp <;> omega) _)) : Below w9.heap.size w9 _)))
                have HB10 := Lib.hid (HB9.out.trans (hst10.mono HB9.out.size))
                clear sz9_paG bx9_paG_0 bx9_paG_1 sz9_paT bx9_paT_0 sz9_paX bx9_paX_0 bx9_paX_1 sz9_w0 bx9_w0_0 bx9_w0_1 bx9_w0_2 bx9_w0_3 sz9_x0 bx9_x0_0 bx9_x0_1
                go_wp2_with fail
                exact freePost _ rfl ⟨Below.refl _ _, And.intro (upd_self.trans (HV4.out.symm.trans (upd_ne (by decide)).symm)) upd_self⟩
              · intro V L H w10 hb10 hd
                obtain ⟨⟨hL5, hM5, hH5, hv5, hz5⟩, -⟩ := hd
                clear hv5
                rw [hz5]
                have HV5 := Lib.hid hz5
                clear hz5
                have hst10 : Below w9.heap.size w9 w10 := Below.trans (by repeat (first | (with_reducible exact Below.refl _ _) | (with_reducible apply Below.drew) | (with_reducible refine below_drewN ?_ _) | (refine Below.setCell ?_ (by simp <;> omega) _) | (refine Below.alloc ?_ (by simp <;> omega) _)) : Below w9.heap.size w9 _) (hb10.mono (Below.size (by repeat (first | (with_reducible exact Below.refl _ _) | (with_reducible apply Below.drew) | (with_reducible refine below_drewN ?_ _) | (refine Below.setCell ?_ (by simp <;> omega) _) | (refine Below.alloc ?_ (by simp <;> omega) _)) : Below w9.heap.size w9 _)))
                have HB10 := Lib.hid (HB9.out.trans (hst10.mono HB9.out.size))
                clear sz9_paG bx9_paG_0 bx9_paG_1 sz9_paT bx9_paT_0 sz9_paX bx9_paX_0 bx9_paX_1 sz9_w0 bx9_w0_0 bx9_w0_1 bx9_w0_2 bx9_w0_3 sz9_x0 bx9_x0_0 bx9_x0_1
                go_wp2_with fail
                exact freePost _ rfl ⟨Below.refl _ _, And.intro (fun x0 x1 h => by cases (HV5.out.symm.trans ((upd_ne (by decide)).symm.trans h)); exact upd_self) upd_self⟩
              · intro V L H w10 hb10 hd
                obtain ⟨⟨hL5, hM5, hH5, hv5, hz5⟩, -⟩ := hd
                clear hv5
                rw [hz5]
                have HV5 := Lib.hid hz5
                clear hz5
                have hst10 : Below w9.heap.size w9 w10 := Below.trans (by repeat (first | (with_reducible exact Below.refl _ _) | (with_reducible apply Below.drew) | (with_reducible refine below_drewN ?_ _) | (refine Below.setCell ?_ (by simp <;> omega) _) | (refine Below.alloc ?_ (by simp <;> omega) _)) : Below w9.heap.size w9 _) (hb10.mono (Below.size (by repeat (first | (with_reducible exact Below.refl _ _) | (with_reducible apply Below.drew) | (with_reducible refine below_drewN ?_ _) | (refine Below.setCell ?_ (by simp <;> omega) _) | (refine Below.alloc ?_ (by simp <;> omega) _)) : Below w9.heap.size w9 _)))
                have HB10 := Lib.hid (HB9.out.trans (hst10.mono HB9.out.size))
                clear sz9_paG bx9_paG_0 bx9_paG_1 sz9_paT bx9_paT_0 sz9_paX bx9_paX_0 bx9_paX_1 sz9_w0 bx9_w0_0 bx9_w0_1 bx9_w0_2 bx9_w0_3 sz9_x0 bx9_x0_0 bx9_x0_1
                go_wp2_with fail
                exact freePost _ rfl ⟨Below.refl _ _, fun x0 x1 h => by cases (HV5.out.symm.trans ((upd_ne (by decide)).symm.trans h)); exact upd_self⟩
              · intro V L H w10 hb10 hd
                clear hd
                have hst10 : Below w9.heap.size w9 w10 := Below.trans (by repeat (first | (with_reducible exact Below.refl _ _) | (with_reducible apply Below.drew) | (with_reducible refine below_drewN ?_ _) | (refine Below.setCell ?_ (by simp <;> omega) _) | (refine Below.alloc ?_ (by simp <;> omega) _)) : Below w9.heap.size w9 _) (hb10.mono (Below.size (by repeat (first | (with_reducible exact Below.refl _ _) | (with_reducible apply Below.drew) | (with_reducible refine below_drewN ?_ _) | (refine Below.setCell ?_ (by simp <;> omega) _) | (refine Below.alloc ?_ (by simp <;> omega) _)) : Below w9.heap.size w9 _)))
                have HB10 := Lib.hid (HB9.out.trans (hst10.mono HB9.out.size))
                clear sz9_paG bx9_paG_0 bx9_paG_1 sz9_paT bx9_paT_0 sz9_paX bx9_paX_0 bx9_paX_1 sz9_w0 bx9_w0_0 bx9_w0_1 bx9_w0_2 bx9_w0_3 sz9_x0 bx9_x0_0 bx9_x0_1
                go_wp2_with fail
                refine freePost _ rfl ⟨Below.alloc (Below.refl _ _) (Nat.le_refl _) _, upd_self, ?_, ?_, ?_, ?_, ?_, ?_, ?_, ?_, ?_⟩
                · simp
                all_goals go_simp
              · intro V L H w10 hb10 hd
                obtain ⟨⟨hL8, hM8, hH8, hv8, hlt8, hc8_0, hf8_0, hc8_1, hf8_1, hc8_2, hf8_2, hc8_3, hf8_3⟩, ⟨hL6, hM6, hH6, hv6, hz6⟩, -⟩ := hd
                clear hv6
                rw [hv8, hz6]
                have HV8 := Lib.hid hv8
                have HV6 := Lib.hid hz6
                clear hv8 hz6
                have hst10 : Below w9.heap.size w9 w10 := Below.trans (by repeat (first | (with_reducible exact Below.refl _ _) | (with_reducible apply Below.drew) | (with_reducible refine below_drewN ?_ _) | (refine Below.setCell ?_ (by simp <;> omega) _) | (refine Below.alloc ?_ (by simp <;> omega) _)) : Below w9.heap.size w9 _) (hb10.mono (Below.size (by repeat (first | (with_reducible exact Below.refl _ _) | (with_reducible apply Below.drew) | (with_reducible refine below_drewN ?_ _) | (refine Below.setCell ?_ (by simp <;> omega) _) | (refine Below.alloc ?_ (by simp <;> omega) _)) : Below w9.heap.size w9 _)))
                have HB10 := Lib.hid (HB9.out.trans (hst10.mono HB9.out.size))
                clear sz9_paG bx9_paG_0 bx9_paG_1 sz9_paT bx9_paT_0 sz9_paX bx9_paX_0 bx9_paX_1 sz9_w0 bx9_w0_0 bx9_w0_1 bx9_w0_2 bx9_w0_3 sz9_x0 bx9_x0_0 bx9_x0_1
                go_wp2_with fail
                refine freePost undef rfl ⟨(Touches.put (L := L 8) (H := H 8) (Touches.put (L := L 8) (H := H 8) (Touches.put (L := L 8) (H := H 8) (Touches.put (L := L 8) (H := H 8) Touches.refl (p := ⟨L 8, 0, none⟩) ⟨Nat.le_refl _, hlt8⟩ _) (p := ⟨L 8, 1, none⟩) ⟨Nat.le_refl _, hlt8⟩ _) (p := ⟨L 8, 2, none⟩) ⟨Nat.le_refl _, hlt8⟩ _) (p := ⟨L 8, 3, none⟩) ⟨Nat.le_refl _, hlt8⟩ _), fun x0 x1 x2 x3 h => ?_⟩
                cases (HV6.out.symm.trans ((upd_ne (by decide)).symm.trans h))
                refine ⟨hlt8, ?_, ?_, ?_, ?_⟩
                all_goals go_simp
              · intro V L H w10 hb10 hd
                obtain ⟨⟨hL7, hM7, hH7, hv7⟩, -⟩ := hd
                clear hv7
                have hst10 : Below w9.heap.size w9 w10 := Below.trans (by repeat (first | (with_reducible exact Below.refl _ _) | (with_reducible apply Below.drew) | (with_reducible refine below_drewN ?_ _) | (refine Below.setCell ?_ (by simp <;> omega) _) | (refine Below.alloc ?_ (by simp <;> omega) _)) : Below w9.heap.size w9 _) (hb10.mono (Below.size (by repeat (first | (with_reducible exact Below.refl _ _) | (with_reducible apply Below.drew) | (with_reducible refine below_drewN ?_ _) | (refine Below.setCell ?_ (by simp <;> omega) _) | (refine Below.alloc ?_ (by simp <;> omega) _)) : Below w9.heap.size w9 _)))
                have HB10 := Lib.hid (HB9.out.trans (hst10.mono HB9.out.size))
                clear sz9_paG bx9_paG_0 bx9_paG_1 sz9_paT bx9_paT_0 sz9_paX bx9_paX_0 bx9_paX_1 sz9_w0 bx9_w0_0 bx9_w0_1 bx9_w0_2 bx9_w0_3 sz9_x0 bx9_x0_0 bx9_x0_1
                go_wp2_with fail
                exact freePost _ rfl ⟨Below.refl _ _, upd_self.trans (upd_ne (by decide)).symm⟩
              · intro V L H w10 hb10 hd hap hdead
                obtain ⟨⟨hL0, hM0, hH0, hv0⟩, ⟨hL1, hM1, hH1, hv1⟩, ⟨hL2, hM2, hH2, hv2⟩, ⟨hL3, hM3, hH3, hv3⟩, ⟨hL4, hM4, hH4, hv4⟩, ⟨hL5, hM5, hH5, hv5, hz5⟩, ⟨hL6, hM6, hH6, hv6, hz6⟩, ⟨hL7, hM7, hH7, hv7⟩, ⟨hL9, hM9, hH9, hst9_⟩, ⟨hL10, hM10, hH10, hv10⟩, -⟩ := hd
                obtain ⟨hLe, hHe, wo, hva, -⟩ := hdead 9 8 (by decide) rfl
                have hv4' := hv4
                have hv5' := hv5.trans hv4'
                have hv6' := hv6 _ _ hv5'
                have hv7' := hv7 _ _ hv5'
                have hv10' := hv10.trans hv7'
                obtain ⟨hlt, hc0, hc1, hc2, hc3⟩ := hst9_ _ _ _ _ hv6'
                rw [hv0, hv1, hv2, hv4', hv5', hv6', hv7', hv10', hva, hv3]
                clear hv0 hv1 hv2 hv4' hv5' hv6' hv7' hv10' hva hv3 hv4 hv5 hv6 hv7 hv10
                clear hap hdead
                have HLe := Lib.hid hLe
                have HHe := Lib.hid hHe
                clear hLe hHe
                go_wp2_with fail
                go_meet
                have hLe := HLe.out
                have hHe := HHe.out
                have hstE : Below w9.heap.size w9 w10 := Below.trans (by repeat (first | (with_reducible exact Below.refl _ _) | (with_reducible apply Below.drew) | (with_reducible refine below_drewN ?_ _) | (refine Below.setCell ?_ (by simp <;> omega) _) | (refine Below.alloc ?_ (by simp <;> omega) _)) : Below w9.heap.size w9 _) (hb10.mono (Below.size (by repeat (first | (with_reducible exact Below.refl _ _) | (with_reducible apply Below.drew) | (with_reducible refine below_drewN ?_ _) | (refine Below.setCell ?_ (by simp <;> omega) _) | (refine Below.alloc ?_ (by simp <;> omega) _)) : Below w9.heap.size w9 _)))
                have hszE9 := Nat.le_trans (Below.size (by repeat (first | (with_reducible exact Below.refl _ _) | (with_reducible apply Below.drew) | (with_reducible refine below_drewN ?_ _) | (refine Below.setCell ?_ (by simp <;> omega) _) | (refine Below.alloc ?_ (by simp <;> omega) _)) : Below w9.heap.size w9 _)) hL9
                have hszE4 := Nat.le_trans (Below.size (by repeat (first | (with_reducible exact Below.refl _ _) | (with_reducible apply Below.drew) | (with_reducible refine below_drewN ?_ _) | (refine Below.setCell ?_ (by simp <;> omega) _) | (refine Below.alloc ?_ (by simp <;> omega) _)) : Below w9.heap.size w9 _)) hL4
                refine ⟨L 8, rfl, rfl, ?_, ?_, ?_, ?_, ?_, ?_, hstE, Nat.lt_of_lt_of_le (by first | omega | (simp; done) | (simp; omega) | (simp [World.setCell]; omega)) hb10.size, (hb10.cell (p := ⟨w9.heap.size, 0, none⟩) (by first | omega | (simp; done) | (simp; omega) | (simp [World.setCell]; omega))).trans (by go_simp)⟩
                · rw [← hLe]; exact hc0
                · rw [← hLe]; exact hc1
                · rw [← hLe]; exact hc2
                · rw [← hLe]; exact hc3
                · omega
                · omega
          case rest =>
            obtain ⟨bV11, rfl, rfl, bx11_g0_0, bx11_g0_1, bx11_g0_2, bx11_g0_3, sz11_g0, hB11, hb11, sz11_x1, bx11_x1_0⟩ := hcut
            obtain ⟨w11, rfl⟩ : ∃ w_ : World, w_ = wc := ⟨_, rfl⟩
            have sz11_paG : w.heap.size < w11.heap.size := Nat.lt_of_lt_of_le sz9_paG hb11.size
            have bx11_paG_0 : w11.cell? ⟨w.heap.size, 0, none⟩ = some (.slice a0_vG vG.fSymbols.length c0_vG) := (hb11.cell (p := ⟨w.heap.size, 0, none⟩) sz9_paG).trans bx9_paG_0
            have bx11_paG_1 : w11.cell? ⟨w.heap.size, 1, none⟩ = some (.slice a1_vG vG.fRules.length c1_vG) := (hb11.cell (p := ⟨w.heap.size, 1, none⟩) sz9_paG).trans bx9_paG_1
            have sz11_paT : w.heap.size + 1 < w11.heap.size := Nat.lt_of_lt_of_le sz9_paT hb11.size
            have bx11_paT_0 : w11.cell? ⟨w.heap.size + 1, 0, none⟩ = some (.slice a0_vT vT.fNodes.length c0_vT) := (hb11.cell (p := ⟨w.heap.size + 1, 0, none⟩) sz9_paT).trans bx9_paT_0
            have sz11_paX : w.heap.size + 2 < w11.heap.size := Nat.lt_of_lt_of_le sz9_paX hb11.size
            have bx11_paX_0 : w11.cell? ⟨w.heap.size + 2, 0, none⟩ = some (.int .i64 vX.fNode) := (hb11.cell (p := ⟨w.heap.size + 2, 0, none⟩) sz9_paX).trans bx9_paX_0
            have bx11_paX_1 : w11.cell? ⟨w.heap.size + 2, 1, none⟩ = some (.string vX.fName) := (hb11.cell (p := ⟨w.heap.size + 2, 1, none⟩) sz9_paX).trans bx9_paX_1
            have sz11_w0 : bV7 < w11.heap.size := Nat.lt_of_lt_of_le sz9_w0 hb11.size
            have bx11_w0_0 : w11.cell? ⟨bV7, 0, none⟩ = some (.string (attrOf vG vT.fNodes vX).1.fName) := (hb11.cell (p := ⟨bV7, 0, none⟩) sz9_w0).trans bx9_w0_0
            have bx11_w0_1 : w11.cell? ⟨bV7, 1, none⟩ = some (.int .i64 (attrOf vG vT.fNodes vX).1.fType) := (hb11.cell (p := ⟨bV7, 1, none⟩) sz9_w0).trans bx9_w0_1
            have bx11_w0_2 : w11.cell? ⟨bV7, 2, none⟩ = some (.int .i64 (attrOf vG vT.fNodes vX).1.fMode) := (hb11.cell (p := ⟨bV7, 2, none⟩) sz9_w0).trans bx9_w0_2
            have bx11_w0_3 : w11.cell? ⟨bV7, 3, none⟩ = some (.bool (attrOf vG vT.fNodes vX).1.fCircular) := (hb11.cell (p := ⟨bV7, 3, none⟩) sz9_w0).trans bx9_w0_3
            have sz11_x0 : w8.heap.size < w11.heap.size := Nat.lt_of_lt_of_le sz9_x0 hb11.size
            have bx11_x0_0 : w11.cell? ⟨w8.heap.size, 0, none⟩ = some (.slice a0_vG_8 vG.fSymbols.length c0_vG_8) := (hb11.cell (p := ⟨w8.heap.size, 0, none⟩) sz9_x0).trans bx9_x0_0
            have bx11_x0_1 : w11.cell? ⟨w8.heap.size, 1, none⟩ = some (.slice a1_vG_8 vG.fRules.length c1_vG_8) := (hb11.cell (p := ⟨w8.heap.size, 1, none⟩) sz9_x0).trans bx9_x0_1
            have HS11_0_vG := Lib.hid (HS9_0_vG.out.up hb11 (Nat.le_refl _))
            have HS11_1_vG := Lib.hid (HS9_1_vG.out.up hb11 (Nat.le_refl _))
            have HS11_0_vT := Lib.hid (HS9_0_vT.out.up hb11 (Nat.le_refl _))
            have HS11_0_vG_8 := Lib.hid (HS9_0_vG_8.out.up hb11 (Nat.le_refl _))
            have HS11_1_vG_8 := Lib.hid (HS9_1_vG_8.out.up hb11 (Nat.le_refl _))
            have HS11_0_vT_9 := Lib.hid (HS9_0_vT_9.out.up hb11 (Nat.le_refl _))
            have HB11 := Lib.hid (HB9.out.trans (hb11.mono HB9.out.size))
            clear hb11 bx9_paG_0 bx9_paG_1 sz9_paG bx9_paT_0 sz9_paT bx9_paX_0 bx9_paX_1 sz9_paX bx9_w0_0 bx9_w0_1 bx9_w0_2 bx9_w0_3 sz9_w0 bx9_x0_0 bx9_x0_1 sz9_x0 HS9_0_vG HS9_1_vG HS9_0_vT HS9_0_vG_8 HS9_1_vG_8 HS9_0_vT_9 HB9
            go_wp2_with fail
            refine (laws_eqAttribute (attrOf vG vT.fNodes vX).1 _).mono ?_
            rintro e w12 ⟨rfl, hb12⟩
            have hst12 : Below w11.heap.size w11 w12 := Below.trans (by repeat (first | (with_reducible exact Below.refl _ _) | (with_reducible apply Below.drew) | (with_reducible refine below_drewN ?_ _) | (refine Below.setCell ?_ (by simp <;> omega) _) | (refine Below.alloc ?_ (by simp <;> omega) _)) : Below w11.heap.size w11 _) (hb12.mono (Below.size (by repeat (first | (with_reducible exact Below.refl _ _) | (with_reducible apply Below.drew) | (with_reducible refine below_drewN ?_ _) | (refine Below.setCell ?_ (by simp <;> omega) _) | (refine Below.alloc ?_ (by simp <;> omega) _)) : Below w11.heap.size w11 _)))
            have sz12_paG : w.heap.size < w12.heap.size := Nat.lt_of_lt_of_le sz11_paG hst12.size
            have bx12_paG_0 : w12.cell? ⟨w.heap.size, 0, none⟩ = some (.slice a0_vG vG.fSymbols.length c0_vG) := (hst12.cell (p := ⟨w.heap.size, 0, none⟩) sz11_paG).trans bx11_paG_0
            have bx12_paG_1 : w12.cell? ⟨w.heap.size, 1, none⟩ = some (.slice a1_vG vG.fRules.length c1_vG) := (hst12.cell (p := ⟨w.heap.size, 1, none⟩) sz11_paG).trans bx11_paG_1
            have sz12_paT : w.heap.size + 1 < w12.heap.size := Nat.lt_of_lt_of_le sz11_paT hst12.size
            have bx12_paT_0 : w12.cell? ⟨w.heap.size + 1, 0, none⟩ = some (.slice a0_vT vT.fNodes.length c0_vT) := (hst12.cell (p := ⟨w.heap.size + 1, 0, none⟩) sz11_paT).trans bx11_paT_0
            have sz12_paX : w.heap.size + 2 < w12.heap.size := Nat.lt_of_lt_of_le sz11_paX hst12.size
            have bx12_paX_0 : w12.cell? ⟨w.heap.size + 2, 0, none⟩ = some (.int .i64 vX.fNode) := (hst12.cell (p := ⟨w.heap.size + 2, 0, none⟩) sz11_paX).trans bx11_paX_0
            have bx12_paX_1 : w12.cell? ⟨w.heap.size + 2, 1, none⟩ = some (.string vX.fName) := (hst12.cell (p := ⟨w.heap.size + 2, 1, none⟩) sz11_paX).trans bx11_paX_1
            have sz12_w0 : bV7 < w12.heap.size := Nat.lt_of_lt_of_le sz11_w0 hst12.size
            have bx12_w0_0 : w12.cell? ⟨bV7, 0, none⟩ = some (.string (attrOf vG vT.fNodes vX).1.fName) := (hst12.cell (p := ⟨bV7, 0, none⟩) sz11_w0).trans bx11_w0_0
            have bx12_w0_1 : w12.cell? ⟨bV7, 1, none⟩ = some (.int .i64 (attrOf vG vT.fNodes vX).1.fType) := (hst12.cell (p := ⟨bV7, 1, none⟩) sz11_w0).trans bx11_w0_1
            have bx12_w0_2 : w12.cell? ⟨bV7, 2, none⟩ = some (.int .i64 (attrOf vG vT.fNodes vX).1.fMode) := (hst12.cell (p := ⟨bV7, 2, none⟩) sz11_w0).trans bx11_w0_2
            have bx12_w0_3 : w12.cell? ⟨bV7, 3, none⟩ = some (.bool (attrOf vG vT.fNodes vX).1.fCircular) := (hst12.cell (p := ⟨bV7, 3, none⟩) sz11_w0).trans bx11_w0_3
            have sz12_x0 : w8.heap.size < w12.heap.size := Nat.lt_of_lt_of_le sz11_x0 hst12.size
            have bx12_x0_0 : w12.cell? ⟨w8.heap.size, 0, none⟩ = some (.slice a0_vG_8 vG.fSymbols.length c0_vG_8) := (hst12.cell (p := ⟨w8.heap.size, 0, none⟩) sz11_x0).trans bx11_x0_0
            have bx12_x0_1 : w12.cell? ⟨w8.heap.size, 1, none⟩ = some (.slice a1_vG_8 vG.fRules.length c1_vG_8) := (hst12.cell (p := ⟨w8.heap.size, 1, none⟩) sz11_x0).trans bx11_x0_1
            have sz12_x1 : w9.heap.size < w12.heap.size := Nat.lt_of_lt_of_le sz11_x1 hst12.size
            have bx12_x1_0 : w12.cell? ⟨w9.heap.size, 0, none⟩ = some (.slice a0_vT_9 vT.fNodes.length c0_vT_9) := (hst12.cell (p := ⟨w9.heap.size, 0, none⟩) sz11_x1).trans bx11_x1_0
            have sz12_g0 : bV11 < w12.heap.size := Nat.lt_of_lt_of_le sz11_g0 hst12.size
            have bx12_g0_0 : w12.cell? ⟨bV11, 0, none⟩ = some (.string (attrOf vG vT.fNodes vX).1.fName) := (hst12.cell (p := ⟨bV11, 0, none⟩) sz11_g0).trans bx11_g0_0
            have bx12_g0_1 : w12.cell? ⟨bV11, 1, none⟩ = some (.int .i64 (attrOf vG vT.fNodes vX).1.fType) := (hst12.cell (p := ⟨bV11, 1, none⟩) sz11_g0).trans bx11_g0_1
            have bx12_g0_2 : w12.cell? ⟨bV11, 2, none⟩ = some (.int .i64 (attrOf vG vT.fNodes vX).1.fMode) := (hst12.cell (p := ⟨bV11, 2, none⟩) sz11_g0).trans bx11_g0_2
            have bx12_g0_3 : w12.cell? ⟨bV11, 3, none⟩ = some (.bool (attrOf vG vT.fNodes vX).1.fCircular) := (hst12.cell (p := ⟨bV11, 3, none⟩) sz11_g0).trans bx11_g0_3
            have HS12_0_vG := Lib.hid (HS11_0_vG.out.up hst12 (Nat.le_refl _))
            have HS12_1_vG := Lib.hid (HS11_1_vG.out.up hst12 (Nat.le_refl _))
            have HS12_0_vT := Lib.hid (HS11_0_vT.out.up hst12 (Nat.le_refl _))
            have HS12_0_vG_8 := Lib.hid (HS11_0_vG_8.out.up hst12 (Nat.le_refl _))
            have HS12_1_vG_8 := Lib.hid (HS11_1_vG_8.out.up hst12 (Nat.le_refl _))
            have HS12_0_vT_9 := Lib.hid (HS11_0_vT_9.out.up hst12 (Nat.le_refl _))
            have HB12 := Lib.hid (HB11.out.trans (hst12.mono HB11.out.size))
            clear bx11_paG_0 bx11_paG_1 sz11_paG bx11_paT_0 sz11_paT bx11_paX_0 bx11_paX_1 sz11_paX bx11_w0_0 bx11_w0_1 bx11_w0_2 bx11_w0_3 sz11_w0 bx11_x0_0 bx11_x0_1 sz11_x0 bx11_x1_0 sz11_x1 bx11_g0_0 bx11_g0_1 bx11_g0_2 bx11_g0_3 sz11_g0 HS11_0_vG HS11_1_vG HS11_0_vT HS11_0_vG_8 HS11_1_vG_8 HS11_0_vT_9 hb12 hst12 HB11
            go_wp2_with fail
            go_region_with ((first | (go_at_call 8; refine (laws_toGrammar (c0 := c0_vG) (c1 := c1_vG) vG hq_vG _ (Below.size (by repeat (first | (with_reducible exact Below.refl _ _) | (with_reducible apply Below.drew) | (with_reducible refine below_drewN ?_ _) | (refine Below.setCell ?_ (by simp <;> omega) _) | (refine Below.alloc ?_ (by simp <;> omega) _)) : Below w12.heap.size w12 _)) (HS12_0_vG.out.later (by repeat (first | (with_reducible exact Below.refl _ _) | (with_reducible apply Below.drew) | (with_reducible refine below_drewN ?_ _) | (refine Below.setCell ?_ (by simp <;> omega) _) | (refine Below.alloc ?_ (by simp <;> omega) _)) : Below w12.heap.size w12 _) (Nat.le_refl _)) (HS12_1_vG.out.later (by repeat (first | (with_reducible exact Below.refl _ _) | (with_reducible apply Below.drew) | (with_reducible refine below_drewN ?_ _) | (refine Below.setCell ?_ (by simp <;> omega) _) | (refine Below.alloc ?_ (by simp <;> omega) _)) : Below w12.heap.size w12 _) (Nat.le_refl _))).mono ?_; rintro e w13 ⟨a0_vG_13, c0_vG_13, a1_vG_13, c1_vG_13, rfl, ho13, hb13⟩; have hst13 : Below w12.heap.size w12 w13 := Below.trans (by repeat (first | (with_reducible exact Below.refl _ _) | (with_reducible apply Below.drew) | (with_reducible refine below_drewN ?_ _) | (refine Below.setCell ?_ (by simp <;> omega) _) | (refine Below.alloc ?_ (by simp <;> omega) _)) : Below w12.heap.size w12 _) (hb13.mono (Below.size (by repeat (first | (with_reducible exact Below.refl _ _) | (with_reducible apply Below.drew) | (with_reducible refine below_drewN ?_ _) | (refine Below.setCell ?_ (by simp <;> omega) _) | (refine Below.alloc ?_ (by simp <;> omega) _)) : Below w12.heap.size w12 _))); have sz13_paG : w.heap.size < w13.heap.size := Nat.lt_of_lt_of_le sz12_paG hst13.size; have bx13_paG_0 : w13.cell? ⟨w.heap.size, 0, none⟩ = some (.slice a0_vG vG.fSymbols.length c0_vG) := (hst13.cell (p := ⟨w.heap.size, 0, none⟩) sz12_paG).trans bx12_paG_0; have bx13_paG_1 : w13.cell? ⟨w.heap.size, 1, none⟩ = some (.slice a1_vG vG.fRules.length c1_vG) := (hst13.cell (p := ⟨w.heap.size, 1, none⟩) sz12_paG).trans bx12_paG_1; have sz13_paT : w.heap.size + 1 < w13.heap.size := Nat.lt_of_lt_of_le sz12_paT hst13.size; have bx13_paT_0 : w13.cell? ⟨w.heap.size + 1, 0, none⟩ = some (.slice a0_vT vT.fNodes.length c0_vT) := (hst13.cell (p := ⟨w.heap.size + 1, 0, none⟩) sz12_paT).trans bx12_paT_0; have sz13_paX : w.heap.size + 2 < w13.heap.size := Nat.lt_of_lt_of_le sz12_paX hst13.size; have bx13_paX_0 : w13.cell? ⟨w.heap.size + 2, 0, none⟩ = some (.int .i64 vX.fNode) := (hst13.cell (p := ⟨w.heap.size + 2, 0, none⟩) sz12_paX).trans bx12_paX_0; have bx13_paX_1 : w13.cell? ⟨w.heap.size + 2, 1, none⟩ = some (.string vX.fName) := (hst13.cell (p := ⟨w.heap.size + 2, 1, none⟩) sz12_paX).trans bx12_paX_1; have sz13_w0 : bV7 < w13.heap.size := Nat.lt_of_lt_of_le sz12_w0 hst13.size; have bx13_w0_0 : w13.cell? ⟨bV7, 0, none⟩ = some (.string (attrOf vG vT.fNodes vX).1.fName) := (hst13.cell (p := ⟨bV7, 0, none⟩) sz12_w0).trans bx12_w0_0; have bx13_w0_1 : w13.cell? ⟨bV7, 1, none⟩ = some (.int .i64 (attrOf vG vT.fNodes vX).1.fType) := (hst13.cell (p := ⟨bV7, 1, none⟩) sz12_w0).trans bx12_w0_1; have bx13_w0_2 : w13.cell? ⟨bV7, 2, none⟩ = some (.int .i64 (attrOf vG vT.fNodes vX).1.fMode) := (hst13.cell (p := ⟨bV7, 2, none⟩) sz12_w0).trans bx12_w0_2; have bx13_w0_3 : w13.cell? ⟨bV7, 3, none⟩ = some (.bool (attrOf vG vT.fNodes vX).1.fCircular) := (hst13.cell (p := ⟨bV7, 3, none⟩) sz12_w0).trans bx12_w0_3; have sz13_x0 : w8.heap.size < w13.heap.size := Nat.lt_of_lt_of_le sz12_x0 hst13.size; have bx13_x0_0 : w13.cell? ⟨w8.heap.size, 0, none⟩ = some (.slice a0_vG_8 vG.fSymbols.length c0_vG_8) := (hst13.cell (p := ⟨w8.heap.size, 0, none⟩) sz12_x0).trans bx12_x0_0; have bx13_x0_1 : w13.cell? ⟨w8.heap.size, 1, none⟩ = some (.slice a1_vG_8 vG.fRules.length c1_vG_8) := (hst13.cell (p := ⟨w8.heap.size, 1, none⟩) sz12_x0).trans bx12_x0_1; have sz13_x1 : w9.heap.size < w13.heap.size := Nat.lt_of_lt_of_le sz12_x1 hst13.size; have bx13_x1_0 : w13.cell? ⟨w9.heap.size, 0, none⟩ = some (.slice a0_vT_9 vT.fNodes.length c0_vT_9) := (hst13.cell (p := ⟨w9.heap.size, 0, none⟩) sz12_x1).trans bx12_x1_0; have sz13_g0 : bV11 < w13.heap.size := Nat.lt_of_lt_of_le sz12_g0 hst13.size; have bx13_g0_0 : w13.cell? ⟨bV11, 0, none⟩ = some (.string (attrOf vG vT.fNodes vX).1.fName) := (hst13.cell (p := ⟨bV11, 0, none⟩) sz12_g0).trans bx12_g0_0; have bx13_g0_1 : w13.cell? ⟨bV11, 1, none⟩ = some (.int .i64 (attrOf vG vT.fNodes vX).1.fType) := (hst13.cell (p := ⟨bV11, 1, none⟩) sz12_g0).trans bx12_g0_1; have bx13_g0_2 : w13.cell? ⟨bV11, 2, none⟩ = some (.int .i64 (attrOf vG vT.fNodes vX).1.fMode) := (hst13.cell (p := ⟨bV11, 2, none⟩) sz12_g0).trans bx12_g0_2; have bx13_g0_3 : w13.cell? ⟨bV11, 3, none⟩ = some (.bool (attrOf vG vT.fNodes vX).1.fCircular) := (hst13.cell (p := ⟨bV11, 3, none⟩) sz12_g0).trans bx12_g0_3; have HS13_0_vG := Lib.hid (HS12_0_vG.out.up hst13 (Nat.le_refl _)); have HS13_1_vG := Lib.hid (HS12_1_vG.out.up hst13 (Nat.le_refl _)); have HS13_0_vT := Lib.hid (HS12_0_vT.out.up hst13 (Nat.le_refl _)); have HS13_0_vG_8 := Lib.hid (HS12_0_vG_8.out.up hst13 (Nat.le_refl _)); have HS13_1_vG_8 := Lib.hid (HS12_1_vG_8.out.up hst13 (Nat.le_refl _)); have HS13_0_vT_9 := Lib.hid (HS12_0_vT_9.out.up hst13 (Nat.le_refl _)); have HS13_0_vG_13 := Lib.hid (show Sl 0 w13.heap.size w13 2 vG.fSymbols.length (fun k => DSymbol.ct (vG.fSymbols.getD k default)) a0_vG_13 from Sl.of (cap := c0_vG_13) (l := vG.fSymbols.length) (a := a0_vG_13) (ho13.lies (lo := 0) (hi := w13.heap.size) (fun y hy => ⟨Nat.zero_le _, hy.2⟩) 0 (by decide))); have HS13_1_vG_13 := Lib.hid (show Sl 0 w13.heap.size w13 6 vG.fRules.length (fun k => DRule.ct (vG.fRules.getD k default)) a1_vG_13 from Sl.of (cap := c1_vG_13) (l := vG.fRules.length) (a := a1_vG_13) (ho13.lies (lo := 0) (hi := w13.heap.size) (fun y hy => ⟨Nat.zero_le _, hy.2⟩) 1 (by decide))); have HB13 := Lib.hid (HB12.out.trans (hst13.mono HB12.out.size)); clear bx12_paG_0 bx12_paG_1 sz12_paG bx12_paT_0 sz12_paT bx12_paX_0 bx12_paX_1 sz12_paX bx12_w0_0 bx12_w0_1 bx12_w0_2 bx12_w0_3 sz12_w0 bx12_x0_0 bx12_x0_1 sz12_x0 bx12_x1_0 sz12_x1 bx12_g0_0 bx12_g0_1 bx12_g0_2 bx12_g0_3 sz12_g0 HS12_0_vG HS12_1_vG HS12_0_vT HS12_0_vG_8 HS12_1_vG_8 HS12_0_vT_9 ho13 hb13 hst13 HB12) | (go_at_call 13; refine (laws_eqGrammar (c0 := c0_vG_8) (c1 := c1_vG_8) (c0q := c0_vG_13) (c1q := c1_vG_13) vG hq_vG _ (Below.size (by repeat (first | (with_reducible exact Below.refl _ _) | (with_reducible apply Below.drew) | (with_reducible refine below_drewN ?_ _) | (refine Below.setCell ?_ (by simp <;> omega) _) | (refine Below.alloc ?_ (by simp <;> omega) _)) : Below w13.heap.size w13 _)) (Below.size (by repeat (first | (with_reducible exact Below.refl _ _) | (with_reducible apply Below.drew) | (with_reducible refine below_drewN ?_ _) | (refine Below.setCell ?_ (by simp <;> omega) _) | (refine Below.alloc ?_ (by simp <;> omega) _)) : Below w13.heap.size w13 _)) (HS13_0_vG_8.out.later (by repeat (first | (with_reducible exact Below.refl _ _) | (with_reducible apply Below.drew) | (with_reducible refine below_drewN ?_ _) | (refine Below.setCell ?_ (by simp <;> omega) _) | (refine Below.alloc ?_ (by simp <;> omega) _)) : Below w13.heap.size w13 _) (Nat.le_refl _)) (HS13_1_vG_8.out.later (by repeat (first | (with_reducible exact Below.refl _ _) | (with_reducible apply Below.drew) | (with_reducible refine below_drewN ?_ _) | (refine Below.setCell ?_ (by simp <;> omega) _) | (refine Below.alloc ?_ (by simp <;> omega) _)) : Below w13.heap.size w13 _) (Nat.le_refl _)) (HS13_0_vG_13.out.later (by repeat (first | (with_reducible exact Below.refl _ _) | (with_reducible apply Below.drew) | (with_reducible refine below_drewN ?_ _) | (refine Below.setCell ?_ (by simp <;> omega) _) | (refine Below.alloc ?_ (by simp <;> omega) _)) : Below w13.heap.size w13 _) (Nat.le_refl _)) (HS13_1_vG_13.out.later (by repeat (first | (with_reducible exact Below.refl _ _) | (with_reducible apply Below.drew) | (with_reducible refine below_drewN ?_ _) | (refine Below.setCell ?_ (by simp <;> omega) _) | (refine Below.alloc ?_ (by simp <;> omega) _)) : Below w13.heap.size w13 _) (Nat.le_refl _))).mono ?_; rintro e w14 ⟨rfl, hb14⟩; have hst14 : Below w13.heap.size w13 w14 := Below.trans (by repeat (first | (with_reducible exact Below.refl _ _) | (with_reducible apply Below.drew) | (with_reducible refine below_drewN ?_ _) | (refine Below.setCell ?_ (by simp <;> omega) _) | (refine Below.alloc ?_ (by simp <;> omega) _)) : Below w13.heap.size w13 _) (hb14.mono (Below.size (by repeat (first | (with_reducible exact Below.refl _ _) | (with_reducible apply Below.drew) | (with_reducible refine below_drewN ?_ _) | (refine Below.setCell ?_ (by simp <;> omega) _) | (refine Below.alloc ?_ (by simp <;> omega) _)) : Below w13.heap.size w13 _))); have sz14_paG : w.heap.size < w14.heap.size := Nat.lt_of_lt_of_le sz13_paG hst14.size; have bx14_paG_0 : w14.cell? ⟨w.heap.size, 0, none⟩ = some (.slice a0_vG vG.fSymbols.length c0_vG) := (hst14.cell (p := ⟨w.heap.size, 0, none⟩) sz13_paG).trans bx13_paG_0; have bx14_paG_1 : w14.cell? ⟨w.heap.size, 1, none⟩ = some (.slice a1_vG vG.fRules.length c1_vG) := (hst14.cell (p := ⟨w.heap.size, 1, none⟩) sz13_paG).trans bx13_paG_1; have sz14_paT : w.heap.size + 1 < w14.heap.size := Nat.lt_of_lt_of_le sz13_paT hst14.size; have bx14_paT_0 : w14.cell? ⟨w.heap.size + 1, 0, none⟩ = some (.slice a0_vT vT.fNodes.length c0_vT) := (hst14.cell (p := ⟨w.heap.size + 1, 0, none⟩) sz13_paT).trans bx13_paT_0; have sz14_paX : w.heap.size + 2 < w14.heap.size := Nat.lt_of_lt_of_le sz13_paX hst14.size; have bx14_paX_0 : w14.cell? ⟨w.heap.size + 2, 0, none⟩ = some (.int .i64 vX.fNode) := (hst14.cell (p := ⟨w.heap.size + 2, 0, none⟩) sz13_paX).trans bx13_paX_0; have bx14_paX_1 : w14.cell? ⟨w.heap.size + 2, 1, none⟩ = some (.string vX.fName) := (hst14.cell (p := ⟨w.heap.size + 2, 1, none⟩) sz13_paX).trans bx13_paX_1; have sz14_w0 : bV7 < w14.heap.size := Nat.lt_of_lt_of_le sz13_w0 hst14.size; have bx14_w0_0 : w14.cell? ⟨bV7, 0, none⟩ = some (.string (attrOf vG vT.fNodes vX).1.fName) := (hst14.cell (p := ⟨bV7, 0, none⟩) sz13_w0).trans bx13_w0_0; have bx14_w0_1 : w14.cell? ⟨bV7, 1, none⟩ = some (.int .i64 (attrOf vG vT.fNodes vX).1.fType) := (hst14.cell (p := ⟨bV7, 1, none⟩) sz13_w0).trans bx13_w0_1; have bx14_w0_2 : w14.cell? ⟨bV7, 2, none⟩ = some (.int .i64 (attrOf vG vT.fNodes vX).1.fMode) := (hst14.cell (p := ⟨bV7, 2, none⟩) sz13_w0).trans bx13_w0_2; have bx14_w0_3 : w14.cell? ⟨bV7, 3, none⟩ = some (.bool (attrOf vG vT.fNodes vX).1.fCircular) := (hst14.cell (p := ⟨bV7, 3, none⟩) sz13_w0).trans bx13_w0_3; have sz14_x0 : w8.heap.size < w14.heap.size := Nat.lt_of_lt_of_le sz13_x0 hst14.size; have bx14_x0_0 : w14.cell? ⟨w8.heap.size, 0, none⟩ = some (.slice a0_vG_8 vG.fSymbols.length c0_vG_8) := (hst14.cell (p := ⟨w8.heap.size, 0, none⟩) sz13_x0).trans bx13_x0_0; have bx14_x0_1 : w14.cell? ⟨w8.heap.size, 1, none⟩ = some (.slice a1_vG_8 vG.fRules.length c1_vG_8) := (hst14.cell (p := ⟨w8.heap.size, 1, none⟩) sz13_x0).trans bx13_x0_1; have sz14_x1 : w9.heap.size < w14.heap.size := Nat.lt_of_lt_of_le sz13_x1 hst14.size; have bx14_x1_0 : w14.cell? ⟨w9.heap.size, 0, none⟩ = some (.slice a0_vT_9 vT.fNodes.length c0_vT_9) := (hst14.cell (p := ⟨w9.heap.size, 0, none⟩) sz13_x1).trans bx13_x1_0; have sz14_g0 : bV11 < w14.heap.size := Nat.lt_of_lt_of_le sz13_g0 hst14.size; have bx14_g0_0 : w14.cell? ⟨bV11, 0, none⟩ = some (.string (attrOf vG vT.fNodes vX).1.fName) := (hst14.cell (p := ⟨bV11, 0, none⟩) sz13_g0).trans bx13_g0_0; have bx14_g0_1 : w14.cell? ⟨bV11, 1, none⟩ = some (.int .i64 (attrOf vG vT.fNodes vX).1.fType) := (hst14.cell (p := ⟨bV11, 1, none⟩) sz13_g0).trans bx13_g0_1; have bx14_g0_2 : w14.cell? ⟨bV11, 2, none⟩ = some (.int .i64 (attrOf vG vT.fNodes vX).1.fMode) := (hst14.cell (p := ⟨bV11, 2, none⟩) sz13_g0).trans bx13_g0_2; have bx14_g0_3 : w14.cell? ⟨bV11, 3, none⟩ = some (.bool (attrOf vG vT.fNodes vX).1.fCircular) := (hst14.cell (p := ⟨bV11, 3, none⟩) sz13_g0).trans bx13_g0_3; have HS14_0_vG := Lib.hid (HS13_0_vG.out.up hst14 (Nat.le_refl _)); have HS14_1_vG := Lib.hid (HS13_1_vG.out.up hst14 (Nat.le_refl _)); have HS14_0_vT := Lib.hid (HS13_0_vT.out.up hst14 (Nat.le_refl _)); have HS14_0_vG_8 := Lib.hid (HS13_0_vG_8.out.up hst14 (Nat.le_refl _)); have HS14_1_vG_8 := Lib.hid (HS13_1_vG_8.out.up hst14 (Nat.le_refl _)); have HS14_0_vT_9 := Lib.hid (HS13_0_vT_9.out.up hst14 (Nat.le_refl _)); have HS14_0_vG_13 := Lib.hid (HS13_0_vG_13.out.up hst14 (Nat.le_refl _)); have HS14_1_vG_13 := Lib.hid (HS13_1_vG_13.out.up hst14 (Nat.le_refl _)); have HB14 := Lib.hid (HB13.out.trans (hst14.mono HB13.out.size)); clear bx13_paG_0 bx13_paG_1 sz13_paG bx13_paT_0 sz13_paT bx13_paX_0 bx13_paX_1 sz13_paX bx13_w0_0 bx13_w0_1 bx13_w0_2 bx13_w0_3 sz13_w0 bx13_x0_0 bx13_x0_1 sz13_x0 bx13_x1_0 sz13_x1 bx13_g0_0 bx13_g0_1 bx13_g0_2 bx13_g0_3 sz13_g0 HS13_0_vG HS13_1_vG HS13_0_vT HS13_0_vG_8 HS13_1_vG_8 HS13_0_vT_9 HS13_0_vG_13 HS13_1_vG_13 hb14 hst14 HB13)))
            all_goals
              go_wp2_with fail
              go_region_with ((first | (go_at_call 9; refine (laws_toTree (c0 := c0_vT) vT hq_vT _ (Below.size (by repeat (first | (with_reducible exact Below.refl _ _) | (with_reducible apply Below.drew) | (with_reducible refine below_drewN ?_ _) | (refine Below.setCell ?_ (by simp <;> omega) _) | (refine Below.alloc ?_ (by simp <;> omega) _)) : Below w14.heap.size w14 _)) (HS14_0_vT.out.later (by repeat (first | (with_reducible exact Below.refl _ _) | (with_reducible apply Below.drew) | (with_reducible refine below_drewN ?_ _) | (refine Below.setCell ?_ (by simp <;> omega) _) | (refine Below.alloc ?_ (by simp <;> omega) _)) : Below w14.heap.size w14 _) (Nat.le_refl _))).mono ?_; rintro e w15 ⟨a0_vT_15, c0_vT_15, rfl, ho15, hb15⟩; have hst15 : Below w14.heap.size w14 w15 := Below.trans (by repeat (first | (with_reducible exact Below.refl _ _) | (with_reducible apply Below.drew) | (with_reducible refine below_drewN ?_ _) | (refine Below.setCell ?_ (by simp <;> omega) _) | (refine Below.alloc ?_ (by simp <;> omega) _)) : Below w14.heap.size w14 _) (hb15.mono (Below.size (by repeat (first | (with_reducible exact Below.refl _ _) | (with_reducible apply Below.drew) | (with_reducible refine below_drewN ?_ _) | (refine Below.setCell ?_ (by simp <;> omega) _) | (refine Below.alloc ?_ (by simp <;> omega) _)) : Below w14.heap.size w14 _))); have sz15_paG : w.heap.size < w15.heap.size := Nat.lt_of_lt_of_le sz14_paG hst15.size; have bx15_paG_0 : w15.cell? ⟨w.heap.size, 0, none⟩ = some (.slice a0_vG vG.fSymbols.length c0_vG) := (hst15.cell (p := ⟨w.heap.size, 0, none⟩) sz14_paG).trans bx14_paG_0; have bx15_paG_1 : w15.cell? ⟨w.heap.size, 1, none⟩ = some (.slice a1_vG vG.fRules.length c1_vG) := (hst15.cell (p := ⟨w.heap.size, 1, none⟩) sz14_paG).trans bx14_paG_1; have sz15_paT : w.heap.size + 1 < w15.heap.size := Nat.lt_of_lt_of_le sz14_paT hst15.size; have bx15_paT_0 : w15.cell? ⟨w.heap.size + 1, 0, none⟩ = some (.slice a0_vT vT.fNodes.length c0_vT) := (hst15.cell (p := ⟨w.heap.size + 1, 0, none⟩) sz14_paT).trans bx14_paT_0; have sz15_paX : w.heap.size + 2 < w15.heap.size := Nat.lt_of_lt_of_le sz14_paX hst15.size; have bx15_paX_0 : w15.cell? ⟨w.heap.size + 2, 0, none⟩ = some (.int .i64 vX.fNode) := (hst15.cell (p := ⟨w.heap.size + 2, 0, none⟩) sz14_paX).trans bx14_paX_0; have bx15_paX_1 : w15.cell? ⟨w.heap.size + 2, 1, none⟩ = some (.string vX.fName) := (hst15.cell (p := ⟨w.heap.size + 2, 1, none⟩) sz14_paX).trans bx14_paX_1; have sz15_w0 : bV7 < w15.heap.size := Nat.lt_of_lt_of_le sz14_w0 hst15.size; have bx15_w0_0 : w15.cell? ⟨bV7, 0, none⟩ = some (.string (attrOf vG vT.fNodes vX).1.fName) := (hst15.cell (p := ⟨bV7, 0, none⟩) sz14_w0).trans bx14_w0_0; have bx15_w0_1 : w15.cell? ⟨bV7, 1, none⟩ = some (.int .i64 (attrOf vG vT.fNodes vX).1.fType) := (hst15.cell (p := ⟨bV7, 1, none⟩) sz14_w0).trans bx14_w0_1; have bx15_w0_2 : w15.cell? ⟨bV7, 2, none⟩ = some (.int .i64 (attrOf vG vT.fNodes vX).1.fMode) := (hst15.cell (p := ⟨bV7, 2, none⟩) sz14_w0).trans bx14_w0_2; have bx15_w0_3 : w15.cell? ⟨bV7, 3, none⟩ = some (.bool (attrOf vG vT.fNodes vX).1.fCircular) := (hst15.cell (p := ⟨bV7, 3, none⟩) sz14_w0).trans bx14_w0_3; have sz15_x0 : w8.heap.size < w15.heap.size := Nat.lt_of_lt_of_le sz14_x0 hst15.size; have bx15_x0_0 : w15.cell? ⟨w8.heap.size, 0, none⟩ = some (.slice a0_vG_8 vG.fSymbols.length c0_vG_8) := (hst15.cell (p := ⟨w8.heap.size, 0, none⟩) sz14_x0).trans bx14_x0_0; have bx15_x0_1 : w15.cell? ⟨w8.heap.size, 1, none⟩ = some (.slice a1_vG_8 vG.fRules.length c1_vG_8) := (hst15.cell (p := ⟨w8.heap.size, 1, none⟩) sz14_x0).trans bx14_x0_1; have sz15_x1 : w9.heap.size < w15.heap.size := Nat.lt_of_lt_of_le sz14_x1 hst15.size; have bx15_x1_0 : w15.cell? ⟨w9.heap.size, 0, none⟩ = some (.slice a0_vT_9 vT.fNodes.length c0_vT_9) := (hst15.cell (p := ⟨w9.heap.size, 0, none⟩) sz14_x1).trans bx14_x1_0; have sz15_g0 : bV11 < w15.heap.size := Nat.lt_of_lt_of_le sz14_g0 hst15.size; have bx15_g0_0 : w15.cell? ⟨bV11, 0, none⟩ = some (.string (attrOf vG vT.fNodes vX).1.fName) := (hst15.cell (p := ⟨bV11, 0, none⟩) sz14_g0).trans bx14_g0_0; have bx15_g0_1 : w15.cell? ⟨bV11, 1, none⟩ = some (.int .i64 (attrOf vG vT.fNodes vX).1.fType) := (hst15.cell (p := ⟨bV11, 1, none⟩) sz14_g0).trans bx14_g0_1; have bx15_g0_2 : w15.cell? ⟨bV11, 2, none⟩ = some (.int .i64 (attrOf vG vT.fNodes vX).1.fMode) := (hst15.cell (p := ⟨bV11, 2, none⟩) sz14_g0).trans bx14_g0_2; have bx15_g0_3 : w15.cell? ⟨bV11, 3, none⟩ = some (.bool (attrOf vG vT.fNodes vX).1.fCircular) := (hst15.cell (p := ⟨bV11, 3, none⟩) sz14_g0).trans bx14_g0_3; have HS15_0_vG := Lib.hid (HS14_0_vG.out.up hst15 (Nat.le_refl _)); have HS15_1_vG := Lib.hid (HS14_1_vG.out.up hst15 (Nat.le_refl _)); have HS15_0_vT := Lib.hid (HS14_0_vT.out.up hst15 (Nat.le_refl _)); have HS15_0_vG_8 := Lib.hid (HS14_0_vG_8.out.up hst15 (Nat.le_refl _)); have HS15_1_vG_8 := Lib.hid (HS14_1_vG_8.out.up hst15 (Nat.le_refl _)); have HS15_0_vT_9 := Lib.hid (HS14_0_vT_9.out.up hst15 (Nat.le_refl _)); have HS15_0_vG_13 := Lib.hid (HS14_0_vG_13.out.up hst15 (Nat.le_refl _)); have HS15_1_vG_13 := Lib.hid (HS14_1_vG_13.out.up hst15 (Nat.le_refl _)); have HS15_0_vT_15 := Lib.hid (show Sl 0 w15.heap.size w15 6 vT.fNodes.length (fun k => DNode.ct (vT.fNodes.getD k default)) a0_vT_15 from Sl.of (cap := c0_vT_15) (l := vT.fNodes.length) (a := a0_vT_15) (ho15.lies (lo := 0) (hi := w15.heap.size) (fun y hy => ⟨Nat.zero_le _, hy.2⟩) 0 (by decide))); have HB15 := Lib.hid (HB14.out.trans (hst15.mono HB14.out.size)); clear bx14_paG_0 bx14_paG_1 sz14_paG bx14_paT_0 sz14_paT bx14_paX_0 bx14_paX_1 sz14_paX bx14_w0_0 bx14_w0_1 bx14_w0_2 bx14_w0_3 sz14_w0 bx14_x0_0 bx14_x0_1 sz14_x0 bx14_x1_0 sz14_x1 bx14_g0_0 bx14_g0_1 bx14_g0_2 bx14_g0_3 sz14_g0 HS14_0_vG HS14_1_vG HS14_0_vT HS14_0_vG_8 HS14_1_vG_8 HS14_0_vT_9 HS14_0_vG_13 HS14_1_vG_13 ho15 hb15 hst15 HB14) | (go_at_call 14; refine (laws_eqTree (c0 := c0_vT_9) (c0q := c0_vT_15) vT hq_vT _ (Below.size (by repeat (first | (with_reducible exact Below.refl _ _) | (with_reducible apply Below.drew) | (with_reducible refine below_drewN ?_ _) | (refine Below.setCell ?_ (by simp <;> omega) _) | (refine Below.alloc ?_ (by simp <;> omega) _)) : Below w15.heap.size w15 _)) (Below.size (by repeat (first | (with_reducible exact Below.refl _ _) | (with_reducible apply Below.drew) | (with_reducible refine below_drewN ?_ _) | (refine Below.setCell ?_ (by simp <;> omega) _) | (refine Below.alloc ?_ (by simp <;> omega) _)) : Below w15.heap.size w15 _)) (HS15_0_vT_9.out.later (by repeat (first | (with_reducible exact Below.refl _ _) | (with_reducible apply Below.drew) | (with_reducible refine below_drewN ?_ _) | (refine Below.setCell ?_ (by simp <;> omega) _) | (refine Below.alloc ?_ (by simp <;> omega) _)) : Below w15.heap.size w15 _) (Nat.le_refl _)) (HS15_0_vT_15.out.later (by repeat (first | (with_reducible exact Below.refl _ _) | (with_reducible apply Below.drew) | (with_reducible refine below_drewN ?_ _) | (refine Below.setCell ?_ (by simp <;> omega) _) | (refine Below.alloc ?_ (by simp <;> omega) _)) : Below w15.heap.size w15 _) (Nat.le_refl _))).mono ?_; rintro e w16 ⟨rfl, hb16⟩; have hst16 : Below w15.heap.size w15 w16 := Below.trans (by repeat (first | (with_reducible exact Below.refl _ _) | (with_reducible apply Below.drew) | (with_reducible refine below_drewN ?_ _) | (refine Below.setCell ?_ (by simp <;> omega) _) | (refine Below.alloc ?_ (by simp <;> omega) _)) : Below w15.heap.size w15 _) (hb16.mono (Below.size (by repeat (first | (with_reducible exact Below.refl _ _) | (with_reducible apply Below.drew) | (with_reducible refine below_drewN ?_ _) | (refine Below.setCell ?_ (by simp <;> omega) _) | (refine Below.alloc ?_ (by simp <;> omega) _)) : Below w15.heap.size w15 _))); have sz16_paG : w.heap.size < w16.heap.size := Nat.lt_of_lt_of_le sz15_paG hst16.size; have bx16_paG_0 : w16.cell? ⟨w.heap.size, 0, none⟩ = some (.slice a0_vG vG.fSymbols.length c0_vG) := (hst16.cell (p := ⟨w.heap.size, 0, none⟩) sz15_paG).trans bx15_paG_0; have bx16_paG_1 : w16.cell? ⟨w.heap.size, 1, none⟩ = some (.slice a1_vG vG.fRules.length c1_vG) := (hst16.cell (p := ⟨w.heap.size, 1, none⟩) sz15_paG).trans bx15_paG_1; have sz16_paT : w.heap.size + 1 < w16.heap.size := Nat.lt_of_lt_of_le sz15_paT hst16.size; have bx16_paT_0 : w16.cell? ⟨w.heap.size + 1, 0, none⟩ = some (.slice a0_vT vT.fNodes.length c0_vT) := (hst16.cell (p := ⟨w.heap.size + 1, 0, none⟩) sz15_paT).trans bx15_paT_0; have sz16_paX : w.heap.size + 2 < w16.heap.size := Nat.lt_of_lt_of_le sz15_paX hst16.size; have bx16_paX_0 : w16.cell? ⟨w.heap.size + 2, 0, none⟩ = some (.int .i64 vX.fNode) := (hst16.cell (p := ⟨w.heap.size + 2, 0, none⟩) sz15_paX).trans bx15_paX_0; have bx16_paX_1 : w16.cell? ⟨w.heap.size + 2, 1, none⟩ = some (.string vX.fName) := (hst16.cell (p := ⟨w.heap.size + 2, 1, none⟩) sz15_paX).trans bx15_paX_1; have sz16_w0 : bV7 < w16.heap.size := Nat.lt_of_lt_of_le sz15_w0 hst16.size; have bx16_w0_0 : w16.cell? ⟨bV7, 0, none⟩ = some (.string (attrOf vG vT.fNodes vX).1.fName) := (hst16.cell (p := ⟨bV7, 0, none⟩) sz15_w0).trans bx15_w0_0; have bx16_w0_1 : w16.cell? ⟨bV7, 1, none⟩ = some (.int .i64 (attrOf vG vT.fNodes vX).1.fType) := (hst16.cell (p := ⟨bV7, 1, none⟩) sz15_w0).trans bx15_w0_1; have bx16_w0_2 : w16.cell? ⟨bV7, 2, none⟩ = some (.int .i64 (attrOf vG vT.fNodes vX).1.fMode) := (hst16.cell (p := ⟨bV7, 2, none⟩) sz15_w0).trans bx15_w0_2; have bx16_w0_3 : w16.cell? ⟨bV7, 3, none⟩ = some (.bool (attrOf vG vT.fNodes vX).1.fCircular) := (hst16.cell (p := ⟨bV7, 3, none⟩) sz15_w0).trans bx15_w0_3; have sz16_x0 : w8.heap.size < w16.heap.size := Nat.lt_of_lt_of_le sz15_x0 hst16.size; have bx16_x0_0 : w16.cell? ⟨w8.heap.size, 0, none⟩ = some (.slice a0_vG_8 vG.fSymbols.length c0_vG_8) := (hst16.cell (p := ⟨w8.heap.size, 0, none⟩) sz15_x0).trans bx15_x0_0; have bx16_x0_1 : w16.cell? ⟨w8.heap.size, 1, none⟩ = some (.slice a1_vG_8 vG.fRules.length c1_vG_8) := (hst16.cell (p := ⟨w8.heap.size, 1, none⟩) sz15_x0).trans bx15_x0_1; have sz16_x1 : w9.heap.size < w16.heap.size := Nat.lt_of_lt_of_le sz15_x1 hst16.size; have bx16_x1_0 : w16.cell? ⟨w9.heap.size, 0, none⟩ = some (.slice a0_vT_9 vT.fNodes.length c0_vT_9) := (hst16.cell (p := ⟨w9.heap.size, 0, none⟩) sz15_x1).trans bx15_x1_0; have sz16_g0 : bV11 < w16.heap.size := Nat.lt_of_lt_of_le sz15_g0 hst16.size; have bx16_g0_0 : w16.cell? ⟨bV11, 0, none⟩ = some (.string (attrOf vG vT.fNodes vX).1.fName) := (hst16.cell (p := ⟨bV11, 0, none⟩) sz15_g0).trans bx15_g0_0; have bx16_g0_1 : w16.cell? ⟨bV11, 1, none⟩ = some (.int .i64 (attrOf vG vT.fNodes vX).1.fType) := (hst16.cell (p := ⟨bV11, 1, none⟩) sz15_g0).trans bx15_g0_1; have bx16_g0_2 : w16.cell? ⟨bV11, 2, none⟩ = some (.int .i64 (attrOf vG vT.fNodes vX).1.fMode) := (hst16.cell (p := ⟨bV11, 2, none⟩) sz15_g0).trans bx15_g0_2; have bx16_g0_3 : w16.cell? ⟨bV11, 3, none⟩ = some (.bool (attrOf vG vT.fNodes vX).1.fCircular) := (hst16.cell (p := ⟨bV11, 3, none⟩) sz15_g0).trans bx15_g0_3; have HS16_0_vG := Lib.hid (HS15_0_vG.out.up hst16 (Nat.le_refl _)); have HS16_1_vG := Lib.hid (HS15_1_vG.out.up hst16 (Nat.le_refl _)); have HS16_0_vT := Lib.hid (HS15_0_vT.out.up hst16 (Nat.le_refl _)); have HS16_0_vG_8 := Lib.hid (HS15_0_vG_8.out.up hst16 (Nat.le_refl _)); have HS16_1_vG_8 := Lib.hid (HS15_1_vG_8.out.up hst16 (Nat.le_refl _)); have HS16_0_vT_9 := Lib.hid (HS15_0_vT_9.out.up hst16 (Nat.le_refl _)); have HS16_0_vG_13 := Lib.hid (HS15_0_vG_13.out.up hst16 (Nat.le_refl _)); have HS16_1_vG_13 := Lib.hid (HS15_1_vG_13.out.up hst16 (Nat.le_refl _)); have HS16_0_vT_15 := Lib.hid (HS15_0_vT_15.out.up hst16 (Nat.le_refl _)); have HB16 := Lib.hid (HB15.out.trans (hst16.mono HB15.out.size)); clear bx15_paG_0 bx15_paG_1 sz15_paG bx15_paT_0 sz15_paT bx15_paX_0 bx15_paX_1 sz15_paX bx15_w0_0 bx15_w0_1 bx15_w0_2 bx15_w0_3 sz15_w0 bx15_x0_0 bx15_x0_1 sz15_x0 bx15_x1_0 sz15_x1 bx15_g0_0 bx15_g0_1 bx15_g0_2 bx15_g0_3 sz15_g0 HS15_0_vG HS15_1_vG HS15_0_vT HS15_0_vG_8 HS15_1_vG_8 HS15_0_vT_9 HS15_0_vG_13 HS15_1_vG_13 HS15_0_vT_15 hb16 hst16 HB15)))
              all_goals
                go_wp2
                go_ret
                exact ⟨rfl, HB16.out⟩
end Go.Proofs.Ytnkhjkdocaobpaa.fnExactAttributeOf
