/-
  The law FnExactIsMonotone: for every expression and list of occurrences the program's IsMonotone answers as the model's. No condition.
-/
import Derived.Test.YtamilmhnkiepmaaUsesM
import Derived.Test.YtamilmhnkiepmaaUsesP
import Derived.SizedLaws
namespace Go.Proofs.Ytamilmhnkiepmaa.fnExactIsMonotone
open Go.ChangeShapes Go.WideShapes Go.ChangeAt Go.RowKit Go.WideMaps Go.WideElems
open Go.ChangeMaps (open_string)
open Go.Lib Go.Deep

set_option maxHeartbeats 1600000 in
set_option maxRecDepth 100000 in
theorem walk (vE : DExpr) (a6_vE : Option Addr) (c6_vE : Nat) (ok_vE : DExpr.ok vE) (vList : List (DOccurrence)) (a_vList : Option Addr) (c_vList : Nat) (ok_vList : (okL DOccurrence.ok) vList) (w : World) (hs_6_vE : Sl 0 w.heap.size w 7 vE.fArgs.length (ctE vE.fArgs) a6_vE) (hs_vList : Sl 0 w.heap.size w 2 vList.length (fun k => DOccurrence.ct (vList.getD k default)) a_vList) :
    Calls Try.prog 4 #[.agg #[.int .i64 vE.fKind, .int .i64 vE.fN, .int .i64 vE.fPos, .int .i64 vE.fType, .string vE.fSymbol, .string vE.fName, .slice a6_vE vE.fArgs.length c6_vE], .slice a_vList vList.length c_vList] w fun e w' => e = .returned (.bool true) ∧ Below w.heap.size w w' := by
  have HS_6_vE := Lib.hid hs_6_vE
  clear hs_6_vE
  have OK_vE := Lib.hid ok_vE
  clear ok_vE
  have HS_vList := Lib.hid hs_vList
  clear hs_vList
  have OK_vList := Lib.hid ok_vList
  clear ok_vList
  by_cases h0 : 1048576 < ((DExpr.sz vE : Nat) : Int)
  · skip
    have hz := fun (hi : Nat) (w' : World) (hhi : hi ≤ w'.heap.size) (hs_6_vE : Sl 0 hi w' 7 vE.fArgs.length (ctE vE.fArgs) a6_vE) => laws_szExpr (c6 := c6_vE) vE 1048576 (by omega) (by omega) OK_vE.out w' hhi hs_6_vE
    rw [szR_gt (by omega)] at hz
    have HZ_vE := Lib.hid hz
    clear hz
    go_enter Try.func4, Try.ntmps4
    go_wp2_with fail
    refine (HZ_vE.out w.heap.size _ (Below.size (by repeat (first | (with_reducible exact Below.refl _ _) | (with_reducible apply Below.drew) | (with_reducible refine below_drewN ?_ _) | (refine Below.setCell ?_ (by simp <;> omega) _) | (refine Below.alloc ?_ (by simp <;> omega) _)) : Below w.heap.size w _)) (HS_6_vE.out.later (by repeat (first | (with_reducible exact Below.refl _ _) | (with_reducible apply Below.drew) | (with_reducible refine below_drewN ?_ _) | (refine Below.setCell ?_ (by simp <;> omega) _) | (refine Below.alloc ?_ (by simp <;> omega) _)) : Below w.heap.size w _) (Nat.le_refl _))).mono ?_
    rintro e w1 ⟨rfl, hb1⟩
    have hst1 : Below w.heap.size w w1 := Below.trans (by repeat (first | (with_reducible exact Below.refl _ _) | (with_reducible apply Below.drew) | (with_reducible refine below_drewN ?_ _) | (refine Below.setCell ?_ (by simp <;> omega) _) | (refine Below.alloc ?_ (by simp <;> omega) _)) : Below w.heap.size w _) (hb1.mono (Below.size (by repeat (first | (with_reducible exact Below.refl _ _) | (with_reducible apply Below.drew) | (with_reducible refine below_drewN ?_ _) | (refine Below.setCell ?_ (by simp <;> omega) _) | (refine Below.alloc ?_ (by simp <;> omega) _)) : Below w.heap.size w _)))
    have sz1_paE : w.heap.size < w1.heap.size := Nat.lt_of_lt_of_le (by first | omega | (simp; done) | (simp; omega) | (simp [World.setCell]; omega)) hb1.size
    have bx1_paE_0 : w1.cell? ⟨w.heap.size, 0, none⟩ = some (.int .i64 vE.fKind) := (hb1.cell (p := ⟨w.heap.size, 0, none⟩) (by first | omega | (simp; done) | (simp; omega) | (simp [World.setCell]; omega))).trans (by go_simp)
    have bx1_paE_1 : w1.cell? ⟨w.heap.size, 1, none⟩ = some (.int .i64 vE.fN) := (hb1.cell (p := ⟨w.heap.size, 1, none⟩) (by first | omega | (simp; done) | (simp; omega) | (simp [World.setCell]; omega))).trans (by go_simp)
    have bx1_paE_2 : w1.cell? ⟨w.heap.size, 2, none⟩ = some (.int .i64 vE.fPos) := (hb1.cell (p := ⟨w.heap.size, 2, none⟩) (by first | omega | (simp; done) | (simp; omega) | (simp [World.setCell]; omega))).trans (by go_simp)
    have bx1_paE_3 : w1.cell? ⟨w.heap.size, 3, none⟩ = some (.int .i64 vE.fType) := (hb1.cell (p := ⟨w.heap.size, 3, none⟩) (by first | omega | (simp; done) | (simp; omega) | (simp [World.setCell]; omega))).trans (by go_simp)
    have bx1_paE_4 : w1.cell? ⟨w.heap.size, 4, none⟩ = some (.string vE.fSymbol) := (hb1.cell (p := ⟨w.heap.size, 4, none⟩) (by first | omega | (simp; done) | (simp; omega) | (simp [World.setCell]; omega))).trans (by go_simp)
    have bx1_paE_5 : w1.cell? ⟨w.heap.size, 5, none⟩ = some (.string vE.fName) := (hb1.cell (p := ⟨w.heap.size, 5, none⟩) (by first | omega | (simp; done) | (simp; omega) | (simp [World.setCell]; omega))).trans (by go_simp)
    have bx1_paE_6 : w1.cell? ⟨w.heap.size, 6, none⟩ = some (.slice a6_vE vE.fArgs.length c6_vE) := (hb1.cell (p := ⟨w.heap.size, 6, none⟩) (by first | omega | (simp; done) | (simp; omega) | (simp [World.setCell]; omega))).trans (by go_simp)
    have HS1_6_vE := Lib.hid (HS_6_vE.out.up hst1 (Nat.le_refl _))
    have HS1_vList := Lib.hid (HS_vList.out.up hst1 (Nat.le_refl _))
    have HB1 := Lib.hid ((Below.refl w.heap.size w).trans (hst1.mono (Below.refl w.heap.size w).size))
    clear hb1 hst1
    go_wp2
    go_ret
    exact ⟨rfl, HB1.out⟩
  · skip
    by_cases h1 : (1048576 - (DExpr.sz vE : Nat)) < (((lsz DOccurrence.sz) vList : Nat) : Int)
    · skip
      have hz := fun (hi : Nat) (w' : World) (hhi : hi ≤ w'.heap.size) (hs_6_vE : Sl 0 hi w' 7 vE.fArgs.length (ctE vE.fArgs) a6_vE) => laws_szExpr (c6 := c6_vE) vE 1048576 (by omega) (by omega) OK_vE.out w' hhi hs_6_vE
      rw [szR_le (by omega)] at hz
      have HZ_vE := Lib.hid hz
      clear hz
      have hz := fun (hi : Nat) (w' : World) (hhi : hi ≤ w'.heap.size) (hs_vList : Sl 0 hi w' 2 vList.length (fun k => DOccurrence.ct (vList.getD k default)) a_vList) => laws_szOccurrenceS (cap := c_vList) vList (1048576 - (DExpr.sz vE : Nat)) (by omega) (by omega) OK_vList.out w' hhi hs_vList
      rw [szR_gt (by omega)] at hz
      have HZ_vList := Lib.hid hz
      clear hz
      go_enter Try.func4, Try.ntmps4
      go_wp2_with fail
      refine (HZ_vE.out w.heap.size _ (Below.size (by repeat (first | (with_reducible exact Below.refl _ _) | (with_reducible apply Below.drew) | (with_reducible refine below_drewN ?_ _) | (refine Below.setCell ?_ (by simp <;> omega) _) | (refine Below.alloc ?_ (by simp <;> omega) _)) : Below w.heap.size w _)) (HS_6_vE.out.later (by repeat (first | (with_reducible exact Below.refl _ _) | (with_reducible apply Below.drew) | (with_reducible refine below_drewN ?_ _) | (refine Below.setCell ?_ (by simp <;> omega) _) | (refine Below.alloc ?_ (by simp <;> omega) _)) : Below w.heap.size w _) (Nat.le_refl _))).mono ?_
      rintro e w1 ⟨rfl, hb1⟩
      have hst1 : Below w.heap.size w w1 := Below.trans (by repeat (first | (with_reducible exact Below.refl _ _) | (with_reducible apply Below.drew) | (with_reducible refine below_drewN ?_ _) | (refine Below.setCell ?_ (by simp <;> omega) _) | (refine Below.alloc ?_ (by simp <;> omega) _)) : Below w.heap.size w _) (hb1.mono (Below.size (by repeat (first | (with_reducible exact Below.refl _ _) | (with_reducible apply Below.drew) | (with_reducible refine below_drewN ?_ _) | (refine Below.setCell ?_ (by simp <;> omega) _) | (refine Below.alloc ?_ (by simp <;> omega) _)) : Below w.heap.size w _)))
      have sz1_paE : w.heap.size < w1.heap.size := Nat.lt_of_lt_of_le (by first | omega | (simp; done) | (simp; omega) | (simp [World.setCell]; omega)) hb1.size
      have bx1_paE_0 : w1.cell? ⟨w.heap.size, 0, none⟩ = some (.int .i64 vE.fKind) := (hb1.cell (p := ⟨w.heap.size, 0, none⟩) (by first | omega | (simp; done) | (simp; omega) | (simp [World.setCell]; omega))).trans (by go_simp)
      have bx1_paE_1 : w1.cell? ⟨w.heap.size, 1, none⟩ = some (.int .i64 vE.fN) := (hb1.cell (p := ⟨w.heap.size, 1, none⟩) (by first | omega | (simp; done) | (simp; omega) | (simp [World.setCell]; omega))).trans (by go_simp)
      have bx1_paE_2 : w1.cell? ⟨w.heap.size, 2, none⟩ = some (.int .i64 vE.fPos) := (hb1.cell (p := ⟨w.heap.size, 2, none⟩) (by first | omega | (simp; done) | (simp; omega) | (simp [World.setCell]; omega))).trans (by go_simp)
      have bx1_paE_3 : w1.cell? ⟨w.heap.size, 3, none⟩ = some (.int .i64 vE.fType) := (hb1.cell (p := ⟨w.heap.size, 3, none⟩) (by first | omega | (simp; done) | (simp; omega) | (simp [World.setCell]; omega))).trans (by go_simp)
      have bx1_paE_4 : w1.cell? ⟨w.heap.size, 4, none⟩ = some (.string vE.fSymbol) := (hb1.cell (p := ⟨w.heap.size, 4, none⟩) (by first | omega | (simp; done) | (simp; omega) | (simp [World.setCell]; omega))).trans (by go_simp)
      have bx1_paE_5 : w1.cell? ⟨w.heap.size, 5, none⟩ = some (.string vE.fName) := (hb1.cell (p := ⟨w.heap.size, 5, none⟩) (by first | omega | (simp; done) | (simp; omega) | (simp [World.setCell]; omega))).trans (by go_simp)
      have bx1_paE_6 : w1.cell? ⟨w.heap.size, 6, none⟩ = some (.slice a6_vE vE.fArgs.length c6_vE) := (hb1.cell (p := ⟨w.heap.size, 6, none⟩) (by first | omega | (simp; done) | (simp; omega) | (simp [World.setCell]; omega))).trans (by go_simp)
      have HS1_6_vE := Lib.hid (HS_6_vE.out.up hst1 (Nat.le_refl _))
      have HS1_vList := Lib.hid (HS_vList.out.up hst1 (Nat.le_refl _))
      have HB1 := Lib.hid ((Below.refl w.heap.size w).trans (hst1.mono (Below.refl w.heap.size w).size))
      clear hb1 hst1
      go_wp2_with fail
      refine (HZ_vList.out w1.heap.size _ (Below.size (by repeat (first | (with_reducible exact Below.refl _ _) | (with_reducible apply Below.drew) | (with_reducible refine below_drewN ?_ _) | (refine Below.setCell ?_ (by simp <;> omega) _) | (refine Below.alloc ?_ (by simp <;> omega) _)) : Below w1.heap.size w1 _)) (HS1_vList.out.later (by repeat (first | (with_reducible exact Below.refl _ _) | (with_reducible apply Below.drew) | (with_reducible refine below_drewN ?_ _) | (refine Below.setCell ?_ (by simp <;> omega) _) | (refine Below.alloc ?_ (by simp <;> omega) _)) : Below w1.heap.size w1 _) (Nat.le_refl _))).mono ?_
      rintro e w2 ⟨rfl, hb2⟩
      have hst2 : Below w1.heap.size w1 w2 := Below.trans (by repeat (first | (with_reducible exact Below.refl _ _) | (with_reducible apply Below.drew) | (with_reducible refine below_drewN ?_ _) | (refine Below.setCell ?_ (by simp <;> omega) _) | (refine Below.alloc ?_ (by simp <;> omega) _)) : Below w1.heap.size w1 _) (hb2.mono (Below.size (by repeat (first | (with_reducible exact Below.refl _ _) | (with_reducible apply Below.drew) | (with_reducible refine below_drewN ?_ _) | (refine Below.setCell ?_ (by simp <;> omega) _) | (refine Below.alloc ?_ (by simp <;> omega) _)) : Below w1.heap.size w1 _)))
      have sz2_paE : w.heap.size < w2.heap.size := Nat.lt_of_lt_of_le sz1_paE hst2.size
      have bx2_paE_0 : w2.cell? ⟨w.heap.size, 0, none⟩ = some (.int .i64 vE.fKind) := (hst2.cell (p := ⟨w.heap.size, 0, none⟩) sz1_paE).trans bx1_paE_0
      have bx2_paE_1 : w2.cell? ⟨w.heap.size, 1, none⟩ = some (.int .i64 vE.fN) := (hst2.cell (p := ⟨w.heap.size, 1, none⟩) sz1_paE).trans bx1_paE_1
      have bx2_paE_2 : w2.cell? ⟨w.heap.size, 2, none⟩ = some (.int .i64 vE.fPos) := (hst2.cell (p := ⟨w.heap.size, 2, none⟩) sz1_paE).trans bx1_paE_2
      have bx2_paE_3 : w2.cell? ⟨w.heap.size, 3, none⟩ = some (.int .i64 vE.fType) := (hst2.cell (p := ⟨w.heap.size, 3, none⟩) sz1_paE).trans bx1_paE_3
      have bx2_paE_4 : w2.cell? ⟨w.heap.size, 4, none⟩ = some (.string vE.fSymbol) := (hst2.cell (p := ⟨w.heap.size, 4, none⟩) sz1_paE).trans bx1_paE_4
      have bx2_paE_5 : w2.cell? ⟨w.heap.size, 5, none⟩ = some (.string vE.fName) := (hst2.cell (p := ⟨w.heap.size, 5, none⟩) sz1_paE).trans bx1_paE_5
      have bx2_paE_6 : w2.cell? ⟨w.heap.size, 6, none⟩ = some (.slice a6_vE vE.fArgs.length c6_vE) := (hst2.cell (p := ⟨w.heap.size, 6, none⟩) sz1_paE).trans bx1_paE_6
      have HS2_6_vE := Lib.hid (HS1_6_vE.out.up hst2 (Nat.le_refl _))
      have HS2_vList := Lib.hid (HS1_vList.out.up hst2 (Nat.le_refl _))
      have HB2 := Lib.hid (HB1.out.trans (hst2.mono HB1.out.size))
      clear bx1_paE_0 bx1_paE_1 bx1_paE_2 bx1_paE_3 bx1_paE_4 bx1_paE_5 bx1_paE_6 sz1_paE HS1_6_vE HS1_vList hb2 hst2 HB1
      go_wp2
      go_ret
      exact ⟨rfl, HB2.out⟩
    · skip
      have hz := fun (hi : Nat) (w' : World) (hhi : hi ≤ w'.heap.size) (hs_6_vE : Sl 0 hi w' 7 vE.fArgs.length (ctE vE.fArgs) a6_vE) => laws_szExpr (c6 := c6_vE) vE 1048576 (by omega) (by omega) OK_vE.out w' hhi hs_6_vE
      rw [szR_le (by omega)] at hz
      have HZ_vE := Lib.hid hz
      clear hz
      have hz := fun (hi : Nat) (w' : World) (hhi : hi ≤ w'.heap.size) (hs_vList : Sl 0 hi w' 2 vList.length (fun k => DOccurrence.ct (vList.getD k default)) a_vList) => laws_szOccurrenceS (cap := c_vList) vList (1048576 - (DExpr.sz vE : Nat)) (by omega) (by omega) OK_vList.out w' hhi hs_vList
      rw [szR_le (by omega)] at hz
      have HZ_vList := Lib.hid hz
      clear hz
      have hq_vE : DExpr.sz vE ≤ 1048576 := by omega
      have hq_vList : (lsz DOccurrence.sz) vList ≤ 1048576 := by omega
      go_enter Try.func4, Try.ntmps4
      go_wp2_with fail
      refine (HZ_vE.out w.heap.size _ (Below.size (by repeat (first | (with_reducible exact Below.refl _ _) | (with_reducible apply Below.drew) | (with_reducible refine below_drewN ?_ _) | (refine Below.setCell ?_ (by simp <;> omega) _) | (refine Below.alloc ?_ (by simp <;> omega) _)) : Below w.heap.size w _)) (HS_6_vE.out.later (by repeat (first | (with_reducible exact Below.refl _ _) | (with_reducible apply Below.drew) | (with_reducible refine below_drewN ?_ _) | (refine Below.setCell ?_ (by simp <;> omega) _) | (refine Below.alloc ?_ (by simp <;> omega) _)) : Below w.heap.size w _) (Nat.le_refl _))).mono ?_
      rintro e w1 ⟨rfl, hb1⟩
      have hst1 : Below w.heap.size w w1 := Below.trans (by repeat (first | (with_reducible exact Below.refl _ _) | (with_reducible apply Below.drew) | (with_reducible refine below_drewN ?_ _) | (refine Below.setCell ?_ (by simp <;> omega) _) | (refine Below.alloc ?_ (by simp <;> omega) _)) : Below w.heap.size w _) (hb1.mono (Below.size (by repeat (first | (with_reducible exact Below.refl _ _) | (with_reducible apply Below.drew) | (with_reducible refine below_drewN ?_ _) | (refine Below.setCell ?_ (by simp <;> omega) _) | (refine Below.alloc ?_ (by simp <;> omega) _)) : Below w.heap.size w _)))
      have sz1_paE : w.heap.size < w1.heap.size := Nat.lt_of_lt_of_le (by first | omega | (simp; done) | (simp; omega) | (simp [World.setCell]; omega)) hb1.size
      have bx1_paE_0 : w1.cell? ⟨w.heap.size, 0, none⟩ = some (.int .i64 vE.fKind) := (hb1.cell (p := ⟨w.heap.size, 0, none⟩) (by first | omega | (simp; done) | (simp; omega) | (simp [World.setCell]; omega))).trans (by go_simp)
      have bx1_paE_1 : w1.cell? ⟨w.heap.size, 1, none⟩ = some (.int .i64 vE.fN) := (hb1.cell (p := ⟨w.heap.size, 1, none⟩) (by first | omega | (simp; done) | (simp; omega) | (simp [World.setCell]; omega))).trans (by go_simp)
      have bx1_paE_2 : w1.cell? ⟨w.heap.size, 2, none⟩ = some (.int .i64 vE.fPos) := (hb1.cell (p := ⟨w.heap.size, 2, none⟩) (by first | omega | (simp; done) | (simp; omega) | (simp [World.setCell]; omega))).trans (by go_simp)
      have bx1_paE_3 : w1.cell? ⟨w.heap.size, 3, none⟩ = some (.int .i64 vE.fType) := (hb1.cell (p := ⟨w.heap.size, 3, none⟩) (by first | omega | (simp; done) | (simp; omega) | (simp [World.setCell]; omega))).trans (by go_simp)
      have bx1_paE_4 : w1.cell? ⟨w.heap.size, 4, none⟩ = some (.string vE.fSymbol) := (hb1.cell (p := ⟨w.heap.size, 4, none⟩) (by first | omega | (simp; done) | (simp; omega) | (simp [World.setCell]; omega))).trans (by go_simp)
      have bx1_paE_5 : w1.cell? ⟨w.heap.size, 5, none⟩ = some (.string vE.fName) := (hb1.cell (p := ⟨w.heap.size, 5, none⟩) (by first | omega | (simp; done) | (simp; omega) | (simp [World.setCell]; omega))).trans (by go_simp)
      have bx1_paE_6 : w1.cell? ⟨w.heap.size, 6, none⟩ = some (.slice a6_vE vE.fArgs.length c6_vE) := (hb1.cell (p := ⟨w.heap.size, 6, none⟩) (by first | omega | (simp; done) | (simp; omega) | (simp [World.setCell]; omega))).trans (by go_simp)
      have HS1_6_vE := Lib.hid (HS_6_vE.out.up hst1 (Nat.le_refl _))
      have HS1_vList := Lib.hid (HS_vList.out.up hst1 (Nat.le_refl _))
      have HB1 := Lib.hid ((Below.refl w.heap.size w).trans (hst1.mono (Below.refl w.heap.size w).size))
      clear hb1 hst1
      go_wp2_with fail
      refine (HZ_vList.out w1.heap.size _ (Below.size (by repeat (first | (with_reducible exact Below.refl _ _) | (with_reducible apply Below.drew) | (with_reducible refine below_drewN ?_ _) | (refine Below.setCell ?_ (by simp <;> omega) _) | (refine Below.alloc ?_ (by simp <;> omega) _)) : Below w1.heap.size w1 _)) (HS1_vList.out.later (by repeat (first | (with_reducible exact Below.refl _ _) | (with_reducible apply Below.drew) | (with_reducible refine below_drewN ?_ _) | (refine Below.setCell ?_ (by simp <;> omega) _) | (refine Below.alloc ?_ (by simp <;> omega) _)) : Below w1.heap.size w1 _) (Nat.le_refl _))).mono ?_
      rintro e w2 ⟨rfl, hb2⟩
      have hst2 : Below w1.heap.size w1 w2 := Below.trans (by repeat (first | (with_reducible exact Below.refl _ _) | (with_reducible apply Below.drew) | (with_reducible refine below_drewN ?_ _) | (refine Below.setCell ?_ (by simp <;> omega) _) | (refine Below.alloc ?_ (by simp <;> omega) _)) : Below w1.heap.size w1 _) (hb2.mono (Below.size (by repeat (first | (with_reducible exact Below.refl _ _) | (with_reducible apply Below.drew) | (with_reducible refine below_drewN ?_ _) | (refine Below.setCell ?_ (by simp <;> omega) _) | (refine Below.alloc ?_ (by simp <;> omega) _)) : Below w1.heap.size w1 _)))
      have sz2_paE : w.heap.size < w2.heap.size := Nat.lt_of_lt_of_le sz1_paE hst2.size
      have bx2_paE_0 : w2.cell? ⟨w.heap.size, 0, none⟩ = some (.int .i64 vE.fKind) := (hst2.cell (p := ⟨w.heap.size, 0, none⟩) sz1_paE).trans bx1_paE_0
      have bx2_paE_1 : w2.cell? ⟨w.heap.size, 1, none⟩ = some (.int .i64 vE.fN) := (hst2.cell (p := ⟨w.heap.size, 1, none⟩) sz1_paE).trans bx1_paE_1
      have bx2_paE_2 : w2.cell? ⟨w.heap.size, 2, none⟩ = some (.int .i64 vE.fPos) := (hst2.cell (p := ⟨w.heap.size, 2, none⟩) sz1_paE).trans bx1_paE_2
      have bx2_paE_3 : w2.cell? ⟨w.heap.size, 3, none⟩ = some (.int .i64 vE.fType) := (hst2.cell (p := ⟨w.heap.size, 3, none⟩) sz1_paE).trans bx1_paE_3
      have bx2_paE_4 : w2.cell? ⟨w.heap.size, 4, none⟩ = some (.string vE.fSymbol) := (hst2.cell (p := ⟨w.heap.size, 4, none⟩) sz1_paE).trans bx1_paE_4
      have bx2_paE_5 : w2.cell? ⟨w.heap.size, 5, none⟩ = some (.string vE.fName) := (hst2.cell (p := ⟨w.heap.size, 5, none⟩) sz1_paE).trans bx1_paE_5
      have bx2_paE_6 : w2.cell? ⟨w.heap.size, 6, none⟩ = some (.slice a6_vE vE.fArgs.length c6_vE) := (hst2.cell (p := ⟨w.heap.size, 6, none⟩) sz1_paE).trans bx1_paE_6
      have HS2_6_vE := Lib.hid (HS1_6_vE.out.up hst2 (Nat.le_refl _))
      have HS2_vList := Lib.hid (HS1_vList.out.up hst2 (Nat.le_refl _))
      have HB2 := Lib.hid (HB1.out.trans (hst2.mono HB1.out.size))
      clear bx1_paE_0 bx1_paE_1 bx1_paE_2 bx1_paE_3 bx1_paE_4 bx1_paE_5 bx1_paE_6 sz1_paE HS1_6_vE HS1_vList hb2 hst2 HB1
      go_wp2_with fail
      refine (laws_toExpr (c6 := c6_vE) vE hq_vE _ (Below.size (by repeat (first | (with_reducible exact Below.refl _ _) | (with_reducible apply Below.drew) | (with_reducible refine below_drewN ?_ _) | (refine Below.setCell ?_ (by simp <;> omega) _) | (refine Below.alloc ?_ (by simp <;> omega) _)) : Below w2.heap.size w2 _)) (HS2_6_vE.out.later (by repeat (first | (with_reducible exact Below.refl _ _) | (with_reducible apply Below.drew) | (with_reducible refine below_drewN ?_ _) | (refine Below.setCell ?_ (by simp <;> omega) _) | (refine Below.alloc ?_ (by simp <;> omega) _)) : Below w2.heap.size w2 _) (Nat.le_refl _))).mono ?_
      rintro e w3 ⟨a6_vE_3, c6_vE_3, rfl, ho3, hb3⟩
      have hst3 : Below w2.heap.size w2 w3 := Below.trans (by repeat (first | (with_reducible exact Below.refl _ _) | (with_reducible apply Below.drew) | (with_reducible refine below_drewN ?_ _) | (refine Below.setCell ?_ (by simp <;> omega) _) | (refine Below.alloc ?_ (by simp <;> omega) _)) : Below w2.heap.size w2 _) (hb3.mono (Below.size (by repeat (first | (with_reducible exact Below.refl _ _) | (with_reducible apply Below.drew) | (with_reducible refine below_drewN ?_ _) | (refine Below.setCell ?_ (by simp <;> omega) _) | (refine Below.alloc ?_ (by simp <;> omega) _)) : Below w2.heap.size w2 _)))
      have sz3_paE : w.heap.size < w3.heap.size := Nat.lt_of_lt_of_le sz2_paE hst3.size
      have bx3_paE_0 : w3.cell? ⟨w.heap.size, 0, none⟩ = some (.int .i64 vE.fKind) := (hst3.cell (p := ⟨w.heap.size, 0, none⟩) sz2_paE).trans bx2_paE_0
      have bx3_paE_1 : w3.cell? ⟨w.heap.size, 1, none⟩ = some (.int .i64 vE.fN) := (hst3.cell (p := ⟨w.heap.size, 1, none⟩) sz2_paE).trans bx2_paE_1
      have bx3_paE_2 : w3.cell? ⟨w.heap.size, 2, none⟩ = some (.int .i64 vE.fPos) := (hst3.cell (p := ⟨w.heap.size, 2, none⟩) sz2_paE).trans bx2_paE_2
      have bx3_paE_3 : w3.cell? ⟨w.heap.size, 3, none⟩ = some (.int .i64 vE.fType) := (hst3.cell (p := ⟨w.heap.size, 3, none⟩) sz2_paE).trans bx2_paE_3
      have bx3_paE_4 : w3.cell? ⟨w.heap.size, 4, none⟩ = some (.string vE.fSymbol) := (hst3.cell (p := ⟨w.heap.size, 4, none⟩) sz2_paE).trans bx2_paE_4
      have bx3_paE_5 : w3.cell? ⟨w.heap.size, 5, none⟩ = some (.string vE.fName) := (hst3.cell (p := ⟨w.heap.size, 5, none⟩) sz2_paE).trans bx2_paE_5
      have bx3_paE_6 : w3.cell? ⟨w.heap.size, 6, none⟩ = some (.slice a6_vE vE.fArgs.length c6_vE) := (hst3.cell (p := ⟨w.heap.size, 6, none⟩) sz2_paE).trans bx2_paE_6
      have HS3_6_vE := Lib.hid (HS2_6_vE.out.up hst3 (Nat.le_refl _))
      have HS3_vList := Lib.hid (HS2_vList.out.up hst3 (Nat.le_refl _))
      have HS3_F6_vE_3 := Lib.hid (show Sf 0 w3.heap.size w3 7 vE.fArgs.length (ctE vE.fArgs) a6_vE_3 from Sf.of (cap := c6_vE_3) (l := vE.fArgs.length) (a := a6_vE_3) (ho3.soft (lo := 0) (hi := w3.heap.size) (fun y hy => ⟨Nat.zero_le _, hy.2⟩) 6 (by decide)))
      have HS3_6_vE_3 := Lib.hid (show Sl 0 w3.heap.size w3 7 vE.fArgs.length (ctE vE.fArgs) a6_vE_3 from Sl.of (cap := c6_vE_3) (l := vE.fArgs.length) (a := a6_vE_3) (ho3.lies (lo := 0) (hi := w3.heap.size) (fun y hy => ⟨Nat.zero_le _, hy.2⟩) 6 (by decide)))
      have HB3 := Lib.hid (HB2.out.trans (hst3.mono HB2.out.size))
      clear bx2_paE_0 bx2_paE_1 bx2_paE_2 bx2_paE_3 bx2_paE_4 bx2_paE_5 bx2_paE_6 sz2_paE HS2_6_vE HS2_vList ho3 hb3 hst3 HB2
      go_wp2_with fail
      refine (laws_toOccurrenceS (cap := c_vList) vList hq_vList _ (Below.size (by repeat (first | (with_reducible exact Below.refl _ _) | (with_reducible apply Below.drew) | (with_reducible refine below_drewN ?_ _) | (refine Below.setCell ?_ (by simp <;> omega) _) | (refine Below.alloc ?_ (by simp <;> omega) _)) : Below w3.heap.size w3 _)) (HS3_vList.out.later (by repeat (first | (with_reducible exact Below.refl _ _) | (with_reducible apply Below.drew) | (with_reducible refine below_drewN ?_ _) | (refine Below.setCell ?_ (by simp <;> omega) _) | (refine Below.alloc ?_ (by simp <;> omega) _)) : Below w3.heap.size w3 _) (Nat.le_refl _))).mono ?_
      rintro e w4 ⟨a_vList_4, c_vList_4, rfl, ho4, hb4⟩
      have hst4 : Below w3.heap.size w3 w4 := Below.trans (by repeat (first | (with_reducible exact Below.refl _ _) | (with_reducible apply Below.drew) | (with_reducible refine below_drewN ?_ _) | (refine Below.setCell ?_ (by simp <;> omega) _) | (refine Below.alloc ?_ (by simp <;> omega) _)) : Below w3.heap.size w3 _) (hb4.mono (Below.size (by repeat (first | (with_reducible exact Below.refl _ _) | (with_reducible apply Below.drew) | (with_reducible refine below_drewN ?_ _) | (refine Below.setCell ?_ (by simp <;> omega) _) | (refine Below.alloc ?_ (by simp <;> omega) _)) : Below w3.heap.size w3 _)))
      have sz4_paE : w.heap.size < w4.heap.size := Nat.lt_of_lt_of_le sz3_paE hst4.size
      have bx4_paE_0 : w4.cell? ⟨w.heap.size, 0, none⟩ = some (.int .i64 vE.fKind) := (hst4.cell (p := ⟨w.heap.size, 0, none⟩) sz3_paE).trans bx3_paE_0
      have bx4_paE_1 : w4.cell? ⟨w.heap.size, 1, none⟩ = some (.int .i64 vE.fN) := (hst4.cell (p := ⟨w.heap.size, 1, none⟩) sz3_paE).trans bx3_paE_1
      have bx4_paE_2 : w4.cell? ⟨w.heap.size, 2, none⟩ = some (.int .i64 vE.fPos) := (hst4.cell (p := ⟨w.heap.size, 2, none⟩) sz3_paE).trans bx3_paE_2
      have bx4_paE_3 : w4.cell? ⟨w.heap.size, 3, none⟩ = some (.int .i64 vE.fType) := (hst4.cell (p := ⟨w.heap.size, 3, none⟩) sz3_paE).trans bx3_paE_3
      have bx4_paE_4 : w4.cell? ⟨w.heap.size, 4, none⟩ = some (.string vE.fSymbol) := (hst4.cell (p := ⟨w.heap.size, 4, none⟩) sz3_paE).trans bx3_paE_4
      have bx4_paE_5 : w4.cell? ⟨w.heap.size, 5, none⟩ = some (.string vE.fName) := (hst4.cell (p := ⟨w.heap.size, 5, none⟩) sz3_paE).trans bx3_paE_5
      have bx4_paE_6 : w4.cell? ⟨w.heap.size, 6, none⟩ = some (.slice a6_vE vE.fArgs.length c6_vE) := (hst4.cell (p := ⟨w.heap.size, 6, none⟩) sz3_paE).trans bx3_paE_6
      have HS4_6_vE := Lib.hid (HS3_6_vE.out.up hst4 (Nat.le_refl _))
      have HS4_vList := Lib.hid (HS3_vList.out.up hst4 (Nat.le_refl _))
      have HS4_F6_vE_3 := Lib.hid (HS3_F6_vE_3.out.up hst4 (Nat.le_refl _))
      have HS4_6_vE_3 := Lib.hid (HS3_6_vE_3.out.up hst4 (Nat.le_refl _))
      have HS4_FvList_4 := Lib.hid (show Sf 0 w4.heap.size w4 2 vList.length (fun k => DOccurrence.ct (vList.getD k default)) a_vList_4 from Sf.of (ho4.soft (lo := 0) (hi := w4.heap.size) (fun y hy => ⟨Nat.zero_le _, hy.2⟩)))
      have HS4_vList_4 := Lib.hid (show Sl 0 w4.heap.size w4 2 vList.length (fun k => DOccurrence.ct (vList.getD k default)) a_vList_4 from Sl.of (ho4.lies (lo := 0) (hi := w4.heap.size) (fun y hy => ⟨Nat.zero_le _, hy.2⟩)))
      have HB4 := Lib.hid (HB3.out.trans (hst4.mono HB3.out.size))
      clear bx3_paE_0 bx3_paE_1 bx3_paE_2 bx3_paE_3 bx3_paE_4 bx3_paE_5 bx3_paE_6 sz3_paE HS3_6_vE HS3_vList HS3_F6_vE_3 HS3_6_vE_3 ho4 hb4 hst4 HB3
      go_wp2_with fail
      refine (spec_IsMonotone (c0_0 := c6_vE_3) (c1_0 := c_vList_4) vE OK_vE.out hq_vE vList OK_vList.out hq_vList _ (Below.size (by repeat (first | (with_reducible exact Below.refl _ _) | (with_reducible apply Below.drew) | (with_reducible refine below_drewN ?_ _) | (refine Below.setCell ?_ (by simp <;> omega) _) | (refine Below.alloc ?_ (by simp <;> omega) _)) : Below w4.heap.size w4 _)) (HS4_6_vE_3.out.later (by repeat (first | (with_reducible exact Below.refl _ _) | (with_reducible apply Below.drew) | (with_reducible refine below_drewN ?_ _) | (refine Below.setCell ?_ (by simp <;> omega) _) | (refine Below.alloc ?_ (by simp <;> omega) _)) : Below w4.heap.size w4 _) (Nat.le_refl _)) (HS4_vList_4.out.later (by repeat (first | (with_reducible exact Below.refl _ _) | (with_reducible apply Below.drew) | (with_reducible refine below_drewN ?_ _) | (refine Below.setCell ?_ (by simp <;> omega) _) | (refine Below.alloc ?_ (by simp <;> omega) _)) : Below w4.heap.size w4 _) (Nat.le_refl _))).mono ?_
      rintro e w5 ⟨rfl, hb5⟩
      have hst5 : Below w4.heap.size w4 w5 := Below.trans (by repeat (first | (with_reducible exact Below.refl _ _) | (with_reducible apply Below.drew) | (with_reducible refine below_drewN ?_ _) | (refine Below.setCell ?_ (by simp <;> omega) _) | (refine Below.alloc ?_ (by simp <;> omega) _)) : Below w4.heap.size w4 _) (hb5.mono (Below.size (by repeat (first | (with_reducible exact Below.refl _ _) | (with_reducible apply Below.drew) | (with_reducible refine below_drewN ?_ _) | (refine Below.setCell ?_ (by simp <;> omega) _) | (refine Below.alloc ?_ (by simp <;> omega) _)) : Below w4.heap.size w4 _)))
      have sz5_paE : w.heap.size < w5.heap.size := Nat.lt_of_lt_of_le sz4_paE hst5.size
      have bx5_paE_0 : w5.cell? ⟨w.heap.size, 0, none⟩ = some (.int .i64 vE.fKind) := (hst5.cell (p := ⟨w.heap.size, 0, none⟩) sz4_paE).trans bx4_paE_0
      have bx5_paE_1 : w5.cell? ⟨w.heap.size, 1, none⟩ = some (.int .i64 vE.fN) := (hst5.cell (p := ⟨w.heap.size, 1, none⟩) sz4_paE).trans bx4_paE_1
      have bx5_paE_2 : w5.cell? ⟨w.heap.size, 2, none⟩ = some (.int .i64 vE.fPos) := (hst5.cell (p := ⟨w.heap.size, 2, none⟩) sz4_paE).trans bx4_paE_2
      have bx5_paE_3 : w5.cell? ⟨w.heap.size, 3, none⟩ = some (.int .i64 vE.fType) := (hst5.cell (p := ⟨w.heap.size, 3, none⟩) sz4_paE).trans bx4_paE_3
      have bx5_paE_4 : w5.cell? ⟨w.heap.size, 4, none⟩ = some (.string vE.fSymbol) := (hst5.cell (p := ⟨w.heap.size, 4, none⟩) sz4_paE).trans bx4_paE_4
      have bx5_paE_5 : w5.cell? ⟨w.heap.size, 5, none⟩ = some (.string vE.fName) := (hst5.cell (p := ⟨w.heap.size, 5, none⟩) sz4_paE).trans bx4_paE_5
      have bx5_paE_6 : w5.cell? ⟨w.heap.size, 6, none⟩ = some (.slice a6_vE vE.fArgs.length c6_vE) := (hst5.cell (p := ⟨w.heap.size, 6, none⟩) sz4_paE).trans bx4_paE_6
      have HS5_6_vE := Lib.hid (HS4_6_vE.out.up hst5 (Nat.le_refl _))
      have HS5_vList := Lib.hid (HS4_vList.out.up hst5 (Nat.le_refl _))
      have HS5_F6_vE_3 := Lib.hid (HS4_F6_vE_3.out.up hst5 (Nat.le_refl _))
      have HS5_6_vE_3 := Lib.hid (HS4_6_vE_3.out.up hst5 (Nat.le_refl _))
      have HS5_FvList_4 := Lib.hid (HS4_FvList_4.out.up hst5 (Nat.le_refl _))
      have HS5_vList_4 := Lib.hid (HS4_vList_4.out.up hst5 (Nat.le_refl _))
      have HB5 := Lib.hid (HB4.out.trans (hst5.mono HB4.out.size))
      clear bx4_paE_0 bx4_paE_1 bx4_paE_2 bx4_paE_3 bx4_paE_4 bx4_paE_5 bx4_paE_6 sz4_paE HS4_6_vE HS4_vList HS4_F6_vE_3 HS4_6_vE_3 HS4_FvList_4 HS4_vList_4 hb5 hst5 HB4
      go_wp2_with fail
      refine (laws_toExpr (c6 := c6_vE) vE hq_vE _ (Below.size (by repeat (first | (with_reducible exact Below.refl _ _) | (with_reducible apply Below.drew) | (with_reducible refine below_drewN ?_ _) | (refine Below.setCell ?_ (by simp <;> omega) _) | (refine Below.alloc ?_ (by simp <;> omega) _)) : Below w5.heap.size w5 _)) (HS5_6_vE.out.later (by repeat (first | (with_reducible exact Below.refl _ _) | (with_reducible apply Below.drew) | (with_reducible refine below_drewN ?_ _) | (refine Below.setCell ?_ (by simp <;> omega) _) | (refine Below.alloc ?_ (by simp <;> omega) _)) : Below w5.heap.size w5 _) (Nat.le_refl _))).mono ?_
      rintro e w6 ⟨a6_vE_6, c6_vE_6, rfl, ho6, hb6⟩
      have hst6 : Below w5.heap.size w5 w6 := Below.trans (by repeat (first | (with_reducible exact Below.refl _ _) | (with_reducible apply Below.drew) | (with_reducible refine below_drewN ?_ _) | (refine Below.setCell ?_ (by simp <;> omega) _) | (refine Below.alloc ?_ (by simp <;> omega) _)) : Below w5.heap.size w5 _) (hb6.mono (Below.size (by repeat (first | (with_reducible exact Below.refl _ _) | (with_reducible apply Below.drew) | (with_reducible refine below_drewN ?_ _) | (refine Below.setCell ?_ (by simp <;> omega) _) | (refine Below.alloc ?_ (by simp <;> omega) _)) : Below w5.heap.size w5 _)))
      have sz6_paE : w.heap.size < w6.heap.size := Nat.lt_of_lt_of_le sz5_paE hst6.size
      have bx6_paE_0 : w6.cell? ⟨w.heap.size, 0, none⟩ = some (.int .i64 vE.fKind) := (hst6.cell (p := ⟨w.heap.size, 0, none⟩) sz5_paE).trans bx5_paE_0
      have bx6_paE_1 : w6.cell? ⟨w.heap.size, 1, none⟩ = some (.int .i64 vE.fN) := (hst6.cell (p := ⟨w.heap.size, 1, none⟩) sz5_paE).trans bx5_paE_1
      have bx6_paE_2 : w6.cell? ⟨w.heap.size, 2, none⟩ = some (.int .i64 vE.fPos) := (hst6.cell (p := ⟨w.heap.size, 2, none⟩) sz5_paE).trans bx5_paE_2
      have bx6_paE_3 : w6.cell? ⟨w.heap.size, 3, none⟩ = some (.int .i64 vE.fType) := (hst6.cell (p := ⟨w.heap.size, 3, none⟩) sz5_paE).trans bx5_paE_3
      have bx6_paE_4 : w6.cell? ⟨w.heap.size, 4, none⟩ = some (.string vE.fSymbol) := (hst6.cell (p := ⟨w.heap.size, 4, none⟩) sz5_paE).trans bx5_paE_4
      have bx6_paE_5 : w6.cell? ⟨w.heap.size, 5, none⟩ = some (.string vE.fName) := (hst6.cell (p := ⟨w.heap.size, 5, none⟩) sz5_paE).trans bx5_paE_5
      have bx6_paE_6 : w6.cell? ⟨w.heap.size, 6, none⟩ = some (.slice a6_vE vE.fArgs.length c6_vE) := (hst6.cell (p := ⟨w.heap.size, 6, none⟩) sz5_paE).trans bx5_paE_6
      have HS6_6_vE := Lib.hid (HS5_6_vE.out.up hst6 (Nat.le_refl _))
      have HS6_vList := Lib.hid (HS5_vList.out.up hst6 (Nat.le_refl _))
      have HS6_F6_vE_3 := Lib.hid (HS5_F6_vE_3.out.up hst6 (Nat.le_refl _))
      have HS6_6_vE_3 := Lib.hid (HS5_6_vE_3.out.up hst6 (Nat.le_refl _))
      have HS6_FvList_4 := Lib.hid (HS5_FvList_4.out.up hst6 (Nat.le_refl _))
      have HS6_vList_4 := Lib.hid (HS5_vList_4.out.up hst6 (Nat.le_refl _))
      have HS6_F6_vE_6 := Lib.hid (show Sf 0 w6.heap.size w6 7 vE.fArgs.length (ctE vE.fArgs) a6_vE_6 from Sf.of (cap := c6_vE_6) (l := vE.fArgs.length) (a := a6_vE_6) (ho6.soft (lo := 0) (hi := w6.heap.size) (fun y hy => ⟨Nat.zero_le _, hy.2⟩) 6 (by decide)))
      have HS6_6_vE_6 := Lib.hid (show Sl 0 w6.heap.size w6 7 vE.fArgs.length (ctE vE.fArgs) a6_vE_6 from Sl.of (cap := c6_vE_6) (l := vE.fArgs.length) (a := a6_vE_6) (ho6.lies (lo := 0) (hi := w6.heap.size) (fun y hy => ⟨Nat.zero_le _, hy.2⟩) 6 (by decide)))
      have HB6 := Lib.hid (HB5.out.trans (hst6.mono HB5.out.size))
      clear bx5_paE_0 bx5_paE_1 bx5_paE_2 bx5_paE_3 bx5_paE_4 bx5_paE_5 bx5_paE_6 sz5_paE HS5_6_vE HS5_vList HS5_F6_vE_3 HS5_6_vE_3 HS5_FvList_4 HS5_vList_4 ho6 hb6 hst6 HB5
      go_wp2_with fail
      refine (laws_toOccurrenceS (cap := c_vList) vList hq_vList _ (Below.size (by repeat (first | (with_reducible exact Below.refl _ _) | (with_reducible apply Below.drew) | (with_reducible refine below_drewN ?_ _) | (refine Below.setCell ?_ (by simp <;> omega) _) | (refine Below.alloc ?_ (by simp <;> omega) _)) : Below w6.heap.size w6 _)) (HS6_vList.out.later (by repeat (first | (with_reducible exact Below.refl _ _) | (with_reducible apply Below.drew) | (with_reducible refine below_drewN ?_ _) | (refine Below.setCell ?_ (by simp <;> omega) _) | (refine Below.alloc ?_ (by simp <;> omega) _)) : Below w6.heap.size w6 _) (Nat.le_refl _))).mono ?_
      rintro e w7 ⟨a_vList_7, c_vList_7, rfl, ho7, hb7⟩
      have hst7 : Below w6.heap.size w6 w7 := Below.trans (by repeat (first | (with_reducible exact Below.refl _ _) | (with_reducible apply Below.drew) | (with_reducible refine below_drewN ?_ _) | (refine Below.setCell ?_ (by simp <;> omega) _) | (refine Below.alloc ?_ (by simp <;> omega) _)) : Below w6.heap.size w6 _) (hb7.mono (Below.size (by repeat (first | (with_reducible exact Below.refl _ _) | (with_reducible apply Below.drew) | (with_reducible refine below_drewN ?_ _) | (refine Below.setCell ?_ (by simp <;> omega) _) | (refine Below.alloc ?_ (by simp <;> omega) _)) : Below w6.heap.size w6 _)))
      have sz7_paE : w.heap.size < w7.heap.size := Nat.lt_of_lt_of_le sz6_paE hst7.size
      have bx7_paE_0 : w7.cell? ⟨w.heap.size, 0, none⟩ = some (.int .i64 vE.fKind) := (hst7.cell (p := ⟨w.heap.size, 0, none⟩) sz6_paE).trans bx6_paE_0
      have bx7_paE_1 : w7.cell? ⟨w.heap.size, 1, none⟩ = some (.int .i64 vE.fN) := (hst7.cell (p := ⟨w.heap.size, 1, none⟩) sz6_paE).trans bx6_paE_1
      have bx7_paE_2 : w7.cell? ⟨w.heap.size, 2, none⟩ = some (.int .i64 vE.fPos) := (hst7.cell (p := ⟨w.heap.size, 2, none⟩) sz6_paE).trans bx6_paE_2
      have bx7_paE_3 : w7.cell? ⟨w.heap.size, 3, none⟩ = some (.int .i64 vE.fType) := (hst7.cell (p := ⟨w.heap.size, 3, none⟩) sz6_paE).trans bx6_paE_3
      have bx7_paE_4 : w7.cell? ⟨w.heap.size, 4, none⟩ = some (.string vE.fSymbol) := (hst7.cell (p := ⟨w.heap.size, 4, none⟩) sz6_paE).trans bx6_paE_4
      have bx7_paE_5 : w7.cell? ⟨w.heap.size, 5, none⟩ = some (.string vE.fName) := (hst7.cell (p := ⟨w.heap.size, 5, none⟩) sz6_paE).trans bx6_paE_5
      have bx7_paE_6 : w7.cell? ⟨w.heap.size, 6, none⟩ = some (.slice a6_vE vE.fArgs.length c6_vE) := (hst7.cell (p := ⟨w.heap.size, 6, none⟩) sz6_paE).trans bx6_paE_6
      have sz7_x0 : w6.heap.size < w7.heap.size := Nat.lt_of_lt_of_le (by first | omega | (simp; done) | (simp; omega) | (simp [World.setCell]; omega)) hb7.size
      have bx7_x0_0 : w7.cell? ⟨w6.heap.size, 0, none⟩ = some (.int .i64 vE.fKind) := (hb7.cell (p := ⟨w6.heap.size, 0, none⟩) (by first | omega | (simp; done) | (simp; omega) | (simp [World.setCell]; omega))).trans (by go_simp)
      have bx7_x0_1 : w7.cell? ⟨w6.heap.size, 1, none⟩ = some (.int .i64 vE.fN) := (hb7.cell (p := ⟨w6.heap.size, 1, none⟩) (by first | omega | (simp; done) | (simp; omega) | (simp [World.setCell]; omega))).trans (by go_simp)
      have bx7_x0_2 : w7.cell? ⟨w6.heap.size, 2, none⟩ = some (.int .i64 vE.fPos) := (hb7.cell (p := ⟨w6.heap.size, 2, none⟩) (by first | omega | (simp; done) | (simp; omega) | (simp [World.setCell]; omega))).trans (by go_simp)
      have bx7_x0_3 : w7.cell? ⟨w6.heap.size, 3, none⟩ = some (.int .i64 vE.fType) := (hb7.cell (p := ⟨w6.heap.size, 3, none⟩) (by first | omega | (simp; done) | (simp; omega) | (simp [World.setCell]; omega))).trans (by go_simp)
      have bx7_x0_4 : w7.cell? ⟨w6.heap.size, 4, none⟩ = some (.string vE.fSymbol) := (hb7.cell (p := ⟨w6.heap.size, 4, none⟩) (by first | omega | (simp; done) | (simp; omega) | (simp [World.setCell]; omega))).trans (by go_simp)
      have bx7_x0_5 : w7.cell? ⟨w6.heap.size, 5, none⟩ = some (.string vE.fName) := (hb7.cell (p := ⟨w6.heap.size, 5, none⟩) (by first | omega | (simp; done) | (simp; omega) | (simp [World.setCell]; omega))).trans (by go_simp)
      have bx7_x0_6 : w7.cell? ⟨w6.heap.size, 6, none⟩ = some (.slice a6_vE_6 vE.fArgs.length c6_vE_6) := (hb7.cell (p := ⟨w6.heap.size, 6, none⟩) (by first | omega | (simp; done) | (simp; omega) | (simp [World.setCell]; omega))).trans (by go_simp)
      have HS7_6_vE := Lib.hid (HS6_6_vE.out.up hst7 (Nat.le_refl _))
      have HS7_vList := Lib.hid (HS6_vList.out.up hst7 (Nat.le_refl _))
      have HS7_F6_vE_3 := Lib.hid (HS6_F6_vE_3.out.up hst7 (Nat.le_refl _))
      have HS7_6_vE_3 := Lib.hid (HS6_6_vE_3.out.up hst7 (Nat.le_refl _))
      have HS7_FvList_4 := Lib.hid (HS6_FvList_4.out.up hst7 (Nat.le_refl _))
      have HS7_vList_4 := Lib.hid (HS6_vList_4.out.up hst7 (Nat.le_refl _))
      have HS7_F6_vE_6 := Lib.hid (HS6_F6_vE_6.out.up hst7 (Nat.le_refl _))
      have HS7_6_vE_6 := Lib.hid (HS6_6_vE_6.out.up hst7 (Nat.le_refl _))
      have HS7_FvList_7 := Lib.hid (show Sf 0 w7.heap.size w7 2 vList.length (fun k => DOccurrence.ct (vList.getD k default)) a_vList_7 from Sf.of (ho7.soft (lo := 0) (hi := w7.heap.size) (fun y hy => ⟨Nat.zero_le _, hy.2⟩)))
      have HS7_vList_7 := Lib.hid (show Sl 0 w7.heap.size w7 2 vList.length (fun k => DOccurrence.ct (vList.getD k default)) a_vList_7 from Sl.of (ho7.lies (lo := 0) (hi := w7.heap.size) (fun y hy => ⟨Nat.zero_le _, hy.2⟩)))
      have HB7 := Lib.hid (HB6.out.trans (hst7.mono HB6.out.size))
      clear bx6_paE_0 bx6_paE_1 bx6_paE_2 bx6_paE_3 bx6_paE_4 bx6_paE_5 bx6_paE_6 sz6_paE HS6_6_vE HS6_vList HS6_F6_vE_3 HS6_6_vE_3 HS6_FvList_4 HS6_vList_4 HS6_F6_vE_6 HS6_6_vE_6 ho7 hb7 hst7 HB6
      go_wp2_with fail
      refine (impl_IsMonotone (c0_0 := c6_vE_6) (c1_0 := c_vList_7) vE OK_vE.out hq_vE vList OK_vList.out hq_vList _ (Below.size (by repeat (first | (with_reducible exact Below.refl _ _) | (with_reducible apply Below.drew) | (with_reducible refine below_drewN ?_ _) | (refine Below.setCell ?_ (by simp <;> omega) _) | (refine Below.alloc ?_ (by simp <;> omega) _)) : Below w7.heap.size w7 _)) (HS7_F6_vE_6.out.later (by repeat (first | (with_reducible exact Below.refl _ _) | (with_reducible apply Below.drew) | (with_reducible refine below_drewN ?_ _) | (refine Below.setCell ?_ (by simp <;> omega) _) | (refine Below.alloc ?_ (by simp <;> omega) _)) : Below w7.heap.size w7 _) (Nat.le_refl _)) (HS7_FvList_7.out.later (by repeat (first | (with_reducible exact Below.refl _ _) | (with_reducible apply Below.drew) | (with_reducible refine below_drewN ?_ _) | (refine Below.setCell ?_ (by simp <;> omega) _) | (refine Below.alloc ?_ (by simp <;> omega) _)) : Below w7.heap.size w7 _) (Nat.le_refl _))).mono ?_
      rintro e w8 ⟨rfl, hb8⟩
      have hst8 : Below w7.heap.size w7 w8 := Below.trans (by repeat (first | (with_reducible exact Below.refl _ _) | (with_reducible apply Below.drew) | (with_reducible refine below_drewN ?_ _) | (refine Below.setCell ?_ (by simp <;> omega) _) | (refine Below.alloc ?_ (by simp <;> omega) _)) : Below w7.heap.size w7 _) (hb8.mono (Below.size (by repeat (first | (with_reducible exact Below.refl _ _) | (with_reducible apply Below.drew) | (with_reducible refine below_drewN ?_ _) | (refine Below.setCell ?_ (by simp <;> omega) _) | (refine Below.alloc ?_ (by simp <;> omega) _)) : Below w7.heap.size w7 _)))
      have sz8_paE : w.heap.size < w8.heap.size := Nat.lt_of_lt_of_le sz7_paE hst8.size
      have bx8_paE_0 : w8.cell? ⟨w.heap.size, 0, none⟩ = some (.int .i64 vE.fKind) := (hst8.cell (p := ⟨w.heap.size, 0, none⟩) sz7_paE).trans bx7_paE_0
      have bx8_paE_1 : w8.cell? ⟨w.heap.size, 1, none⟩ = some (.int .i64 vE.fN) := (hst8.cell (p := ⟨w.heap.size, 1, none⟩) sz7_paE).trans bx7_paE_1
      have bx8_paE_2 : w8.cell? ⟨w.heap.size, 2, none⟩ = some (.int .i64 vE.fPos) := (hst8.cell (p := ⟨w.heap.size, 2, none⟩) sz7_paE).trans bx7_paE_2
      have bx8_paE_3 : w8.cell? ⟨w.heap.size, 3, none⟩ = some (.int .i64 vE.fType) := (hst8.cell (p := ⟨w.heap.size, 3, none⟩) sz7_paE).trans bx7_paE_3
      have bx8_paE_4 : w8.cell? ⟨w.heap.size, 4, none⟩ = some (.string vE.fSymbol) := (hst8.cell (p := ⟨w.heap.size, 4, none⟩) sz7_paE).trans bx7_paE_4
      have bx8_paE_5 : w8.cell? ⟨w.heap.size, 5, none⟩ = some (.string vE.fName) := (hst8.cell (p := ⟨w.heap.size, 5, none⟩) sz7_paE).trans bx7_paE_5
      have bx8_paE_6 : w8.cell? ⟨w.heap.size, 6, none⟩ = some (.slice a6_vE vE.fArgs.length c6_vE) := (hst8.cell (p := ⟨w.heap.size, 6, none⟩) sz7_paE).trans bx7_paE_6
      have sz8_x0 : w6.heap.size < w8.heap.size := Nat.lt_of_lt_of_le sz7_x0 hst8.size
      have bx8_x0_0 : w8.cell? ⟨w6.heap.size, 0, none⟩ = some (.int .i64 vE.fKind) := (hst8.cell (p := ⟨w6.heap.size, 0, none⟩) sz7_x0).trans bx7_x0_0
      have bx8_x0_1 : w8.cell? ⟨w6.heap.size, 1, none⟩ = some (.int .i64 vE.fN) := (hst8.cell (p := ⟨w6.heap.size, 1, none⟩) sz7_x0).trans bx7_x0_1
      have bx8_x0_2 : w8.cell? ⟨w6.heap.size, 2, none⟩ = some (.int .i64 vE.fPos) := (hst8.cell (p := ⟨w6.heap.size, 2, none⟩) sz7_x0).trans bx7_x0_2
      have bx8_x0_3 : w8.cell? ⟨w6.heap.size, 3, none⟩ = some (.int .i64 vE.fType) := (hst8.cell (p := ⟨w6.heap.size, 3, none⟩) sz7_x0).trans bx7_x0_3
      have bx8_x0_4 : w8.cell? ⟨w6.heap.size, 4, none⟩ = some (.string vE.fSymbol) := (hst8.cell (p := ⟨w6.heap.size, 4, none⟩) sz7_x0).trans bx7_x0_4
      have bx8_x0_5 : w8.cell? ⟨w6.heap.size, 5, none⟩ = some (.string vE.fName) := (hst8.cell (p := ⟨w6.heap.size, 5, none⟩) sz7_x0).trans bx7_x0_5
      have bx8_x0_6 : w8.cell? ⟨w6.heap.size, 6, none⟩ = some (.slice a6_vE_6 vE.fArgs.length c6_vE_6) := (hst8.cell (p := ⟨w6.heap.size, 6, none⟩) sz7_x0).trans bx7_x0_6
      have HS8_6_vE := Lib.hid (HS7_6_vE.out.up hst8 (Nat.le_refl _))
      have HS8_vList := Lib.hid (HS7_vList.out.up hst8 (Nat.le_refl _))
      have HS8_F6_vE_3 := Lib.hid (HS7_F6_vE_3.out.up hst8 (Nat.le_refl _))
      have HS8_6_vE_3 := Lib.hid (HS7_6_vE_3.out.up hst8 (Nat.le_refl _))
      have HS8_FvList_4 := Lib.hid (HS7_FvList_4.out.up hst8 (Nat.le_refl _))
      have HS8_vList_4 := Lib.hid (HS7_vList_4.out.up hst8 (Nat.le_refl _))
      have HS8_F6_vE_6 := Lib.hid (HS7_F6_vE_6.out.up hst8 (Nat.le_refl _))
      have HS8_6_vE_6 := Lib.hid (HS7_6_vE_6.out.up hst8 (Nat.le_refl _))
      have HS8_FvList_7 := Lib.hid (HS7_FvList_7.out.up hst8 (Nat.le_refl _))
      have HS8_vList_7 := Lib.hid (HS7_vList_7.out.up hst8 (Nat.le_refl _))
      have HB8 := Lib.hid (HB7.out.trans (hst8.mono HB7.out.size))
      clear bx7_paE_0 bx7_paE_1 bx7_paE_2 bx7_paE_3 bx7_paE_4 bx7_paE_5 bx7_paE_6 sz7_paE bx7_x0_0 bx7_x0_1 bx7_x0_2 bx7_x0_3 bx7_x0_4 bx7_x0_5 bx7_x0_6 sz7_x0 HS7_6_vE HS7_vList HS7_F6_vE_3 HS7_6_vE_3 HS7_FvList_4 HS7_vList_4 HS7_F6_vE_6 HS7_6_vE_6 HS7_FvList_7 HS7_vList_7 hb8 hst8 HB7
      go_wp2_with fail
      go_region_with ((first | (go_at_call 9; refine (laws_toExpr (c6 := c6_vE) vE hq_vE _ (Below.size (by repeat (first | (with_reducible exact Below.refl _ _) | (with_reducible apply Below.drew) | (with_reducible refine below_drewN ?_ _) | (refine Below.setCell ?_ (by simp <;> omega) _) | (refine Below.alloc ?_ (by simp <;> omega) _)) : Below w8.heap.size w8 _)) (HS8_6_vE.out.later (by repeat (first | (with_reducible exact Below.refl _ _) | (with_reducible apply Below.drew) | (with_reducible refine below_drewN ?_ _) | (refine Below.setCell ?_ (by simp <;> omega) _) | (refine Below.alloc ?_ (by simp <;> omega) _)) : Below w8.heap.size w8 _) (Nat.le_refl _))).mono ?_; rintro e w9 ⟨a6_vE_9, c6_vE_9, rfl, ho9, hb9⟩; have hst9 : Below w8.heap.size w8 w9 := Below.trans (by repeat (first | (with_reducible exact Below.refl _ _) | (with_reducible apply Below.drew) | (with_reducible refine below_drewN ?_ _) | (refine Below.setCell ?_ (by simp <;> omega) _) | (refine Below.alloc ?_ (by simp <;> omega) _)) : Below w8.heap.size w8 _) (hb9.mono (Below.size (by repeat (first | (with_reducible exact Below.refl _ _) | (with_reducible apply Below.drew) | (with_reducible refine below_drewN ?_ _) | (refine Below.setCell ?_ (by simp <;> omega) _) | (refine Below.alloc ?_ (by simp <;> omega) _)) : Below w8.heap.size w8 _))); have sz9_paE : w.heap.size < w9.heap.size := Nat.lt_of_lt_of_le sz8_paE hst9.size; have bx9_paE_0 : w9.cell? ⟨w.heap.size, 0, none⟩ = some (.int .i64 vE.fKind) := (hst9.cell (p := ⟨w.heap.size, 0, none⟩) sz8_paE).trans bx8_paE_0; have bx9_paE_1 : w9.cell? ⟨w.heap.size, 1, none⟩ = some (.int .i64 vE.fN) := (hst9.cell (p := ⟨w.heap.size, 1, none⟩) sz8_paE).trans bx8_paE_1; have bx9_paE_2 : w9.cell? ⟨w.heap.size, 2, none⟩ = some (.int .i64 vE.fPos) := (hst9.cell (p := ⟨w.heap.size, 2, none⟩) sz8_paE).trans bx8_paE_2; have bx9_paE_3 : w9.cell? ⟨w.heap.size, 3, none⟩ = some (.int .i64 vE.fType) := (hst9.cell (p := ⟨w.heap.size, 3, none⟩) sz8_paE).trans bx8_paE_3; have bx9_paE_4 : w9.cell? ⟨w.heap.size, 4, none⟩ = some (.string vE.fSymbol) := (hst9.cell (p := ⟨w.heap.size, 4, none⟩) sz8_paE).trans bx8_paE_4; have bx9_paE_5 : w9.cell? ⟨w.heap.size, 5, none⟩ = some (.string vE.fName) := (hst9.cell (p := ⟨w.heap.size, 5, none⟩) sz8_paE).trans bx8_paE_5; have bx9_paE_6 : w9.cell? ⟨w.heap.size, 6, none⟩ = some (.slice a6_vE vE.fArgs.length c6_vE) := (hst9.cell (p := ⟨w.heap.size, 6, none⟩) sz8_paE).trans bx8_paE_6; have sz9_x0 : w6.heap.size < w9.heap.size := Nat.lt_of_lt_of_le sz8_x0 hst9.size; have bx9_x0_0 : w9.cell? ⟨w6.heap.size, 0, none⟩ = some (.int .i64 vE.fKind) := (hst9.cell (p := ⟨w6.heap.size, 0, none⟩) sz8_x0).trans bx8_x0_0; have bx9_x0_1 : w9.cell? ⟨w6.heap.size, 1, none⟩ = some (.int .i64 vE.fN) := (hst9.cell (p := ⟨w6.heap.size, 1, none⟩) sz8_x0).trans bx8_x0_1; have bx9_x0_2 : w9.cell? ⟨w6.heap.size, 2, none⟩ = some (.int .i64 vE.fPos) := (hst9.cell (p := ⟨w6.heap.size, 2, none⟩) sz8_x0).trans bx8_x0_2; have bx9_x0_3 : w9.cell? ⟨w6.heap.size, 3, none⟩ = some (.int .i64 vE.fType) := (hst9.cell (p := ⟨w6.heap.size, 3, none⟩) sz8_x0).trans bx8_x0_3; have bx9_x0_4 : w9.cell? ⟨w6.heap.size, 4, none⟩ = some (.string vE.fSymbol) := (hst9.cell (p := ⟨w6.heap.size, 4, none⟩) sz8_x0).trans bx8_x0_4; have bx9_x0_5 : w9.cell? ⟨w6.heap.size, 5, none⟩ = some (.string vE.fName) := (hst9.cell (p := ⟨w6.heap.size, 5, none⟩) sz8_x0).trans bx8_x0_5; have bx9_x0_6 : w9.cell? ⟨w6.heap.size, 6, none⟩ = some (.slice a6_vE_6 vE.fArgs.length c6_vE_6) := (hst9.cell (p := ⟨w6.heap.size, 6, none⟩) sz8_x0).trans bx8_x0_6; have HS9_6_vE := Lib.hid (HS8_6_vE.out.up hst9 (Nat.le_refl _)); have HS9_vList := Lib.hid (HS8_vList.out.up hst9 (Nat.le_refl _)); have HS9_F6_vE_3 := Lib.hid (HS8_F6_vE_3.out.up hst9 (Nat.le_refl _)); have HS9_6_vE_3 := Lib.hid (HS8_6_vE_3.out.up hst9 (Nat.le_refl _)); have HS9_FvList_4 := Lib.hid (HS8_FvList_4.out.up hst9 (Nat.le_refl _)); have HS9_vList_4 := Lib.hid (HS8_vList_4.out.up hst9 (Nat.le_refl _)); have HS9_F6_vE_6 := Lib.hid (HS8_F6_vE_6.out.up hst9 (Nat.le_refl _)); have HS9_6_vE_6 := Lib.hid (HS8_6_vE_6.out.up hst9 (Nat.le_refl _)); have HS9_FvList_7 := Lib.hid (HS8_FvList_7.out.up hst9 (Nat.le_refl _)); have HS9_vList_7 := Lib.hid (HS8_vList_7.out.up hst9 (Nat.le_refl _)); have HS9_F6_vE_9 := Lib.hid (show Sf 0 w9.heap.size w9 7 vE.fArgs.length (ctE vE.fArgs) a6_vE_9 from Sf.of (cap := c6_vE_9) (l := vE.fArgs.length) (a := a6_vE_9) (ho9.soft (lo := 0) (hi := w9.heap.size) (fun y hy => ⟨Nat.zero_le _, hy.2⟩) 6 (by decide))); have HS9_6_vE_9 := Lib.hid (show Sl 0 w9.heap.size w9 7 vE.fArgs.length (ctE vE.fArgs) a6_vE_9 from Sl.of (cap := c6_vE_9) (l := vE.fArgs.length) (a := a6_vE_9) (ho9.lies (lo := 0) (hi := w9.heap.size) (fun y hy => ⟨Nat.zero_le _, hy.2⟩) 6 (by decide))); have HB9 := Lib.hid (HB8.out.trans (hst9.mono HB8.out.size)); clear bx8_paE_0 bx8_paE_1 bx8_paE_2 bx8_paE_3 bx8_paE_4 bx8_paE_5 bx8_paE_6 sz8_paE bx8_x0_0 bx8_x0_1 bx8_x0_2 bx8_x0_3 bx8_x0_4 bx8_x0_5 bx8_x0_6 sz8_x0 HS8_6_vE HS8_vList HS8_F6_vE_3 HS8_6_vE_3 HS8_FvList_4 HS8_vList_4 HS8_F6_vE_6 HS8_6_vE_6 HS8_FvList_7 HS8_vList_7 ho9 hb9 hst9 HB8) | (go_at_call 12; refine (laws_eqExpr (c6 := c6_vE_6) (c6q := c6_vE_9) vE hq_vE _ (Below.size (by repeat (first | (with_reducible exact Below.refl _ _) | (with_reducible apply Below.drew) | (with_reducible refine below_drewN ?_ _) | (refine Below.setCell ?_ (by simp <;> omega) _) | (refine Below.alloc ?_ (by simp <;> omega) _)) : Below w9.heap.size w9 _)) (Below.size (by repeat (first | (with_reducible exact Below.refl _ _) | (with_reducible apply Below.drew) | (with_reducible refine below_drewN ?_ _) | (refine Below.setCell ?_ (by simp <;> omega) _) | (refine Below.alloc ?_ (by simp <;> omega) _)) : Below w9.heap.size w9 _)) (HS9_6_vE_6.out.later (by repeat (first | (with_reducible exact Below.refl _ _) | (with_reducible apply Below.drew) | (with_reducible refine below_drewN ?_ _) | (refine Below.setCell ?_ (by simp <;> omega) _) | (refine Below.alloc ?_ (by simp <;> omega) _)) : Below w9.heap.size w9 _) (Nat.le_refl _)) (HS9_6_vE_9.out.later (by repeat (first | (with_reducible exact Below.refl _ _) | (with_reducible apply Below.drew) | (with_reducible refine below_drewN ?_ _) | (refine Below.setCell ?_ (by simp <;> omega) _) | (refine Below.alloc ?_ (by simp <;> omega) _)) : Below w9.heap.size w9 _) (Nat.le_refl _))).mono ?_; rintro e w10 ⟨rfl, hb10⟩; have hst10 : Below w9.heap.size w9 w10 := Below.trans (by repeat (first | (with_reducible exact Below.refl _ _) | (with_reducible apply Below.drew) | (with_reducible refine below_drewN ?_ _) | (refine Below.setCell ?_ (by simp <;> omega) _) | (refine Below.alloc ?_ (by simp <;> omega) _)) : Below w9.heap.size w9 _) (hb10.mono (Below.size (by repeat (first | (with_reducible exact Below.refl _ _) | (with_reducible apply Below.drew) | (with_reducible refine below_drewN ?_ _) | (refine Below.setCell ?_ (by simp <;> omega) _) | (refine Below.alloc ?_ (by simp <;> omega) _)) : Below w9.heap.size w9 _))); have sz10_paE : w.heap.size < w10.heap.size := Nat.lt_of_lt_of_le sz9_paE hst10.size; have bx10_paE_0 : w10.cell? ⟨w.heap.size, 0, none⟩ = some (.int .i64 vE.fKind) := (hst10.cell (p := ⟨w.heap.size, 0, none⟩) sz9_paE).trans bx9_paE_0; have bx10_paE_1 : w10.cell? ⟨w.heap.size, 1, none⟩ = some (.int .i64 vE.fN) := (hst10.cell (p := ⟨w.heap.size, 1, none⟩) sz9_paE).trans bx9_paE_1; have bx10_paE_2 : w10.cell? ⟨w.heap.size, 2, none⟩ = some (.int .i64 vE.fPos) := (hst10.cell (p := ⟨w.heap.size, 2, none⟩) sz9_paE).trans bx9_paE_2; have bx10_paE_3 : w10.cell? ⟨w.heap.size, 3, none⟩ = some (.int .i64 vE.fType) := (hst10.cell (p := ⟨w.heap.size, 3, none⟩) sz9_paE).trans bx9_paE_3; have bx10_paE_4 : w10.cell? ⟨w.heap.size, 4, none⟩ = some (.string vE.fSymbol) := (hst10.cell (p := ⟨w.heap.size, 4, none⟩) sz9_paE).trans bx9_paE_4; have bx10_paE_5 : w10.cell? ⟨w.heap.size, 5, none⟩ = some (.string vE.fName) := (hst10.cell (p := ⟨w.heap.size, 5, none⟩) sz9_paE).trans bx9_paE_5; have bx10_paE_6 : w10.cell? ⟨w.heap.size, 6, none⟩ = some (.slice a6_vE vE.fArgs.length c6_vE) := (hst10.cell (p := ⟨w.heap.size, 6, none⟩) sz9_paE).trans bx9_paE_6; have sz10_x0 : w6.heap.size < w10.heap.size := Nat.lt_of_lt_of_le sz9_x0 hst10.size; have bx10_x0_0 : w10.cell? ⟨w6.heap.size, 0, none⟩ = some (.int .i64 vE.fKind) := (hst10.cell (p := ⟨w6.heap.size, 0, none⟩) sz9_x0).trans bx9_x0_0; have bx10_x0_1 : w10.cell? ⟨w6.heap.size, 1, none⟩ = some (.int .i64 vE.fN) := (hst10.cell (p := ⟨w6.heap.size, 1, none⟩) sz9_x0).trans bx9_x0_1; have bx10_x0_2 : w10.cell? ⟨w6.heap.size, 2, none⟩ = some (.int .i64 vE.fPos) := (hst10.cell (p := ⟨w6.heap.size, 2, none⟩) sz9_x0).trans bx9_x0_2; have bx10_x0_3 : w10.cell? ⟨w6.heap.size, 3, none⟩ = some (.int .i64 vE.fType) := (hst10.cell (p := ⟨w6.heap.size, 3, none⟩) sz9_x0).trans bx9_x0_3; have bx10_x0_4 : w10.cell? ⟨w6.heap.size, 4, none⟩ = some (.string vE.fSymbol) := (hst10.cell (p := ⟨w6.heap.size, 4, none⟩) sz9_x0).trans bx9_x0_4; have bx10_x0_5 : w10.cell? ⟨w6.heap.size, 5, none⟩ = some (.string vE.fName) := (hst10.cell (p := ⟨w6.heap.size, 5, none⟩) sz9_x0).trans bx9_x0_5; have bx10_x0_6 : w10.cell? ⟨w6.heap.size, 6, none⟩ = some (.slice a6_vE_6 vE.fArgs.length c6_vE_6) := (hst10.cell (p := ⟨w6.heap.size, 6, none⟩) sz9_x0).trans bx9_x0_6; have HS10_6_vE := Lib.hid (HS9_6_vE.out.up hst10 (Nat.le_refl _)); have HS10_vList := Lib.hid (HS9_vList.out.up hst10 (Nat.le_refl _)); have HS10_F6_vE_3 := Lib.hid (HS9_F6_vE_3.out.up hst10 (Nat.le_refl _)); have HS10_6_vE_3 := Lib.hid (HS9_6_vE_3.out.up hst10 (Nat.le_refl _)); have HS10_FvList_4 := Lib.hid (HS9_FvList_4.out.up hst10 (Nat.le_refl _)); have HS10_vList_4 := Lib.hid (HS9_vList_4.out.up hst10 (Nat.le_refl _)); have HS10_F6_vE_6 := Lib.hid (HS9_F6_vE_6.out.up hst10 (Nat.le_refl _)); have HS10_6_vE_6 := Lib.hid (HS9_6_vE_6.out.up hst10 (Nat.le_refl _)); have HS10_FvList_7 := Lib.hid (HS9_FvList_7.out.up hst10 (Nat.le_refl _)); have HS10_vList_7 := Lib.hid (HS9_vList_7.out.up hst10 (Nat.le_refl _)); have HS10_F6_vE_9 := Lib.hid (HS9_F6_vE_9.out.up hst10 (Nat.le_refl _)); have HS10_6_vE_9 := Lib.hid (HS9_6_vE_9.out.up hst10 (Nat.le_refl _)); have HB10 := Lib.hid (HB9.out.trans (hst10.mono HB9.out.size)); clear bx9_paE_0 bx9_paE_1 bx9_paE_2 bx9_paE_3 bx9_paE_4 bx9_paE_5 bx9_paE_6 sz9_paE bx9_x0_0 bx9_x0_1 bx9_x0_2 bx9_x0_3 bx9_x0_4 bx9_x0_5 bx9_x0_6 sz9_x0 HS9_6_vE HS9_vList HS9_F6_vE_3 HS9_6_vE_3 HS9_FvList_4 HS9_vList_4 HS9_F6_vE_6 HS9_6_vE_6 HS9_FvList_7 HS9_vList_7 HS9_F6_vE_9 HS9_6_vE_9 hb10 hst10 HB9)))
      all_goals
        go_wp2_with fail
        refine (laws_toOccurrenceS (cap := c_vList) vList hq_vList _ (Below.size (by repeat (first | (with_reducible exact Below.refl _ _) | (with_reducible apply Below.drew) | (with_reducible refine below_drewN ?_ _) | (refine Below.setCell ?_ (by simp <;> omega) _) | (refine Below.alloc ?_ (by simp <;> omega) _)) : Below w10.heap.size w10 _)) (HS10_vList.out.later (by repeat (first | (with_reducible exact Below.refl _ _) | (with_reducible apply Below.drew) | (with_reducible refine below_drewN ?_ _) | (refine Below.setCell ?_ (by simp <;> omega) _) | (refine Below.alloc ?_ (by simp <;> omega) _)) : Below w10.heap.size w10 _) (Nat.le_refl _))).mono ?_
        rintro e w11 ⟨a_vList_11, c_vList_11, rfl, ho11, hb11⟩
        have hst11 : Below w10.heap.size w10 w11 := Below.trans (by repeat (first | (with_reducible exact Below.refl _ _) | (with_reducible apply Below.drew) | (with_reducible refine below_drewN ?_ _) | (refine Below.setCell ?_ (by simp <;> omega) _) | (refine Below.alloc ?_ (by simp <;> omega) _)) : Below w10.heap.size w10 _) (hb11.mono (Below.size (by repeat (first | (with_reducible exact Below.refl _ _) | (with_reducible apply Below.drew) | (with_reducible refine below_drewN ?_ _) | (refine Below.setCell ?_ (by simp <;> omega) _) | (refine Below.alloc ?_ (by simp <;> omega) _)) : Below w10.heap.size w10 _)))
        have sz11_paE : w.heap.size < w11.heap.size := Nat.lt_of_lt_of_le sz10_paE hst11.size
        have bx11_paE_0 : w11.cell? ⟨w.heap.size, 0, none⟩ = some (.int .i64 vE.fKind) := (hst11.cell (p := ⟨w.heap.size, 0, none⟩) sz10_paE).trans bx10_paE_0
        have bx11_paE_1 : w11.cell? ⟨w.heap.size, 1, none⟩ = some (.int .i64 vE.fN) := (hst11.cell (p := ⟨w.heap.size, 1, none⟩) sz10_paE).trans bx10_paE_1
        have bx11_paE_2 : w11.cell? ⟨w.heap.size, 2, none⟩ = some (.int .i64 vE.fPos) := (hst11.cell (p := ⟨w.heap.size, 2, none⟩) sz10_paE).trans bx10_paE_2
        have bx11_paE_3 : w11.cell? ⟨w.heap.size, 3, none⟩ = some (.int .i64 vE.fType) := (hst11.cell (p := ⟨w.heap.size, 3, none⟩) sz10_paE).trans bx10_paE_3
        have bx11_paE_4 : w11.cell? ⟨w.heap.size, 4, none⟩ = some (.string vE.fSymbol) := (hst11.cell (p := ⟨w.heap.size, 4, none⟩) sz10_paE).trans bx10_paE_4
        have bx11_paE_5 : w11.cell? ⟨w.heap.size, 5, none⟩ = some (.string vE.fName) := (hst11.cell (p := ⟨w.heap.size, 5, none⟩) sz10_paE).trans bx10_paE_5
        have bx11_paE_6 : w11.cell? ⟨w.heap.size, 6, none⟩ = some (.slice a6_vE vE.fArgs.length c6_vE) := (hst11.cell (p := ⟨w.heap.size, 6, none⟩) sz10_paE).trans bx10_paE_6
        have sz11_x0 : w6.heap.size < w11.heap.size := Nat.lt_of_lt_of_le sz10_x0 hst11.size
        have bx11_x0_0 : w11.cell? ⟨w6.heap.size, 0, none⟩ = some (.int .i64 vE.fKind) := (hst11.cell (p := ⟨w6.heap.size, 0, none⟩) sz10_x0).trans bx10_x0_0
        have bx11_x0_1 : w11.cell? ⟨w6.heap.size, 1, none⟩ = some (.int .i64 vE.fN) := (hst11.cell (p := ⟨w6.heap.size, 1, none⟩) sz10_x0).trans bx10_x0_1
        have bx11_x0_2 : w11.cell? ⟨w6.heap.size, 2, none⟩ = some (.int .i64 vE.fPos) := (hst11.cell (p := ⟨w6.heap.size, 2, none⟩) sz10_x0).trans bx10_x0_2
        have bx11_x0_3 : w11.cell? ⟨w6.heap.size, 3, none⟩ = some (.int .i64 vE.fType) := (hst11.cell (p := ⟨w6.heap.size, 3, none⟩) sz10_x0).trans bx10_x0_3
        have bx11_x0_4 : w11.cell? ⟨w6.heap.size, 4, none⟩ = some (.string vE.fSymbol) := (hst11.cell (p := ⟨w6.heap.size, 4, none⟩) sz10_x0).trans bx10_x0_4
        have bx11_x0_5 : w11.cell? ⟨w6.heap.size, 5, none⟩ = some (.string vE.fName) := (hst11.cell (p := ⟨w6.heap.size, 5, none⟩) sz10_x0).trans bx10_x0_5
        have bx11_x0_6 : w11.cell? ⟨w6.heap.size, 6, none⟩ = some (.slice a6_vE_6 vE.fArgs.length c6_vE_6) := (hst11.cell (p := ⟨w6.heap.size, 6, none⟩) sz10_x0).trans bx10_x0_6
        have HS11_6_vE := Lib.hid (HS10_6_vE.out.up hst11 (Nat.le_refl _))
        have HS11_vList := Lib.hid (HS10_vList.out.up hst11 (Nat.le_refl _))
        have HS11_F6_vE_3 := Lib.hid (HS10_F6_vE_3.out.up hst11 (Nat.le_refl _))
        have HS11_6_vE_3 := Lib.hid (HS10_6_vE_3.out.up hst11 (Nat.le_refl _))
        have HS11_FvList_4 := Lib.hid (HS10_FvList_4.out.up hst11 (Nat.le_refl _))
        have HS11_vList_4 := Lib.hid (HS10_vList_4.out.up hst11 (Nat.le_refl _))
        have HS11_F6_vE_6 := Lib.hid (HS10_F6_vE_6.out.up hst11 (Nat.le_refl _))
        have HS11_6_vE_6 := Lib.hid (HS10_6_vE_6.out.up hst11 (Nat.le_refl _))
        have HS11_FvList_7 := Lib.hid (HS10_FvList_7.out.up hst11 (Nat.le_refl _))
        have HS11_vList_7 := Lib.hid (HS10_vList_7.out.up hst11 (Nat.le_refl _))
        have HS11_F6_vE_9 := Lib.hid (HS10_F6_vE_9.out.up hst11 (Nat.le_refl _))
        have HS11_6_vE_9 := Lib.hid (HS10_6_vE_9.out.up hst11 (Nat.le_refl _))
        have HS11_FvList_11 := Lib.hid (show Sf 0 w11.heap.size w11 2 vList.length (fun k => DOccurrence.ct (vList.getD k default)) a_vList_11 from Sf.of (ho11.soft (lo := 0) (hi := w11.heap.size) (fun y hy => ⟨Nat.zero_le _, hy.2⟩)))
        have HS11_vList_11 := Lib.hid (show Sl 0 w11.heap.size w11 2 vList.length (fun k => DOccurrence.ct (vList.getD k default)) a_vList_11 from Sl.of (ho11.lies (lo := 0) (hi := w11.heap.size) (fun y hy => ⟨Nat.zero_le _, hy.2⟩)))
        have HB11 := Lib.hid (HB10.out.trans (hst11.mono HB10.out.size))
        clear bx10_paE_0 bx10_paE_1 bx10_paE_2 bx10_paE_3 bx10_paE_4 bx10_paE_5 bx10_paE_6 sz10_paE bx10_x0_0 bx10_x0_1 bx10_x0_2 bx10_x0_3 bx10_x0_4 bx10_x0_5 bx10_x0_6 sz10_x0 HS10_6_vE HS10_vList HS10_F6_vE_3 HS10_6_vE_3 HS10_FvList_4 HS10_vList_4 HS10_F6_vE_6 HS10_6_vE_6 HS10_FvList_7 HS10_vList_7 HS10_F6_vE_9 HS10_6_vE_9 ho11 hb11 hst11 HB10
        go_wp2_with fail
        refine (laws_eqOccurrenceS (cap := c_vList_7) (cap2 := c_vList_11) vList hq_vList _ (Below.size (by repeat (first | (with_reducible exact Below.refl _ _) | (with_reducible apply Below.drew) | (with_reducible refine below_drewN ?_ _) | (refine Below.setCell ?_ (by simp <;> omega) _) | (refine Below.alloc ?_ (by simp <;> omega) _)) : Below w11.heap.size w11 _)) (Below.size (by repeat (first | (with_reducible exact Below.refl _ _) | (with_reducible apply Below.drew) | (with_reducible refine below_drewN ?_ _) | (refine Below.setCell ?_ (by simp <;> omega) _) | (refine Below.alloc ?_ (by simp <;> omega) _)) : Below w11.heap.size w11 _)) (HS11_vList_7.out.later (by repeat (first | (with_reducible exact Below.refl _ _) | (with_reducible apply Below.drew) | (with_reducible refine below_drewN ?_ _) | (refine Below.setCell ?_ (by simp <;> omega) _) | (refine Below.alloc ?_ (by simp <;> omega) _)) : Below w11.heap.size w11 _) (Nat.le_refl _)) (HS11_vList_11.out.later (by repeat (first | (with_reducible exact Below.refl _ _) | (with_reducible apply Below.drew) | (with_reducible refine below_drewN ?_ _) | (refine Below.setCell ?_ (by simp <;> omega) _) | (refine Below.alloc ?_ (by simp <;> omega) _)) : Below w11.heap.size w11 _) (Nat.le_refl _))).mono ?_
        rintro e w12 ⟨rfl, hb12⟩
        have hst12 : Below w11.heap.size w11 w12 := Below.trans (by repeat (first | (with_reducible exact Below.refl _ _) | (with_reducible apply Below.drew) | (with_reducible refine below_drewN ?_ _) | (refine Below.setCell ?_ (by simp <;> omega) _) | (refine Below.alloc ?_ (by simp <;> omega) _)) : Below w11.heap.size w11 _) (hb12.mono (Below.size (by repeat (first | (with_reducible exact Below.refl _ _) | (with_reducible apply Below.drew) | (with_reducible refine below_drewN ?_ _) | (refine Below.setCell ?_ (by simp <;> omega) _) | (refine Below.alloc ?_ (by simp <;> omega) _)) : Below w11.heap.size w11 _)))
        have sz12_paE : w.heap.size < w12.heap.size := Nat.lt_of_lt_of_le sz11_paE hst12.size
        have bx12_paE_0 : w12.cell? ⟨w.heap.size, 0, none⟩ = some (.int .i64 vE.fKind) := (hst12.cell (p := ⟨w.heap.size, 0, none⟩) sz11_paE).trans bx11_paE_0
        have bx12_paE_1 : w12.cell? ⟨w.heap.size, 1, none⟩ = some (.int .i64 vE.fN) := (hst12.cell (p := ⟨w.heap.size, 1, none⟩) sz11_paE).trans bx11_paE_1
        have bx12_paE_2 : w12.cell? ⟨w.heap.size, 2, none⟩ = some (.int .i64 vE.fPos) := (hst12.cell (p := ⟨w.heap.size, 2, none⟩) sz11_paE).trans bx11_paE_2
        have bx12_paE_3 : w12.cell? ⟨w.heap.size, 3, none⟩ = some (.int .i64 vE.fType) := (hst12.cell (p := ⟨w.heap.size, 3, none⟩) sz11_paE).trans bx11_paE_3
        have bx12_paE_4 : w12.cell? ⟨w.heap.size, 4, none⟩ = some (.string vE.fSymbol) := (hst12.cell (p := ⟨w.heap.size, 4, none⟩) sz11_paE).trans bx11_paE_4
        have bx12_paE_5 : w12.cell? ⟨w.heap.size, 5, none⟩ = some (.string vE.fName) := (hst12.cell (p := ⟨w.heap.size, 5, none⟩) sz11_paE).trans bx11_paE_5
        have bx12_paE_6 : w12.cell? ⟨w.heap.size, 6, none⟩ = some (.slice a6_vE vE.fArgs.length c6_vE) := (hst12.cell (p := ⟨w.heap.size, 6, none⟩) sz11_paE).trans bx11_paE_6
        have sz12_x0 : w6.heap.size < w12.heap.size := Nat.lt_of_lt_of_le sz11_x0 hst12.size
        have bx12_x0_0 : w12.cell? ⟨w6.heap.size, 0, none⟩ = some (.int .i64 vE.fKind) := (hst12.cell (p := ⟨w6.heap.size, 0, none⟩) sz11_x0).trans bx11_x0_0
        have bx12_x0_1 : w12.cell? ⟨w6.heap.size, 1, none⟩ = some (.int .i64 vE.fN) := (hst12.cell (p := ⟨w6.heap.size, 1, none⟩) sz11_x0).trans bx11_x0_1
        have bx12_x0_2 : w12.cell? ⟨w6.heap.size, 2, none⟩ = some (.int .i64 vE.fPos) := (hst12.cell (p := ⟨w6.heap.size, 2, none⟩) sz11_x0).trans bx11_x0_2
        have bx12_x0_3 : w12.cell? ⟨w6.heap.size, 3, none⟩ = some (.int .i64 vE.fType) := (hst12.cell (p := ⟨w6.heap.size, 3, none⟩) sz11_x0).trans bx11_x0_3
        have bx12_x0_4 : w12.cell? ⟨w6.heap.size, 4, none⟩ = some (.string vE.fSymbol) := (hst12.cell (p := ⟨w6.heap.size, 4, none⟩) sz11_x0).trans bx11_x0_4
        have bx12_x0_5 : w12.cell? ⟨w6.heap.size, 5, none⟩ = some (.string vE.fName) := (hst12.cell (p := ⟨w6.heap.size, 5, none⟩) sz11_x0).trans bx11_x0_5
        have bx12_x0_6 : w12.cell? ⟨w6.heap.size, 6, none⟩ = some (.slice a6_vE_6 vE.fArgs.length c6_vE_6) := (hst12.cell (p := ⟨w6.heap.size, 6, none⟩) sz11_x0).trans bx11_x0_6
        have HS12_6_vE := Lib.hid (HS11_6_vE.out.up hst12 (Nat.le_refl _))
        have HS12_vList := Lib.hid (HS11_vList.out.up hst12 (Nat.le_refl _))
        have HS12_F6_vE_3 := Lib.hid (HS11_F6_vE_3.out.up hst12 (Nat.le_refl _))
        have HS12_6_vE_3 := Lib.hid (HS11_6_vE_3.out.up hst12 (Nat.le_refl _))
        have HS12_FvList_4 := Lib.hid (HS11_FvList_4.out.up hst12 (Nat.le_refl _))
        have HS12_vList_4 := Lib.hid (HS11_vList_4.out.up hst12 (Nat.le_refl _))
        have HS12_F6_vE_6 := Lib.hid (HS11_F6_vE_6.out.up hst12 (Nat.le_refl _))
        have HS12_6_vE_6 := Lib.hid (HS11_6_vE_6.out.up hst12 (Nat.le_refl _))
        have HS12_FvList_7 := Lib.hid (HS11_FvList_7.out.up hst12 (Nat.le_refl _))
        have HS12_vList_7 := Lib.hid (HS11_vList_7.out.up hst12 (Nat.le_refl _))
        have HS12_F6_vE_9 := Lib.hid (HS11_F6_vE_9.out.up hst12 (Nat.le_refl _))
        have HS12_6_vE_9 := Lib.hid (HS11_6_vE_9.out.up hst12 (Nat.le_refl _))
        have HS12_FvList_11 := Lib.hid (HS11_FvList_11.out.up hst12 (Nat.le_refl _))
        have HS12_vList_11 := Lib.hid (HS11_vList_11.out.up hst12 (Nat.le_refl _))
        have HB12 := Lib.hid (HB11.out.trans (hst12.mono HB11.out.size))
        clear bx11_paE_0 bx11_paE_1 bx11_paE_2 bx11_paE_3 bx11_paE_4 bx11_paE_5 bx11_paE_6 sz11_paE bx11_x0_0 bx11_x0_1 bx11_x0_2 bx11_x0_3 bx11_x0_4 bx11_x0_5 bx11_x0_6 sz11_x0 HS11_6_vE HS11_vList HS11_F6_vE_3 HS11_6_vE_3 HS11_FvList_4 HS11_vList_4 HS11_F6_vE_6 HS11_6_vE_6 HS11_FvList_7 HS11_vList_7 HS11_F6_vE_9 HS11_6_vE_9 HS11_FvList_11 HS11_vList_11 hb12 hst12 HB11
        go_wp2
        go_ret
        exact ⟨rfl, HB12.out⟩

set_option maxRecDepth 100000 in
theorem lifted (os : Os) (started : os.Started) (H : Type) (enc : TypeId × Value → H) :
    ReturnsInHanded {} Try.checked os 4 .any (Rows.fnExactIsMonotoneSpec.pre6 enc Try.prog Try.f4 Rows.fnExactIsMonotoneRow.domain false) (Rows.fnExactIsMonotoneSpec.post enc Try.prog Try.f4 false true false false) := by
  refine returnsInHanded_of_change_sized (C := Try.checked) own started (by kernel_rfl) Try.func4
    (ChangeSpec.witness6 (enc := enc) (C := Try.checked) false ⟨#[], #[.agg #[.int .i64 0, .int .i64 0, .int .i64 0, .int .i64 0, .string ⟨#[]⟩, .string ⟨#[]⟩, .slice none 0 0], .slice none 0 0], []⟩ 8 (by kernel_rfl) (by kernel_rfl) (by kernel_rfl) (by kernel_rfl)) ?_
  intro W base args ds gs before hval0 hW _ hsz0 _
  have hval : ∀ (j : Nat) t v, Try.f4.params[j]? = some t → args[j]? = some v → Value.okWide Try.prog W .any base t v := hval0
  obtain ⟨p, q, hA0, hV, hps, hfz, hnd⟩ := id hW
  have hA : DataW.TrodAll enc Try.prog W 0 (fun _ => true) true Try.f4.params.toList args.toList ds p := hA0
  have hsz : (DataW.weightsEach Try.prog (Try.f4.params.toList ++ Rows.fnExactIsMonotoneSpec.plain.varTypes Try.prog) (ds ++ gs)).all (· ≤ reachBytes) = true := hsz0
  rw [Try.params4] at hA hval hsz
  obtain ⟨v0, vs0, d0, ds0, p0, q0, hargs, rfl, rfl, h0, r0⟩ := trodAll_cons hA
  obtain ⟨v1, vs1, d1, ds1, p1, q1, rfl, rfl, rfl, h1, r1⟩ := trodAll_cons r0
  obtain ⟨rfl, rfl, rfl⟩ := trodAll_nil r1
  obtain rfl : args = #[v0, v1] := by cases args; simp_all
  obtain ⟨vE, a6_vE, c6_vE, rfl, ok_vE, hs_6_vE⟩ := arg_expr (hval 0 24 v0 rfl rfl) h0
  obtain ⟨ax1, lx1, cx1, hx1⟩ := okWide_slice Try.underlying25 (hval 1 25 v1 rfl rfl)
  obtain ⟨vList, a_vList, c_vList, rfl, ok_vList, hs_vList⟩ := arg_occurrenceS hx1 h1
  refine (walk vE a6_vE c6_vE ok_vE vList a_vList c_vList ok_vList W hs_6_vE hs_vList).mono fun e W' ⟨he, hg⟩ => ?_
  subst he
  exact ⟨_, rfl, law_post laidOut (by kernel_rfl) rfl Try.underlying4 rfl rfl hW hg⟩

theorem said : Rows.FnExactIsMonotoneSaid :=
  OpenClaim.holds_of_wide 4 Try.f4 rfl rfl rfl rfl rfl rfl rfl ⟨rfl, rfl, rfl, rfl, rfl⟩ rfl rfl rfl rfl rfl (by kernel_rfl) Try.func4 (by kernel_rfl)
    (of_decide_eq_true (by kernel_rfl)) (by unfold Func.isWrapper; first | (rw [if_pos (by decide +kernel)]; kernel_rfl) | (rw [if_neg (by decide +kernel)]; exact ⟨rfl, rfl⟩))
    (fun os started H enc _ => lifted os started H enc)
#print axioms said
end Go.Proofs.Ytamilmhnkiepmaa.fnExactIsMonotone
