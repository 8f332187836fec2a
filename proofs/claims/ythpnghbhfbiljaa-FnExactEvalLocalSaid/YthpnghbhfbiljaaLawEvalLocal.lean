/-
  The law FnExactEvalLocal: for every expression, slots, literal and ids the program's EvalLocal answers as the model's. No condition.
-/
import Derived.Test.YthpnghbhfbiljaaEvalAll
import Derived.SizedLaws
namespace Go.Proofs.Ythpnghbhfbiljaa.fnExactEvalLocal
open Go.ChangeShapes Go.WideShapes Go.ChangeAt Go.RowKit Go.WideMaps Go.WideElems
open Go.ChangeMaps (open_string)
open Go.Lib Go.Deep

set_option maxHeartbeats 1600000 in
set_option maxRecDepth 100000 in
theorem walk (vE : DExpr) (a6_vE : Option Addr) (c6_vE : Nat) (ok_vE : DExpr.ok vE) (vSlots : List (DSlot)) (a_vSlots : Option Addr) (c_vSlots : Nat) (ok_vSlots : (okL DSlot.ok) vSlots) (vLiteral : Int) (ok_vLiteral : okI vLiteral) (vIds : List (Int)) (a_vIds : Option Addr) (c_vIds : Nat) (ok_vIds : (okL okI) vIds) (w : World) (hs_6_vE : Sl 0 w.heap.size w 7 vE.fArgs.length (ctE vE.fArgs) a6_vE) (hs_vSlots : Sl 0 w.heap.size w 3 vSlots.length (fun k => DSlot.ct (vSlots.getD k default)) a_vSlots) (hs_vIds : Sl 0 w.heap.size w 1 vIds.length (fun k => ictI (vIds.getD k default)) a_vIds) :
    Calls Try.prog 3 #[.agg #[.int .i64 vE.fKind, .int .i64 vE.fN, .int .i64 vE.fPos, .int .i64 vE.fType, .string vE.fSymbol, .string vE.fName, .slice a6_vE vE.fArgs.length c6_vE], .slice a_vSlots vSlots.length c_vSlots, .int .i64 vLiteral, .slice a_vIds vIds.length c_vIds] w fun e w' => e = .returned (.bool true) ∧ Below w.heap.size w w' := by
  have HS_6_vE := Lib.hid hs_6_vE
  clear hs_6_vE
  have OK_vE := Lib.hid ok_vE
  clear ok_vE
  have HS_vSlots := Lib.hid hs_vSlots
  clear hs_vSlots
  have OK_vSlots := Lib.hid ok_vSlots
  clear ok_vSlots
  have okb_vLiteral : -9223372036854775808 ≤ vLiteral ∧ vLiteral ≤ 9223372036854775807 := ok_vLiteral
  have OK_vLiteral := Lib.hid ok_vLiteral
  clear ok_vLiteral
  have HS_vIds := Lib.hid hs_vIds
  clear hs_vIds
  have OK_vIds := Lib.hid ok_vIds
  clear ok_vIds
  by_cases hl0 : (1048576 : Int) < ((vIds.length : Nat) : Int)
  · skip
    go_enter Try.func3, Try.ntmps3
    go_wp2
    go_ret
    exact ⟨rfl, (by repeat (first | (with_reducible exact Below.refl _ _) | (refine Below.alloc ?_ (by simp <;> omega) _)))⟩
  · have hq_vIds : (lsz (fun _ => 0)) vIds ≤ 1048576 := by have := lsz_zero vIds; omega
    clear hl0
    have hqn_vIds : vIds.length ≤ 1048576 := by have := lsz_zero vIds; omega
    by_cases h0 : 1048576 < ((DExpr.sz vE : Nat) : Int)
    · skip
      have hz := fun (hi : Nat) (w' : World) (hhi : hi ≤ w'.heap.size) (hs_6_vE : Sl 0 hi w' 7 vE.fArgs.length (ctE vE.fArgs) a6_vE) => laws_szExpr (c6 := c6_vE) vE 1048576 (by omega) (by omega) OK_vE.out w' hhi hs_6_vE
      rw [szR_gt (by omega)] at hz
      have HZ_vE := Lib.hid hz
      clear hz
      go_enter Try.func3, Try.ntmps3
      go_wp2_with fail
      refine (HZ_vE.out w.heap.size _ (Below.size (by repeat (first | (with_reducible exact Below.refl _ _) | (with_reducible apply Below.drew) | (with_reducible refine below_drewN ?_ _) | (refine Below.setCell ?_ (by simp <;> omega) _) | (refine Below.alloc ?_ (by simp <;> omega) _)) : Below w.heap.size w _)) (HS_6_vE.out.later (by repeat (first | (with_reducible exact Below.refl _ _) | (with_reducible apply Below.drew) | (with_reducible refine below_drewN ?_ _) | (refine Below.setCell ?_ (by simp <;> omega) _) | (refine Below.alloc ?_ (by simp <;> omega) _)) : Below w.heap.size w _) (Nat.le_refl _))).mono ?_
      rintro e w1 ⟨rfl, hb1⟩
      have hst1 : Below w.heap.size w w1 := Below.trans (by repeat (first | (with_reducible exact Below.refl _ _) | (with_reducible apply Below.drew) | (with_reducible refine below_drewN ?_ _) | (refine Below.setCell ?_ (by simp <;> omega) _) | (refine Below.alloc ?_ (by simp <;> omega) _)) : Below w.heap.size w _) (hb1.mono (Below.size (by repeat (first | (with_reducible exact Below.refl _ _) | (with_reducible apply Below.drew) | (with_reducible refine below_drewN ?_ _) | (refine Below.setCell ?_ (by simp <;> omega) _) | (refine Below.alloc ?_ (by simp <;> omega) _)) : Below w.heap.size w _)))
      have sz1_paE : w.heap.size < w1.heap.size := Nat.lt_of_lt_of_le (by first | omega | (simp; done) | (simp; omega) | (simp [World.setCell]; omega)) hb1.size
      have bx1_paE_0 : w1.cell? ⟨w.heap.size, 0, none⟩ = some (.int .i64 vE.fKind) := (hb1.cell (p := ⟨w.heap.size, 0, none⟩) (by first | omega | (simp; done) | (simp; omega) | (simp [World.setCell]; omega))).trans (by go_simp)
      have bx1_paE_1 : w1.cell? ⟨w.heap.size, 1, none⟩ = some (.int .i64 vE.fN) := (hb1.cell (p := ⟨w.heap.size, 1, none⟩) (by first | omega | (simp; done) | (simp; omega) | (simp [World.setCell]; omega))).trans (by go_simp)
      have bx1_paE_2 : w1.cell? ⟨w.heap.size, 2, none⟩ = some (.int .i64 vE.fPos) := (hb1.cell (p := ⟨w.heap.size, 2, none⟩) (by first | omega | (simp; done) | (simp; omega) | (simp [World.setCell]; omega))).trans (by go_simp)
      have bx1_paE_3 : w1.cell? ⟨w.heap.size, 3, none⟩ = some (.int .i64 vE.fType) := (hb1.cell (p := ⟨w.heap.size, 3, none⟩) (by first | omega | (simp; done) | (simp; omega) | (simp [World.setCell]; omega))).trans (by go_simp)
      have bx1_paE_4 : w1.cell? ⟨w.heap.size, 4, none⟩ = some (.string vE.fSymbol) := (hb1.cell (p := ⟨w.heap.size, 4, none⟩) (by first | omega | (simp; done) | (simp; omega) | (simp [World.setCell]; omega))).trans (by go_simp)
      have bx1_paE_5 : w1.cell? ⟨w.heap.size, 5, none⟩ = some (.string vE.fName) := (hb1.cell (p := ⟨w.heap.size, 5, none⟩) (by first | omega | (simp; done) | (simp; omega) | (simp [World.setCell]; omega))).trans (by go_simp)
      have bx1_paE_6 : w1.cell? ⟨w.heap.size, 6, none⟩ = some (.slice a6_vE vE.fArgs.length c6_vE) := (hb1.cell (p := ⟨w.heap.size, 6, none⟩) (by first | omega | (simp; done) | (simp; omega) | (simp [World.setCell]; omega))).trans (by go_simp)
      have HS1_6_vE := Lib.hid (HS_6_vE.out.up hst1 (Nat.le_refl _))
      have HS1_vSlots := Lib.hid (HS_vSlots.out.up hst1 (Nat.le_refl _))
      have HS1_vIds := Lib.hid (HS_vIds.out.up hst1 (Nat.le_refl _))
      have HB1 := Lib.hid ((Below.refl w.heap.size w).trans (hst1.mono (Below.refl w.heap.size w).size))
      clear hb1 hst1
      go_wp2
      go_ret
      exact ⟨rfl, HB1.out⟩
    · skip
      by_cases h1 : (1048576 - (DExpr.sz vE : Nat)) < (((lsz DSlot.sz) vSlots : Nat) : Int)
      · skip
        have hz := fun (hi : Nat) (w' : World) (hhi : hi ≤ w'.heap.size) (hs_6_vE : Sl 0 hi w' 7 vE.fArgs.length (ctE vE.fArgs) a6_vE) => laws_szExpr (c6 := c6_vE) vE 1048576 (by omega) (by omega) OK_vE.out w' hhi hs_6_vE
        rw [szR_le (by omega)] at hz
        have HZ_vE := Lib.hid hz
        clear hz
        have hz := fun (hi : Nat) (w' : World) (hhi : hi ≤ w'.heap.size) (hs_vSlots : Sl 0 hi w' 3 vSlots.length (fun k => DSlot.ct (vSlots.getD k default)) a_vSlots) => laws_szSlotS (cap := c_vSlots) vSlots (1048576 - (DExpr.sz vE : Nat)) (by omega) (by omega) OK_vSlots.out w' hhi hs_vSlots
        rw [szR_gt (by omega)] at hz
        have HZ_vSlots := Lib.hid hz
        clear hz
        go_enter Try.func3, Try.ntmps3
        go_wp2_with fail
        refine (HZ_vE.out w.heap.size _ (Below.size (by repeat (first | (with_reducible exact Below.refl _ _) | (with_reducible apply Below.drew) | (with_reducible refine below_drewN ?_ _) | (refine Below.setCell ?_ (by simp <;> omega) _) | (refine Below.alloc ?_ (by simp <;> omega) _)) : Below w.heap.size w _)) (HS_6_vE.out.later (by repeat (first | (with_reducible exact Below.refl _ _) | (with_reducible apply Below.drew) | (with_reducible refine below_drewN ?_ _) | (refine Below.setCell ?_ (by simp <;> omega) _) | (refine Below.alloc ?_ (by simp <;> omega) _)) : Below w.heap.size w _) (Nat.le_refl _))).mono ?_
        rintro e w1 ⟨rfl, hb1⟩
        have hst1 : Below w.heap.size w w1 := Below.trans (by repeat (first | (with_reducible exact Below.refl _ _) | (with_reducible apply Below.drew) | (with_reducible refine below_drewN ?_ _) | (refine Below.setCell ?_ (by simp <;> omega) _) | (refine Below.alloc ?_ (by simp <;> omega) _)) : Below w.heap.size w _) (hb1.mono (Below.size (by repeat (first | (with_reducible exact Below.refl _ _) | (with_reducible apply Below.drew) | (with_reducible refine below_drewN ?_ _) | (refine Below.setCell ?_ (by simp <;> omega) _) | (refine Below.alloc ?_ (by simp <;> omega) _)) : Below w.heap.size w _)))
        have sz1_paE : w.heap.size < w1.heap.size := Nat.lt_of_lt_of_le (by first | omega | (simp; done) | (simp; omega) | (simp [World.setCell]; omega)) hb1.size
        have bx1_paE_0 : w1.cell? ⟨w.heap.size, 0, none⟩ = some (.int .i64 vE.fKind) := (hb1.cell (p := ⟨w.heap.size, 0, none⟩) (by first | omega | (simp; done) | (simp; omega) | (simp [World.setCell]; omega))).trans (by go_simp)
        have bx1_paE_1 : w1.cell? ⟨w.heap.size, 1, none⟩ = some (.int .i64 vE.fN) := (hb1.cell (p := ⟨w.heap.size, 1, none⟩) (by first | omega | (simp; done) | (simp; omega) | (simp [World.setCell]; omega))).trans (by go_simp)
        have bx1_paE_2 : w1.cell? ⟨w.heap.size, 2, none⟩ = some (.int .i64 vE.fPos) := (hb1.cell (p := ⟨w.heap.size, 2, none⟩) (by first | omega | (simp; done) | (simp; omega) | (simp [World.setCell]; omega))).trans (by go_simp)
        have bx1_paE_3 : w1.cell? ⟨w.heap.size, 3, none⟩ = some (.int .i64 vE.fType) := (hb1.cell (p := ⟨w.heap.size, 3, none⟩) (by first | omega | (simp; done) | (simp; omega) | (simp [World.setCell]; omega))).trans (by go_simp)
        have bx1_paE_4 : w1.cell? ⟨w.heap.size, 4, none⟩ = some (.string vE.fSymbol) := (hb1.cell (p := ⟨w.heap.size, 4, none⟩) (by first | omega | (simp; done) | (simp; omega) | (simp [World.setCell]; omega))).trans (by go_simp)
        have bx1_paE_5 : w1.cell? ⟨w.heap.size, 5, none⟩ = some (.string vE.fName) := (hb1.cell (p := ⟨w.heap.size, 5, none⟩) (by first | omega | (simp; done) | (simp; omega) | (simp [World.setCell]; omega))).trans (by go_simp)
        have bx1_paE_6 : w1.cell? ⟨w.heap.size, 6, none⟩ = some (.slice a6_vE vE.fArgs.length c6_vE) := (hb1.cell (p := ⟨w.heap.size, 6, none⟩) (by first | omega | (simp; done) | (simp; omega) | (simp [World.setCell]; omega))).trans (by go_simp)
        have HS1_6_vE := Lib.hid (HS_6_vE.out.up hst1 (Nat.le_refl _))
        have HS1_vSlots := Lib.hid (HS_vSlots.out.up hst1 (Nat.le_refl _))
        have HS1_vIds := Lib.hid (HS_vIds.out.up hst1 (Nat.le_refl _))
        have HB1 := Lib.hid ((Below.refl w.heap.size w).trans (hst1.mono (Below.refl w.heap.size w).size))
        clear hb1 hst1
        go_wp2_with fail
        refine (HZ_vSlots.out w1.heap.size _ (Below.size (by repeat (first | (with_reducible exact Below.refl _ _) | (with_reducible apply Below.drew) | (with_reducible refine below_drewN ?_ _) | (refine Below.setCell ?_ (by simp <;> omega) _) | (refine Below.alloc ?_ (by simp <;> omega) _)) : Below w1.heap.size w1 _)) (HS1_vSlots.out.later (by repeat (first | (with_reducible exact Below.refl _ _) | (with_reducible apply Below.drew) | (with_reducible refine below_drewN ?_ _) | (refine Below.setCell ?_ (by simp <;> omega) _) | (refine Below.alloc ?_ (by simp <;> omega) _)) : Below w1.heap.size w1 _) (Nat.le_refl _))).mono ?_
        rintro e w2 ⟨rfl, hb2⟩
        have hst2 : Below w1.heap.size w1 w2 := Below.trans (by repeat (first | (with_reducible exact Below.refl _ _) | (with_reducible apply Below.drew) | (with_reducible refine below_drewN ?_ _) | (refine Below.setCell ?_ (by simp <;> omega) _) | (refine Below.alloc ?_ (by simp <;> omega) _)) : Below w1.heap.size w1 _) (hb2.mono (Below.size (by repeat (first | (with_reducible exact Below.refl _ _) | (with_reducible apply Below.drew) | (with_reducible refine below_drewN ?_ _) | (refine Below.setCell ?_ (by simp <;> omega) _) | (refine Below.alloc ?_ (by simp <;> omega) _)) : Below w1.heap.size w1 _)))
        have sz2_paE : w.heap.size < w2.heap.size := Nat.lt_of_lt_of_le sz1_paE hst2.size
        have bx2_paE_0 : w2.cell? ⟨w.heap.size, 0, none⟩ = some (.int .i64 vE.fKind) := (hst2.cell (p := ⟨w.heap.size, 0, none⟩) sz1_paE).trans bx1_paE_0
        have bx2_paE_1 : w2.cell? ⟨w.heap.size, 1, none⟩ = some (.int .i64 vE.fN) := (hst2.cell (p := ⟨w.heap.size, 1, none⟩) sz1_paE).trans bx1_paE_1
        have bx2_paE_2 : w2.cell? ⟨w.heap.size, 2, none⟩ = some (.int .i64 vE.fPos) := (hst2.cell (p := ⟨w.heap.size, 2, none⟩) sz1_paE).trans bx1_paE_2
        have bx2_paE_3 : w2.cell? ⟨w.heap.size, 3, none⟩ = some (.int .i64 vE.fType) := (hst2.cell (p := ⟨w.heap.size, 3, none⟩) sz1_paE).trans bx1_paE_3
        have bx2_paE_4 : w2.cell? ⟨w.heap.size, 4, none⟩ = some (.string vE.fSymbol) := (hst2.cell (p := ⟨w.heap.size, 4, none⟩) sz1_paE).trans bx1_paE_4
        have bx2_paE_5 : w2.cell? ⟨w.heap.size, 5, none⟩ = some (.string vE.fName) := (hst2.cell (p := ⟨w.heap.size, 5, none⟩) sz1_paE).trans bx1_paE_5
        have bx2_paE_6 : w2.cell? ⟨w.heap.size, 6, none⟩ = some (.slice a6_vE vE.fArgs.length c6_vE) := (hst2.cell (p := ⟨w.heap.size, 6, none⟩) sz1_paE).trans bx1_paE_6
        have HS2_6_vE := Lib.hid (HS1_6_vE.out.up hst2 (Nat.le_refl _))
        have HS2_vSlots := Lib.hid (HS1_vSlots.out.up hst2 (Nat.le_refl _))
        have HS2_vIds := Lib.hid (HS1_vIds.out.up hst2 (Nat.le_refl _))
        have HB2 := Lib.hid (HB1.out.trans (hst2.mono HB1.out.size))
        clear bx1_paE_0 bx1_paE_1 bx1_paE_2 bx1_paE_3 bx1_paE_4 bx1_paE_5 bx1_paE_6 sz1_paE HS1_6_vE HS1_vSlots HS1_vIds hb2 hst2 HB1
        go_wp2
        go_ret
        exact ⟨rfl, HB2.out⟩
      · skip
        have hz := fun (hi : Nat) (w' : World) (hhi : hi ≤ w'.heap.size) (hs_6_vE : Sl 0 hi w' 7 vE.fArgs.length (ctE vE.fArgs) a6_vE) => laws_szExpr (c6 := c6_vE) vE 1048576 (by omega) (by omega) OK_vE.out w' hhi hs_6_vE
        rw [szR_le (by omega)] at hz
        have HZ_vE := Lib.hid hz
        clear hz
        have hz := fun (hi : Nat) (w' : World) (hhi : hi ≤ w'.heap.size) (hs_vSlots : Sl 0 hi w' 3 vSlots.length (fun k => DSlot.ct (vSlots.getD k default)) a_vSlots) => laws_szSlotS (cap := c_vSlots) vSlots (1048576 - (DExpr.sz vE : Nat)) (by omega) (by omega) OK_vSlots.out w' hhi hs_vSlots
        rw [szR_le (by omega)] at hz
        have HZ_vSlots := Lib.hid hz
        clear hz
        have hq_vE : DExpr.sz vE ≤ 1048576 := by omega
        have hq_vSlots : (lsz DSlot.sz) vSlots ≤ 1048576 := by omega
        go_enter Try.func3, Try.ntmps3
        go_wp2_with fail
        refine (HZ_vE.out w.heap.size _ (Below.size (by repeat (first | (with_reducible exact Below.refl _ _) | (with_reducible apply Below.drew) | (with_reducible refine below_drewN ?_ _) | (refine Below.setCell ?_ (by simp <;> omega) _) | (refine Below.alloc ?_ (by simp <;> omega) _)) : Below w.heap.size w _)) (HS_6_vE.out.later (by repeat (first | (with_reducible exact Below.refl _ _) | (with_reducible apply Below.drew) | (with_reducible refine below_drewN ?_ _) | (refine Below.setCell ?_ (by simp <;> omega) _) | (refine Below.alloc ?_ (by simp <;> omega) _)) : Below w.heap.size w _) (Nat.le_refl _))).mono ?_
        rintro e w1 ⟨rfl, hb1⟩
        have hst1 : Below w.heap.size w w1 := Below.trans (by repeat (first | (with_reducible exact Below.refl _ _) | (with_reducible apply Below.drew) | (with_reducible refine below_drewN ?_ _) | (refine Below.setCell ?_ (by simp <;> omega) _) | (refine Below.alloc ?_ (by simp <;> omega) _)) : Below w.heap.size w _) (hb1.mono (Below.size (by repeat (first | (with_reducible exact Below.refl _ _) | (with_reducible apply Below.drew) | (with_reducible refine below_drewN ?_ _) | (refine Below.setCell ?_ (by simp <;> omega) _) | (refine Below.alloc ?_ (by simp <;> omega) _)) : Below w.heap.size w _)))
        have sz1_paE : w.heap.size < w1.heap.size := Nat.lt_of_lt_of_le (by first | omega | (simp; done) | (simp; omega) | (simp [World.setCell]; omega)) hb1.size
        have bx1_paE_0 : w1.cell? ⟨w.heap.size, 0, none⟩ = some (.int .i64 vE.fKind) := (hb1.cell (p := ⟨w.heap.size, 0, none⟩) (by first | omega | (simp; done) | (simp; omega) | (simp [World.setCell]; omega))).trans (by go_simp)
        have bx1_paE_1 : w1.cell? ⟨w.heap.size, 1, none⟩ = some (.int .i64 vE.fN) := (hb1.cell (p := ⟨w.heap.size, 1, none⟩) (by first | omega | (simp; done) | (simp; omega) | (simp [World.setCell]; omega))).trans (by go_simp)
        have bx1_paE_2 : w1.cell? ⟨w.heap.size, 2, none⟩ = some (.int .i64 vE.fPos) := (hb1.cell (p := ⟨w.heap.size, 2, none⟩) (by first | omega | (simp; done) | (simp; omega) | (simp [World.setCell]; omega))).trans (by go_simp)
        have bx1_paE_3 : w1.cell? ⟨w.heap.size, 3, none⟩ = some (.int .i64 vE.fType) := (hb1.cell (p := ⟨w.heap.size, 3, none⟩) (by first | omega | (simp; done) | (simp; omega) | (simp [World.setCell]; omega))).trans (by go_simp)
        have bx1_paE_4 : w1.cell? ⟨w.heap.size, 4, none⟩ = some (.string vE.fSymbol) := (hb1.cell (p := ⟨w.heap.size, 4, none⟩) (by first | omega | (simp; done) | (simp; omega) | (simp [World.setCell]; omega))).trans (by go_simp)
        have bx1_paE_5 : w1.cell? ⟨w.heap.size, 5, none⟩ = some (.string vE.fName) := (hb1.cell (p := ⟨w.heap.size, 5, none⟩) (by first | omega | (simp; done) | (simp; omega) | (simp [World.setCell]; omega))).trans (by go_simp)
        have bx1_paE_6 : w1.cell? ⟨w.heap.size, 6, none⟩ = some (.slice a6_vE vE.fArgs.length c6_vE) := (hb1.cell (p := ⟨w.heap.size, 6, none⟩) (by first | omega | (simp; done) | (simp; omega) | (simp [World.setCell]; omega))).trans (by go_simp)
        have HS1_6_vE := Lib.hid (HS_6_vE.out.up hst1 (Nat.le_refl _))
        have HS1_vSlots := Lib.hid (HS_vSlots.out.up hst1 (Nat.le_refl _))
        have HS1_vIds := Lib.hid (HS_vIds.out.up hst1 (Nat.le_refl _))
        have HB1 := Lib.hid ((Below.refl w.heap.size w).trans (hst1.mono (Below.refl w.heap.size w).size))
        clear hb1 hst1
        go_wp2_with fail
        refine (HZ_vSlots.out w1.heap.size _ (Below.size (by repeat (first | (with_reducible exact Below.refl _ _) | (with_reducible apply Below.drew) | (with_reducible refine below_drewN ?_ _) | (refine Below.setCell ?_ (by simp <;> omega) _) | (refine Below.alloc ?_ (by simp <;> omega) _)) : Below w1.heap.size w1 _)) (HS1_vSlots.out.later (by repeat (first | (with_reducible exact Below.refl _ _) | (with_reducible apply Below.drew) | (with_reducible refine below_drewN ?_ _) | (refine Below.setCell ?_ (by simp <;> omega) _) | (refine Below.alloc ?_ (by simp <;> omega) _)) : Below w1.heap.size w1 _) (Nat.le_refl _))).mono ?_
        rintro e w2 ⟨rfl, hb2⟩
        have hst2 : Below w1.heap.size w1 w2 := Below.trans (by repeat (first | (with_reducible exact Below.refl _ _) | (with_reducible apply Below.drew) | (with_reducible refine below_drewN ?_ _) | (refine Below.setCell ?_ (by simp <;> omega) _) | (refine Below.alloc ?_ (by simp <;> omega) _)) : Below w1.heap.size w1 _) (hb2.mono (Below.size (by repeat (first | (with_reducible exact Below.refl _ _) | (with_reducible apply Below.drew) | (with_reducible refine below_drewN ?_ _) | (refine Below.setCell ?_ (by simp <;> omega) _) | (refine Below.alloc ?_ (by simp <;> omega) _)) : Below w1.heap.size w1 _)))
        have sz2_paE : w.heap.size < w2.heap.size := Nat.lt_of_lt_of_le sz1_paE hst2.size
        have bx2_paE_0 : w2.cell? ⟨w.heap.size, 0, none⟩ = some (.int .i64 vE.fKind) := (hst2.cell (p := ⟨w.heap.size, 0, none⟩) sz1_paE).trans bx1_paE_0
        have bx2_paE_1 : w2.cell? ⟨w.heap.size, 1, none⟩ = some (.int .i64 vE.fN) := (hst2.cell (p := ⟨w.heap.size, 1, none⟩) sz1_paE).trans bx1_paE_1
        have bx2_paE_2 : w2.cell? ⟨w.heap.size, 2, none⟩ = some (.int .i64 vE.fPos) := (hst2.cell (p := ⟨w.heap.size, 2, none⟩) sz1_paE).trans bx1_paE_2
        have bx2_paE_3 : w2.cell? ⟨w.heap.size, 3, none⟩ = some (.int .i64 vE.fType) := (hst2.cell (p := ⟨w.heap.size, 3, none⟩) sz1_paE).trans bx1_paE_3
        have bx2_paE_4 : w2.cell? ⟨w.heap.size, 4, none⟩ = some (.string vE.fSymbol) := (hst2.cell (p := ⟨w.heap.size, 4, none⟩) sz1_paE).trans bx1_paE_4
        have bx2_paE_5 : w2.cell? ⟨w.heap.size, 5, none⟩ = some (.string vE.fName) := (hst2.cell (p := ⟨w.heap.size, 5, none⟩) sz1_paE).trans bx1_paE_5
        have bx2_paE_6 : w2.cell? ⟨w.heap.size, 6, none⟩ = some (.slice a6_vE vE.fArgs.length c6_vE) := (hst2.cell (p := ⟨w.heap.size, 6, none⟩) sz1_paE).trans bx1_paE_6
        have HS2_6_vE := Lib.hid (HS1_6_vE.out.up hst2 (Nat.le_refl _))
        have HS2_vSlots := Lib.hid (HS1_vSlots.out.up hst2 (Nat.le_refl _))
        have HS2_vIds := Lib.hid (HS1_vIds.out.up hst2 (Nat.le_refl _))
        have HB2 := Lib.hid (HB1.out.trans (hst2.mono HB1.out.size))
        clear bx1_paE_0 bx1_paE_1 bx1_paE_2 bx1_paE_3 bx1_paE_4 bx1_paE_5 bx1_paE_6 sz1_paE HS1_6_vE HS1_vSlots HS1_vIds hb2 hst2 HB1
        go_wp2_with fail
        refine (laws_toExpr (c6 := c6_vE) vE hq_vE _ (Below.size (by repeat (first | (with_reducible exact Below.refl _ _) | (with_reducible apply Below.drew) | (with_reducible refine below_drewN ?_ _) | (refine Below.setCell ?_ (by simp <;> omega) _) | (refine Below.alloc ?_ (by simp <;> omega) _)) : Below w2.heap.size w2 _)) (HS2_6_vE.out.later (by repeat (first | (with_reducible exact Below.refl _ _) | (with_reducible apply Below.drew) | (with_reducible refine below_drewN ?_ _) | (refine Below.setCell ?_ (by simp <;> omega) _) | (refine Below.alloc ?_ (by simp <;> omega) _)) : Below w2.heap.size w2 _) (Nat.le_refl _))).mono ?_
        rintro e w3 ⟨a6_vE_3, c6_vE_3, rfl, ho3, hb3⟩
        have hst3 : Below w2.heap.size w2 w3 := Below.trans (by repeat (first | (with_reducible exact Below.refl _ _) | (with_reducible apply Below.drew) | (with_reducible refine below_drewN ?_ _) | (refine Below.setCell ?_ (by simp <;> omega) _) | (refine Below.alloc ?_ (by simp <;> omega) _)) : Below w2.heap.size w2 _) (hb3.mono (Below.size (by repeat (first | (with_reducible exact Below.refl _ _) | (with_reducible apply Below.drew) | (with_reducible refine below_drewN ?_ _) | (refine Below.setCell ?_ (by simp <;> omega) _) | (refine Below.alloc ?_ (by simp <;> omega) _)) : Below w2.heap.size w2 _)))
        have sz3_paE : w.heap.size < w3.heap.size := Nat.lt_of_lt_of_le sz2_paE hst3.size
        have bx3_paE_0 : w3.cell? ⟨w.heap.size, 0, none⟩ = some (.int .i64 vE.fKind) := (hst3.cell (p := ⟨w.heap.size, 0, none⟩) sz2_paE).trans bx2_paE_0
        have bx3_paE_1 : w3.cell? ⟨w.heap.size, 1, none⟩ = some (.int .i64 vE.fN) := (hst3.cell (p := ⟨w.heap.size, 1, none⟩) sz2_paE).trans bx2_paE_1
        have bx3_paE_2 : w3.cell? ⟨w.heap.size, 2, none⟩ = some (.int .i64 vE.fPos) := (hst3.cell (p := ⟨w.heap.size, 2, none⟩) sz2_paE).trans bx2_paE_2
        have bx3_paE_3 : w3.cell? ⟨w.heap.size, 3, none⟩ = some (.int .i64 vE.fType) := (hst3.cell (p := ⟨w.heap.size, 3, none⟩) sz2_paE).trans bx2_paE_3
        have bx3_paE_4 : w3.cell? ⟨w.heap.size, 4, none⟩ = some (.string vE.fSymbol) := (hst3.cell (p := ⟨w.heap.size, 4, none⟩) sz2_paE).trans bx2_paE_4
        have bx3_paE_5 : w3.cell? ⟨w.heap.size, 5, none⟩ = some (.string vE.fName) := (hst3.cell (p := ⟨w.heap.size, 5, none⟩) sz2_paE).trans bx2_paE_5
        have bx3_paE_6 : w3.cell? ⟨w.heap.size, 6, none⟩ = some (.slice a6_vE vE.fArgs.length c6_vE) := (hst3.cell (p := ⟨w.heap.size, 6, none⟩) sz2_paE).trans bx2_paE_6
        have HS3_6_vE := Lib.hid (HS2_6_vE.out.up hst3 (Nat.le_refl _))
        have HS3_vSlots := Lib.hid (HS2_vSlots.out.up hst3 (Nat.le_refl _))
        have HS3_vIds := Lib.hid (HS2_vIds.out.up hst3 (Nat.le_refl _))
        have HS3_F6_vE_3 := Lib.hid (show Sf 0 w3.heap.size w3 7 vE.fArgs.length (ctE vE.fArgs) a6_vE_3 from Sf.of (cap := c6_vE_3) (l := vE.fArgs.length) (a := a6_vE_3) (ho3.soft (lo := 0) (hi := w3.heap.size) (fun y hy => ⟨Nat.zero_le _, hy.2⟩) 6 (by decide)))
        have HS3_6_vE_3 := Lib.hid (show Sl 0 w3.heap.size w3 7 vE.fArgs.length (ctE vE.fArgs) a6_vE_3 from Sl.of (cap := c6_vE_3) (l := vE.fArgs.length) (a := a6_vE_3) (ho3.lies (lo := 0) (hi := w3.heap.size) (fun y hy => ⟨Nat.zero_le _, hy.2⟩) 6 (by decide)))
        have HB3 := Lib.hid (HB2.out.trans (hst3.mono HB2.out.size))
        clear bx2_paE_0 bx2_paE_1 bx2_paE_2 bx2_paE_3 bx2_paE_4 bx2_paE_5 bx2_paE_6 sz2_paE HS2_6_vE HS2_vSlots HS2_vIds ho3 hb3 hst3 HB2
        go_wp2_with fail
        refine (laws_toSlotS (cap := c_vSlots) vSlots hq_vSlots _ (Below.size (by repeat (first | (with_reducible exact Below.refl _ _) | (with_reducible apply Below.drew) | (with_reducible refine below_drewN ?_ _) | (refine Below.setCell ?_ (by simp <;> omega) _) | (refine Below.alloc ?_ (by simp <;> omega) _)) : Below w3.heap.size w3 _)) (HS3_vSlots.out.later (by repeat (first | (with_reducible exact Below.refl _ _) | (with_reducible apply Below.drew) | (with_reducible refine below_drewN ?_ _) | (refine Below.setCell ?_ (by simp <;> omega) _) | (refine Below.alloc ?_ (by simp <;> omega) _)) : Below w3.heap.size w3 _) (Nat.le_refl _))).mono ?_
        rintro e w4 ⟨a_vSlots_4, c_vSlots_4, rfl, ho4, hb4⟩
        have hst4 : Below w3.heap.size w3 w4 := Below.trans (by repeat (first | (with_reducible exact Below.refl _ _) | (with_reducible apply Below.drew) | (with_reducible refine below_drewN ?_ _) | (refine Below.setCell ?_ (by simp <;> omega) _) | (refine Below.alloc ?_ (by simp <;> omega) _)) : Below w3.heap.size w3 _) (hb4.mono (Below.size (by repeat (first | (with_reducible exact Below.refl _ _) | (with_reducible apply Below.drew) | (with_reducible refine below_drewN ?_ _) | (refine Below.setCell ?_ (by simp <;> omega) _) | (refine Below.alloc ?_ (by simp <;> omega) _)) : Below w3.heap.size w3 _)))
        have sz4_paE : w.heap.size < w4.heap.size := Nat.lt_of_lt_of_le sz3_paE hst4.size
        have bx4_paE_0 : w4.cell? ⟨w.heap.size, 0, none⟩ = some (.int .i64 vE.fKind) := (hst4.cell (p := ⟨w.heap.size, 0, none⟩) sz3_paE).trans bx3_paE_0
        have bx4_paE_1 : w4.cell? ⟨w.heap.size, 1, none⟩ = some (.int .i64 vE.fN) := (hst4.cell (p := ⟨w.heap.size, 1, none⟩) sz3_paE).trans bx3_paE_1
        have bx4_paE_2 : w4.cell? ⟨w.heap.size, 2, none⟩ = some (.int .i64 vE.fPos) := (hst4.cell (p := ⟨w.heap.size, 2, none⟩) sz3_paE).trans bx3_paE_2
        have bx4_paE_3 : w4.cell? ⟨w.heap.size, 3, none⟩ = some (.int .i64 vE.fType) := (hst4.cell (p := ⟨w.heap.size, 3, none⟩) sz3_paE).trans bx3_paE_3
        have bx4_paE_4 : w4.cell? ⟨w.heap.size, 4, none⟩ = some (.string vE.fSymbol) := (hst4.cell (p := ⟨w.heap.size, 4, none⟩) sz3_paE).trans bx3_paE_4
        have bx4_paE_5 : w4.cell? ⟨w.heap.size, 5, none⟩ = some (.string vE.fName) := (hst4.cell (p := ⟨w.heap.size, 5, none⟩) sz3_paE).trans bx3_paE_5
        have bx4_paE_6 : w4.cell? ⟨w.heap.size, 6, none⟩ = some (.slice a6_vE vE.fArgs.length c6_vE) := (hst4.cell (p := ⟨w.heap.size, 6, none⟩) sz3_paE).trans bx3_paE_6
        have HS4_6_vE := Lib.hid (HS3_6_vE.out.up hst4 (Nat.le_refl _))
        have HS4_vSlots := Lib.hid (HS3_vSlots.out.up hst4 (Nat.le_refl _))
        have HS4_vIds := Lib.hid (HS3_vIds.out.up hst4 (Nat.le_refl _))
        have HS4_F6_vE_3 := Lib.hid (HS3_F6_vE_3.out.up hst4 (Nat.le_refl _))
        have HS4_6_vE_3 := Lib.hid (HS3_6_vE_3.out.up hst4 (Nat.le_refl _))
        have HS4_FvSlots_4 := Lib.hid (show Sf 0 w4.heap.size w4 3 vSlots.length (fun k => DSlot.ct (vSlots.getD k default)) a_vSlots_4 from Sf.of (ho4.soft (lo := 0) (hi := w4.heap.size) (fun y hy => ⟨Nat.zero_le _, hy.2⟩)))
        have HS4_vSlots_4 := Lib.hid (show Sl 0 w4.heap.size w4 3 vSlots.length (fun k => DSlot.ct (vSlots.getD k default)) a_vSlots_4 from Sl.of (ho4.lies (lo := 0) (hi := w4.heap.size) (fun y hy => ⟨Nat.zero_le _, hy.2⟩)))
        have HB4 := Lib.hid (HB3.out.trans (hst4.mono HB3.out.size))
        clear bx3_paE_0 bx3_paE_1 bx3_paE_2 bx3_paE_3 bx3_paE_4 bx3_paE_5 bx3_paE_6 sz3_paE HS3_6_vE HS3_vSlots HS3_vIds HS3_F6_vE_3 HS3_6_vE_3 ho4 hb4 hst4 HB3
        go_wp2_with fail
        refine (laws_toIntS (cap := c_vIds) vIds hq_vIds _ (Below.size (by repeat (first | (with_reducible exact Below.refl _ _) | (with_reducible apply Below.drew) | (with_reducible refine below_drewN ?_ _) | (refine Below.setCell ?_ (by simp <;> omega) _) | (refine Below.alloc ?_ (by simp <;> omega) _)) : Below w4.heap.size w4 _)) (HS4_vIds.out.later (by repeat (first | (with_reducible exact Below.refl _ _) | (with_reducible apply Below.drew) | (with_reducible refine below_drewN ?_ _) | (refine Below.setCell ?_ (by simp <;> omega) _) | (refine Below.alloc ?_ (by simp <;> omega) _)) : Below w4.heap.size w4 _) (Nat.le_refl _))).mono ?_
        rintro e w5 ⟨a_vIds_5, c_vIds_5, rfl, ho5, hb5⟩
        have hst5 : Below w4.heap.size w4 w5 := Below.trans (by repeat (first | (with_reducible exact Below.refl _ _) | (with_reducible apply Below.drew) | (with_reducible refine below_drewN ?_ _) | (refine Below.setCell ?_ (by simp <;> omega) _) | (refine Below.alloc ?_ (by simp <;> omega) _)) : Below w4.heap.size w4 _) (hb5.mono (Below.size (by repeat (first | (with_reducible exact Below.refl _ _) | (with_reducible apply Below.drew) | (with_reducible refine below_drewN ?_ _) | (refine Below.setCell ?_ (by simp <;> omega) _) | (refine Below.alloc ?_ (by simp <;> omega) _)) : Below w4.heap.size w4 _)))
        have sz5_paE : w.heap.size < w5.heap.size := Nat.lt_of_lt_of_le sz4_paE hst5.size
        have bx5_paE_0 : w5.cell? ⟨w.heap.size, 0, none⟩ = some (.int .i64 vE.fKind) := (hst5.cell (p := ⟨w.heap.size, 0, none⟩) sz4_paE).trans bx4_paE_0
        have bx5_paE_1 : w5.cell? ⟨w.heap.size, 1, none⟩ = some (.int .i64 vE.fN) := (hst5.cell (p := ⟨w.heap.size, 1, none⟩) sz4_paE).trans bx4_paE_1
        have bx5_paE_2 : w5.cell? ⟨w.heap.size, 2, none⟩ = some (.int .i64 vE.fPos) := (hst5.cell (p := ⟨w.heap.size, 2, none⟩) sz4_paE).trans bx4_paE_2
        have bx5_paE_3 : w5.cell? ⟨w.heap.size, 3, none⟩ = some (.int .i64 vE.fType) := (hst5.cell (p := ⟨w.heap.size, 3, none⟩) sz4_paE).trans bx4_paE_3
        have bx5_paE_4 : w5.cell? ⟨w.heap.size, 4, none⟩ = some (.string vE.fSymbol) := (hst5.cell (p := ⟨w.heap.size, 4, none⟩) sz4_paE).trans bx4_paE_4
        have bx5_paE_5 : w5.cell? ⟨w.heap.size, 5, none⟩ = some (.string vE.fName) := (hst5.cell (p := ⟨w.heap.size, 5, none⟩) sz4_paE).trans bx4_paE_5
        have bx5_paE_6 : w5.cell? ⟨w.heap.size, 6, none⟩ = some (.slice a6_vE vE.fArgs.length c6_vE) := (hst5.cell (p := ⟨w.heap.size, 6, none⟩) sz4_paE).trans bx4_paE_6
        have HS5_6_vE := Lib.hid (HS4_6_vE.out.up hst5 (Nat.le_refl _))
        have HS5_vSlots := Lib.hid (HS4_vSlots.out.up hst5 (Nat.le_refl _))
        have HS5_vIds := Lib.hid (HS4_vIds.out.up hst5 (Nat.le_refl _))
        have HS5_F6_vE_3 := Lib.hid (HS4_F6_vE_3.out.up hst5 (Nat.le_refl _))
        have HS5_6_vE_3 := Lib.hid (HS4_6_vE_3.out.up hst5 (Nat.le_refl _))
        have HS5_FvSlots_4 := Lib.hid (HS4_FvSlots_4.out.up hst5 (Nat.le_refl _))
        have HS5_vSlots_4 := Lib.hid (HS4_vSlots_4.out.up hst5 (Nat.le_refl _))
        have HS5_FvIds_5 := Lib.hid (show Sf 0 w5.heap.size w5 1 vIds.length (fun k => ictI (vIds.getD k default)) a_vIds_5 from Sf.of (ho5.soft (lo := 0) (hi := w5.heap.size) (fun y hy => ⟨Nat.zero_le _, hy.2⟩)))
        have HS5_vIds_5 := Lib.hid (show Sl 0 w5.heap.size w5 1 vIds.length (fun k => ictI (vIds.getD k default)) a_vIds_5 from Sl.of (ho5.lies (lo := 0) (hi := w5.heap.size) (fun y hy => ⟨Nat.zero_le _, hy.2⟩)))
        have HB5 := Lib.hid (HB4.out.trans (hst5.mono HB4.out.size))
        clear bx4_paE_0 bx4_paE_1 bx4_paE_2 bx4_paE_3 bx4_paE_4 bx4_paE_5 bx4_paE_6 sz4_paE HS4_6_vE HS4_vSlots HS4_vIds HS4_F6_vE_3 HS4_6_vE_3 HS4_FvSlots_4 HS4_vSlots_4 ho5 hb5 hst5 HB4
        go_wp2_with fail
        refine (spec_EvalLocal (c0_0 := c6_vE_3) (c1_0 := c_vSlots_4) (c3_0 := c_vIds_5) vE OK_vE.out hq_vE vSlots OK_vSlots.out hq_vSlots vLiteral OK_vLiteral.out vIds OK_vIds.out hq_vIds _ (Below.size (by repeat (first | (with_reducible exact Below.refl _ _) | (with_reducible apply Below.drew) | (with_reducible refine below_drewN ?_ _) | (refine Below.setCell ?_ (by simp <;> omega) _) | (refine Below.alloc ?_ (by simp <;> omega) _)) : Below w5.heap.size w5 _)) (HS5_6_vE_3.out.later (by repeat (first | (with_reducible exact Below.refl _ _) | (with_reducible apply Below.drew) | (with_reducible refine below_drewN ?_ _) | (refine Below.setCell ?_ (by simp <;> omega) _) | (refine Below.alloc ?_ (by simp <;> omega) _)) : Below w5.heap.size w5 _) (Nat.le_refl _)) (HS5_vSlots_4.out.later (by repeat (first | (with_reducible exact Below.refl _ _) | (with_reducible apply Below.drew) | (with_reducible refine below_drewN ?_ _) | (refine Below.setCell ?_ (by simp <;> omega) _) | (refine Below.alloc ?_ (by simp <;> omega) _)) : Below w5.heap.size w5 _) (Nat.le_refl _)) (HS5_vIds_5.out.later (by repeat (first | (with_reducible exact Below.refl _ _) | (with_reducible apply Below.drew) | (with_reducible refine below_drewN ?_ _) | (refine Below.setCell ?_ (by simp <;> omega) _) | (refine Below.alloc ?_ (by simp <;> omega) _)) : Below w5.heap.size w5 _) (Nat.le_refl _))).mono ?_
        rintro e w6 ⟨rfl, hb6⟩
        have hst6 : Below w5.heap.size w5 w6 := Below.trans (by repeat (first | (with_reducible exact Below.refl _ _) | (with_reducible apply Below.drew) | (with_reducible refine below_drewN ?_ _) | (refine Below.setCell ?_ (by simp <;> omega) _) | (refine Below.alloc ?_ (by simp <;> omega) _)) : Below w5.heap.size w5 _) (hb6.mono (Below.size (by repeat (first | (with_reducible exact Below.refl _ _) | (with_reducible apply Below.drew) | (with_reducible refine below_drewN ?_ _) | (refine Below.setCell ?_ (by simp <;> omega) _) | (refine Below.alloc ?_ (by simp <;> omega) _)) : Below w5.heap.size w5 _)))
        have sz6_paE : w.heap.size < w6.heap.size := Nat.lt_of_lt_of_le sz5_paE hst6.size
        have bx6_paE_0 : w6.cell? ⟨w.heap.size, 0, none⟩ = some (.int .i64 vE.fKind) := (hst6.cell (p := ⟨w.heap.size, 0, none⟩) sz5_paE).trans bx5_paE_0
        have bx6_paE_1 : w6.cell? ⟨w.heap.size, 1, none⟩ = some (.int .i64 vE.fN) := (hst6.cell (p := ⟨w.heap.size, 1, none⟩) sz5_paE).trans bx5_paE_1
        have bx6_paE_2 : w6.cell? ⟨w.heap.size, 2, none⟩ = some (.int .i64 vE.fPos) := (hst6.cell (p := ⟨w.heap.size, 2, none⟩) sz5_paE).trans bx5_paE_2
        have bx6_paE_3 : w6.cell? ⟨w.heap.size, 3, none⟩ = some (.int .i64 vE.fType) := (hst6.cell (p := ⟨w.heap.size, 3, none⟩) sz5_paE).trans bx5_paE_3
        have bx6_paE_4 : w6.cell? ⟨w.heap.size, 4, none⟩ = some (.string vE.fSymbol) := (hst6.cell (p := ⟨w.heap.size, 4, none⟩) sz5_paE).trans bx5_paE_4
        have bx6_paE_5 : w6.cell? ⟨w.heap.size, 5, none⟩ = some (.string vE.fName) := (hst6.cell (p := ⟨w.heap.size, 5, none⟩) sz5_paE).trans bx5_paE_5
        have bx6_paE_6 : w6.cell? ⟨w.heap.size, 6, none⟩ = some (.slice a6_vE vE.fArgs.length c6_vE) := (hst6.cell (p := ⟨w.heap.size, 6, none⟩) sz5_paE).trans bx5_paE_6
        have HS6_6_vE := Lib.hid (HS5_6_vE.out.up hst6 (Nat.le_refl _))
        have HS6_vSlots := Lib.hid (HS5_vSlots.out.up hst6 (Nat.le_refl _))
        have HS6_vIds := Lib.hid (HS5_vIds.out.up hst6 (Nat.le_refl _))
        have HS6_F6_vE_3 := Lib.hid (HS5_F6_vE_3.out.up hst6 (Nat.le_refl _))
        have HS6_6_vE_3 := Lib.hid (HS5_6_vE_3.out.up hst6 (Nat.le_refl _))
        have HS6_FvSlots_4 := Lib.hid (HS5_FvSlots_4.out.up hst6 (Nat.le_refl _))
        have HS6_vSlots_4 := Lib.hid (HS5_vSlots_4.out.up hst6 (Nat.le_refl _))
        have HS6_FvIds_5 := Lib.hid (HS5_FvIds_5.out.up hst6 (Nat.le_refl _))
        have HS6_vIds_5 := Lib.hid (HS5_vIds_5.out.up hst6 (Nat.le_refl _))
        have HB6 := Lib.hid (HB5.out.trans (hst6.mono HB5.out.size))
        clear bx5_paE_0 bx5_paE_1 bx5_paE_2 bx5_paE_3 bx5_paE_4 bx5_paE_5 bx5_paE_6 sz5_paE HS5_6_vE HS5_vSlots HS5_vIds HS5_F6_vE_3 HS5_6_vE_3 HS5_FvSlots_4 HS5_vSlots_4 HS5_FvIds_5 HS5_vIds_5 hb6 hst6 HB5
        go_wp2_with fail
        refine (laws_toExpr (c6 := c6_vE) vE hq_vE _ (Below.size (by repeat (first | (with_reducible exact Below.refl _ _) | (with_reducible apply Below.drew) | (with_reducible refine below_drewN ?_ _) | (refine Below.setCell ?_ (by simp <;> omega) _) | (refine Below.alloc ?_ (by simp <;> omega) _)) : Below w6.heap.size w6 _)) (HS6_6_vE.out.later (by repeat (first | (with_reducible exact Below.refl _ _) | (with_reducible apply Below.drew) | (with_reducible refine below_drewN ?_ _) | (refine Below.setCell ?_ (by simp <;> omega) _) | (refine Below.alloc ?_ (by simp <;> omega) _)) : Below w6.heap.size w6 _) (Nat.le_refl _))).mono ?_
        rintro e w7 ⟨a6_vE_7, c6_vE_7, rfl, ho7, hb7⟩
        have hst7 : Below w6.heap.size w6 w7 := Below.trans (by repeat (first | (with_reducible exact Below.refl _ _) | (with_reducible apply Below.drew) | (with_reducible refine below_drewN ?_ _) | (refine Below.setCell ?_ (by simp <;> omega) _) | (refine Below.alloc ?_ (by simp <;> omega) _)) : Below w6.heap.size w6 _) (hb7.mono (Below.size (by repeat (first | (with_reducible exact Below.refl _ _) | (with_reducible apply Below.drew) | (with_reducible refine below_drewN ?_ _) | (refine Below.setCell ?_ (by simp <;> omega) _) | (refine Below.alloc ?_ (by simp <;> omega) _)) : Below w6.heap.size w6 _)))
        have sz7_paE : w.heap.size < w7.heap.size := Nat.lt_of_lt_of_le sz6_paE hst7.size
        have bx7_paE_0 : w7.cell? ⟨w.heap.size, 0, none⟩ = some (.int .i64 vE.fKind) := (hst7.cell (p := ⟨w.heap.size, 0, none⟩) sz6_paE).trans bx6_paE_0
        have bx7_paE_1 : w7.cell? ⟨w.heap.size, 1, none⟩ = some (.int .i64 vE.fN) := (hst7.cell (p := ⟨w.heap.size, 1, none⟩) sz6_paE).trans bx6_paE_1
        have bx7_paE_2 : w7.cell? ⟨w.heap.size, 2, none⟩ = some (.int .i64 vE.fPos) := (hst7.cell (p := ⟨w.heap.size, 2, none⟩) sz6_paE).trans bx6_paE_2
        have bx7_paE_3 : w7.cell? ⟨w.heap.size, 3, none⟩ = some (.int .i64 vE.fType) := (hst7.cell (p := ⟨w.heap.size, 3, none⟩) sz6_paE).trans bx6_paE_3
        have bx7_paE_4 : w7.cell? ⟨w.heap.size, 4, none⟩ = some (.string vE.fSymbol) := (hst7.cell (p := ⟨w.heap.size, 4, none⟩) sz6_paE).trans bx6_paE_4
        have bx7_paE_5 : w7.cell? ⟨w.heap.size, 5, none⟩ = some (.string vE.fName) := (hst7.cell (p := ⟨w.heap.size, 5, none⟩) sz6_paE).trans bx6_paE_5
        have bx7_paE_6 : w7.cell? ⟨w.heap.size, 6, none⟩ = some (.slice a6_vE vE.fArgs.length c6_vE) := (hst7.cell (p := ⟨w.heap.size, 6, none⟩) sz6_paE).trans bx6_paE_6
        have HS7_6_vE := Lib.hid (HS6_6_vE.out.up hst7 (Nat.le_refl _))
        have HS7_vSlots := Lib.hid (HS6_vSlots.out.up hst7 (Nat.le_refl _))
        have HS7_vIds := Lib.hid (HS6_vIds.out.up hst7 (Nat.le_refl _))
        have HS7_F6_vE_3 := Lib.hid (HS6_F6_vE_3.out.up hst7 (Nat.le_refl _))
        have HS7_6_vE_3 := Lib.hid (HS6_6_vE_3.out.up hst7 (Nat.le_refl _))
        have HS7_FvSlots_4 := Lib.hid (HS6_FvSlots_4.out.up hst7 (Nat.le_refl _))
        have HS7_vSlots_4 := Lib.hid (HS6_vSlots_4.out.up hst7 (Nat.le_refl _))
        have HS7_FvIds_5 := Lib.hid (HS6_FvIds_5.out.up hst7 (Nat.le_refl _))
        have HS7_vIds_5 := Lib.hid (HS6_vIds_5.out.up hst7 (Nat.le_refl _))
        have HS7_F6_vE_7 := Lib.hid (show Sf 0 w7.heap.size w7 7 vE.fArgs.length (ctE vE.fArgs) a6_vE_7 from Sf.of (cap := c6_vE_7) (l := vE.fArgs.length) (a := a6_vE_7) (ho7.soft (lo := 0) (hi := w7.heap.size) (fun y hy => ⟨Nat.zero_le _, hy.2⟩) 6 (by decide)))
        have HS7_6_vE_7 := Lib.hid (show Sl 0 w7.heap.size w7 7 vE.fArgs.length (ctE vE.fArgs) a6_vE_7 from Sl.of (cap := c6_vE_7) (l := vE.fArgs.length) (a := a6_vE_7) (ho7.lies (lo := 0) (hi := w7.heap.size) (fun y hy => ⟨Nat.zero_le _, hy.2⟩) 6 (by decide)))
        have HB7 := Lib.hid (HB6.out.trans (hst7.mono HB6.out.size))
        clear bx6_paE_0 bx6_paE_1 bx6_paE_2 bx6_paE_3 bx6_paE_4 bx6_paE_5 bx6_paE_6 sz6_paE HS6_6_vE HS6_vSlots HS6_vIds HS6_F6_vE_3 HS6_6_vE_3 HS6_FvSlots_4 HS6_vSlots_4 HS6_FvIds_5 HS6_vIds_5 ho7 hb7 hst7 HB6
        go_wp2_with fail
        refine (laws_toSlotS (cap := c_vSlots) vSlots hq_vSlots _ (Below.size (by repeat (first | (with_reducible exact Below.refl _ _) | (with_reducible apply Below.drew) | (with_reducible refine below_drewN ?_ _) | (refine Below.setCell ?_ (by simp <;> omega) _) | (refine Below.alloc ?_ (by simp <;> omega) _)) : Below w7.heap.size w7 _)) (HS7_vSlots.out.later (by repeat (first | (with_reducible exact Below.refl _ _) | (with_reducible apply Below.drew) | (with_reducible refine below_drewN ?_ _) | (refine Below.setCell ?_ (by simp <;> omega) _) | (refine Below.alloc ?_ (by simp <;> omega) _)) : Below w7.heap.size w7 _) (Nat.le_refl _))).mono ?_
        rintro e w8 ⟨a_vSlots_8, c_vSlots_8, rfl, ho8, hb8⟩
        have hst8 : Below w7.heap.size w7 w8 := Below.trans (by repeat (first | (with_reducible exact Below.refl _ _) | (with_reducible apply Below.drew) | (with_reducible refine below_drewN ?_ _) | (refine Below.setCell ?_ (by simp <;> omega) _) | (refine Below.alloc ?_ (by simp <;> omega) _)) : Below w7.heap.size w7 _) (hb8.mono (Below.size (by repeat (first | (with_reducible exact Below.refl _ _) | (with_reducible apply Below.drew) | (with_reducible refine below_drewN ?_ _) | (refine Below.setCell ?_ (by simp <;> omega) _) | (refine Below.alloc ?_ (by simp <;> omega) _)) : Below w7.heap.size w7 _)))
        have sz8_paE : w.heap.size < w8.heap.size := Nat.lt_of_lt_of_le sz7_paE hst8.size
        have bx8_paE_0 : w8.cell? ⟨w.heap.size, 0, none⟩ = some (.int .i64 vE.fKind) := (hst8.cell (p := ⟨w.heap.size, 0, none⟩) sz7_paE).trans bx7_paE_0
        have bx8_paE_1 : w8.cell? ⟨w.heap.size, 1, none⟩ = some (.int .i64 vE.fN) := (hst8.cell (p := ⟨w.heap.size, 1, none⟩) sz7_paE).trans bx7_paE_1
        have bx8_paE_2 : w8.cell? ⟨w.heap.size, 2, none⟩ = some (.int .i64 vE.fPos) := (hst8.cell (p := ⟨w.heap.size, 2, none⟩) sz7_paE).trans bx7_paE_2
        have bx8_paE_3 : w8.cell? ⟨w.heap.size, 3, none⟩ = some (.int .i64 vE.fType) := (hst8.cell (p := ⟨w.heap.size, 3, none⟩) sz7_paE).trans bx7_paE_3
        have bx8_paE_4 : w8.cell? ⟨w.heap.size, 4, none⟩ = some (.string vE.fSymbol) := (hst8.cell (p := ⟨w.heap.size, 4, none⟩) sz7_paE).trans bx7_paE_4
        have bx8_paE_5 : w8.cell? ⟨w.heap.size, 5, none⟩ = some (.string vE.fName) := (hst8.cell (p := ⟨w.heap.size, 5, none⟩) sz7_paE).trans bx7_paE_5
        have bx8_paE_6 : w8.cell? ⟨w.heap.size, 6, none⟩ = some (.slice a6_vE vE.fArgs.length c6_vE) := (hst8.cell (p := ⟨w.heap.size, 6, none⟩) sz7_paE).trans bx7_paE_6
        have sz8_x0 : w7.heap.size < w8.heap.size := Nat.lt_of_lt_of_le (by first | omega | (simp; done) | (simp; omega) | (simp [World.setCell]; omega)) hb8.size
        have bx8_x0_0 : w8.cell? ⟨w7.heap.size, 0, none⟩ = some (.int .i64 vE.fKind) := (hb8.cell (p := ⟨w7.heap.size, 0, none⟩) (by first | omega | (simp; done) | (simp; omega) | (simp [World.setCell]; omega))).trans (by go_simp)
        have bx8_x0_1 : w8.cell? ⟨w7.heap.size, 1, none⟩ = some (.int .i64 vE.fN) := (hb8.cell (p := ⟨w7.heap.size, 1, none⟩) (by first | omega | (simp; done) | (simp; omega) | (simp [World.setCell]; omega))).trans (by go_simp)
        have bx8_x0_2 : w8.cell? ⟨w7.heap.size, 2, none⟩ = some (.int .i64 vE.fPos) := (hb8.cell (p := ⟨w7.heap.size, 2, none⟩) (by first | omega | (simp; done) | (simp; omega) | (simp [World.setCell]; omega))).trans (by go_simp)
        have bx8_x0_3 : w8.cell? ⟨w7.heap.size, 3, none⟩ = some (.int .i64 vE.fType) := (hb8.cell (p := ⟨w7.heap.size, 3, none⟩) (by first | omega | (simp; done) | (simp; omega) | (simp [World.setCell]; omega))).trans (by go_simp)
        have bx8_x0_4 : w8.cell? ⟨w7.heap.size, 4, none⟩ = some (.string vE.fSymbol) := (hb8.cell (p := ⟨w7.heap.size, 4, none⟩) (by first | omega | (simp; done) | (simp; omega) | (simp [World.setCell]; omega))).trans (by go_simp)
        have bx8_x0_5 : w8.cell? ⟨w7.heap.size, 5, none⟩ = some (.string vE.fName) := (hb8.cell (p := ⟨w7.heap.size, 5, none⟩) (by first | omega | (simp; done) | (simp; omega) | (simp [World.setCell]; omega))).trans (by go_simp)
        have bx8_x0_6 : w8.cell? ⟨w7.heap.size, 6, none⟩ = some (.slice a6_vE_7 vE.fArgs.length c6_vE_7) := (hb8.cell (p := ⟨w7.heap.size, 6, none⟩) (by first | omega | (simp; done) | (simp; omega) | (simp [World.setCell]; omega))).trans (by go_simp)
        have HS8_6_vE := Lib.hid (HS7_6_vE.out.up hst8 (Nat.le_refl _))
        have HS8_vSlots := Lib.hid (HS7_vSlots.out.up hst8 (Nat.le_refl _))
        have HS8_vIds := Lib.hid (HS7_vIds.out.up hst8 (Nat.le_refl _))
        have HS8_F6_vE_3 := Lib.hid (HS7_F6_vE_3.out.up hst8 (Nat.le_refl _))
        have HS8_6_vE_3 := Lib.hid (HS7_6_vE_3.out.up hst8 (Nat.le_refl _))
        have HS8_FvSlots_4 := Lib.hid (HS7_FvSlots_4.out.up hst8 (Nat.le_refl _))
        have HS8_vSlots_4 := Lib.hid (HS7_vSlots_4.out.up hst8 (Nat.le_refl _))
        have HS8_FvIds_5 := Lib.hid (HS7_FvIds_5.out.up hst8 (Nat.le_refl _))
        have HS8_vIds_5 := Lib.hid (HS7_vIds_5.out.up hst8 (Nat.le_refl _))
        have HS8_F6_vE_7 := Lib.hid (HS7_F6_vE_7.out.up hst8 (Nat.le_refl _))
        have HS8_6_vE_7 := Lib.hid (HS7_6_vE_7.out.up hst8 (Nat.le_refl _))
        have HS8_FvSlots_8 := Lib.hid (show Sf 0 w8.heap.size w8 3 vSlots.length (fun k => DSlot.ct (vSlots.getD k default)) a_vSlots_8 from Sf.of (ho8.soft (lo := 0) (hi := w8.heap.size) (fun y hy => ⟨Nat.zero_le _, hy.2⟩)))
        have HS8_vSlots_8 := Lib.hid (show Sl 0 w8.heap.size w8 3 vSlots.length (fun k => DSlot.ct (vSlots.getD k default)) a_vSlots_8 from Sl.of (ho8.lies (lo := 0) (hi := w8.heap.size) (fun y hy => ⟨Nat.zero_le _, hy.2⟩)))
        have HB8 := Lib.hid (HB7.out.trans (hst8.mono HB7.out.size))
        clear bx7_paE_0 bx7_paE_1 bx7_paE_2 bx7_paE_3 bx7_paE_4 bx7_paE_5 bx7_paE_6 sz7_paE HS7_6_vE HS7_vSlots HS7_vIds HS7_F6_vE_3 HS7_6_vE_3 HS7_FvSlots_4 HS7_vSlots_4 HS7_FvIds_5 HS7_vIds_5 HS7_F6_vE_7 HS7_6_vE_7 ho8 hb8 hst8 HB7
        go_wp2_with fail
        refine (laws_toIntS (cap := c_vIds) vIds hq_vIds _ (Below.size (by repeat (first | (with_reducible exact Below.refl _ _) | (with_reducible apply Below.drew) | (with_reducible refine below_drewN ?_ _) | (refine Below.setCell ?_ (by simp <;> omega) _) | (refine Below.alloc ?_ (by simp <;> omega) _)) : Below w8.heap.size w8 _)) (HS8_vIds.out.later (by repeat (first | (with_reducible exact Below.refl _ _) | (with_reducible apply Below.drew) | (with_reducible refine below_drewN ?_ _) | (refine Below.setCell ?_ (by simp <;> omega) _) | (refine Below.alloc ?_ (by simp <;> omega) _)) : Below w8.heap.size w8 _) (Nat.le_refl _))).mono ?_
        rintro e w9 ⟨a_vIds_9, c_vIds_9, rfl, ho9, hb9⟩
        have hst9 : Below w8.heap.size w8 w9 := Below.trans (by repeat (first | (with_reducible exact Below.refl _ _) | (with_reducible apply Below.drew) | (with_reducible refine below_drewN ?_ _) | (refine Below.setCell ?_ (by simp <;> omega) _) | (refine Below.alloc ?_ (by simp <;> omega) _)) : Below w8.heap.size w8 _) (hb9.mono (Below.size (by repeat (first | (with_reducible exact Below.refl _ _) | (with_reducible apply Below.drew) | (with_reducible refine below_drewN ?_ _) | (refine Below.setCell ?_ (by simp <;> omega) _) | (refine Below.alloc ?_ (by simp <;> omega) _)) : Below w8.heap.size w8 _)))
        have sz9_paE : w.heap.size < w9.heap.size := Nat.lt_of_lt_of_le sz8_paE hst9.size
        have bx9_paE_0 : w9.cell? ⟨w.heap.size, 0, none⟩ = some (.int .i64 vE.fKind) := (hst9.cell (p := ⟨w.heap.size, 0, none⟩) sz8_paE).trans bx8_paE_0
        have bx9_paE_1 : w9.cell? ⟨w.heap.size, 1, none⟩ = some (.int .i64 vE.fN) := (hst9.cell (p := ⟨w.heap.size, 1, none⟩) sz8_paE).trans bx8_paE_1
        have bx9_paE_2 : w9.cell? ⟨w.heap.size, 2, none⟩ = some (.int .i64 vE.fPos) := (hst9.cell (p := ⟨w.heap.size, 2, none⟩) sz8_paE).trans bx8_paE_2
        have bx9_paE_3 : w9.cell? ⟨w.heap.size, 3, none⟩ = some (.int .i64 vE.fType) := (hst9.cell (p := ⟨w.heap.size, 3, none⟩) sz8_paE).trans bx8_paE_3
        have bx9_paE_4 : w9.cell? ⟨w.heap.size, 4, none⟩ = some (.string vE.fSymbol) := (hst9.cell (p := ⟨w.heap.size, 4, none⟩) sz8_paE).trans bx8_paE_4
        have bx9_paE_5 : w9.cell? ⟨w.heap.size, 5, none⟩ = some (.string vE.fName) := (hst9.cell (p := ⟨w.heap.size, 5, none⟩) sz8_paE).trans bx8_paE_5
        have bx9_paE_6 : w9.cell? ⟨w.heap.size, 6, none⟩ = some (.slice a6_vE vE.fArgs.length c6_vE) := (hst9.cell (p := ⟨w.heap.size, 6, none⟩) sz8_paE).trans bx8_paE_6
        have sz9_x0 : w7.heap.size < w9.heap.size := Nat.lt_of_lt_of_le sz8_x0 hst9.size
        have bx9_x0_0 : w9.cell? ⟨w7.heap.size, 0, none⟩ = some (.int .i64 vE.fKind) := (hst9.cell (p := ⟨w7.heap.size, 0, none⟩) sz8_x0).trans bx8_x0_0
        have bx9_x0_1 : w9.cell? ⟨w7.heap.size, 1, none⟩ = some (.int .i64 vE.fN) := (hst9.cell (p := ⟨w7.heap.size, 1, none⟩) sz8_x0).trans bx8_x0_1
        have bx9_x0_2 : w9.cell? ⟨w7.heap.size, 2, none⟩ = some (.int .i64 vE.fPos) := (hst9.cell (p := ⟨w7.heap.size, 2, none⟩) sz8_x0).trans bx8_x0_2
        have bx9_x0_3 : w9.cell? ⟨w7.heap.size, 3, none⟩ = some (.int .i64 vE.fType) := (hst9.cell (p := ⟨w7.heap.size, 3, none⟩) sz8_x0).trans bx8_x0_3
        have bx9_x0_4 : w9.cell? ⟨w7.heap.size, 4, none⟩ = some (.string vE.fSymbol) := (hst9.cell (p := ⟨w7.heap.size, 4, none⟩) sz8_x0).trans bx8_x0_4
        have bx9_x0_5 : w9.cell? ⟨w7.heap.size, 5, none⟩ = some (.string vE.fName) := (hst9.cell (p := ⟨w7.heap.size, 5, none⟩) sz8_x0).trans bx8_x0_5
        have bx9_x0_6 : w9.cell? ⟨w7.heap.size, 6, none⟩ = some (.slice a6_vE_7 vE.fArgs.length c6_vE_7) := (hst9.cell (p := ⟨w7.heap.size, 6, none⟩) sz8_x0).trans bx8_x0_6
        have HS9_6_vE := Lib.hid (HS8_6_vE.out.up hst9 (Nat.le_refl _))
        have HS9_vSlots := Lib.hid (HS8_vSlots.out.up hst9 (Nat.le_refl _))
        have HS9_vIds := Lib.hid (HS8_vIds.out.up hst9 (Nat.le_refl _))
        have HS9_F6_vE_3 := Lib.hid (HS8_F6_vE_3.out.up hst9 (Nat.le_refl _))
        have HS9_6_vE_3 := Lib.hid (HS8_6_vE_3.out.up hst9 (Nat.le_refl _))
        have HS9_FvSlots_4 := Lib.hid (HS8_FvSlots_4.out.up hst9 (Nat.le_refl _))
        have HS9_vSlots_4 := Lib.hid (HS8_vSlots_4.out.up hst9 (Nat.le_refl _))
        have HS9_FvIds_5 := Lib.hid (HS8_FvIds_5.out.up hst9 (Nat.le_refl _))
        have HS9_vIds_5 := Lib.hid (HS8_vIds_5.out.up hst9 (Nat.le_refl _))
        have HS9_F6_vE_7 := Lib.hid (HS8_F6_vE_7.out.up hst9 (Nat.le_refl _))
        have HS9_6_vE_7 := Lib.hid (HS8_6_vE_7.out.up hst9 (Nat.le_refl _))
        have HS9_FvSlots_8 := Lib.hid (HS8_FvSlots_8.out.up hst9 (Nat.le_refl _))
        have HS9_vSlots_8 := Lib.hid (HS8_vSlots_8.out.up hst9 (Nat.le_refl _))
        have HS9_FvIds_9 := Lib.hid (show Sf 0 w9.heap.size w9 1 vIds.length (fun k => ictI (vIds.getD k default)) a_vIds_9 from Sf.of (ho9.soft (lo := 0) (hi := w9.heap.size) (fun y hy => ⟨Nat.zero_le _, hy.2⟩)))
        have HS9_vIds_9 := Lib.hid (show Sl 0 w9.heap.size w9 1 vIds.length (fun k => ictI (vIds.getD k default)) a_vIds_9 from Sl.of (ho9.lies (lo := 0) (hi := w9.heap.size) (fun y hy => ⟨Nat.zero_le _, hy.2⟩)))
        have HB9 := Lib.hid (HB8.out.trans (hst9.mono HB8.out.size))
        clear bx8_paE_0 bx8_paE_1 bx8_paE_2 bx8_paE_3 bx8_paE_4 bx8_paE_5 bx8_paE_6 sz8_paE bx8_x0_0 bx8_x0_1 bx8_x0_2 bx8_x0_3 bx8_x0_4 bx8_x0_5 bx8_x0_6 sz8_x0 HS8_6_vE HS8_vSlots HS8_vIds HS8_F6_vE_3 HS8_6_vE_3 HS8_FvSlots_4 HS8_vSlots_4 HS8_FvIds_5 HS8_vIds_5 HS8_F6_vE_7 HS8_6_vE_7 HS8_FvSlots_8 HS8_vSlots_8 ho9 hb9 hst9 HB8
        go_wp2_with fail
        refine (impl_EvalLocal (c0_0 := c6_vE_7) (c1_0 := c_vSlots_8) (c3_0 := c_vIds_9) vE OK_vE.out hq_vE vSlots OK_vSlots.out hq_vSlots vLiteral OK_vLiteral.out vIds OK_vIds.out hq_vIds _ (Below.size (by repeat (first | (with_reducible exact Below.refl _ _) | (with_reducible apply Below.drew) | (with_reducible refine below_drewN ?_ _) | (refine Below.setCell ?_ (by simp <;> omega) _) | (refine Below.alloc ?_ (by simp <;> omega) _)) : Below w9.heap.size w9 _)) (HS9_F6_vE_7.out.later (by repeat (first | (with_reducible exact Below.refl _ _) | (with_reducible apply Below.drew) | (with_reducible refine below_drewN ?_ _) | (refine Below.setCell ?_ (by simp <;> omega) _) | (refine Below.alloc ?_ (by simp <;> omega) _)) : Below w9.heap.size w9 _) (Nat.le_refl _)) (HS9_FvSlots_8.out.later (by repeat (first | (with_reducible exact Below.refl _ _) | (with_reducible apply Below.drew) | (with_reducible refine below_drewN ?_ _) | (refine Below.setCell ?_ (by simp <;> omega) _) | (refine Below.alloc ?_ (by simp <;> omega) _)) : Below w9.heap.size w9 _) (Nat.le_refl _)) (HS9_FvIds_9.out.later (by repeat (first | (with_reducible exact Below.refl _ _) | (with_reducible apply Below.drew) | (with_reducible refine below_drewN ?_ _) | (refine Below.setCell ?_ (by simp <;> omega) _) | (refine Below.alloc ?_ (by simp <;> omega) _)) : Below w9.heap.size w9 _) (Nat.le_refl _))).mono ?_
        rintro e w10 ⟨rfl, hb10⟩
        have hst10 : Below w9.heap.size w9 w10 := Below.trans (by repeat (first | (with_reducible exact Below.refl _ _) | (with_reducible apply Below.drew) | (with_reducible refine below_drewN ?_ _) | (refine Below.setCell ?_ (by simp <;> omega) _) | (refine Below.alloc ?_ (by simp <;> omega) _)) : Below w9.heap.size w9 _) (hb10.mono (Below.size (by repeat (first | (with_reducible exact Below.refl _ _) | (with_reducible apply Below.drew) | (with_reducible refine below_drewN ?_ _) | (refine Below.setCell ?_ (by simp <;> omega) _) | (refine Below.alloc ?_ (by simp <;> omega) _)) : Below w9.heap.size w9 _)))
        have sz10_paE : w.heap.size < w10.heap.size := Nat.lt_of_lt_of_le sz9_paE hst10.size
        have bx10_paE_0 : w10.cell? ⟨w.heap.size, 0, none⟩ = some (.int .i64 vE.fKind) := (hst10.cell (p := ⟨w.heap.size, 0, none⟩) sz9_paE).trans bx9_paE_0
        have bx10_paE_1 : w10.cell? ⟨w.heap.size, 1, none⟩ = some (.int .i64 vE.fN) := (hst10.cell (p := ⟨w.heap.size, 1, none⟩) sz9_paE).trans bx9_paE_1
        have bx10_paE_2 : w10.cell? ⟨w.heap.size, 2, none⟩ = some (.int .i64 vE.fPos) := (hst10.cell (p := ⟨w.heap.size, 2, none⟩) sz9_paE).trans bx9_paE_2
        have bx10_paE_3 : w10.cell? ⟨w.heap.size, 3, none⟩ = some (.int .i64 vE.fType) := (hst10.cell (p := ⟨w.heap.size, 3, none⟩) sz9_paE).trans bx9_paE_3
        have bx10_paE_4 : w10.cell? ⟨w.heap.size, 4, none⟩ = some (.string vE.fSymbol) := (hst10.cell (p := ⟨w.heap.size, 4, none⟩) sz9_paE).trans bx9_paE_4
        have bx10_paE_5 : w10.cell? ⟨w.heap.size, 5, none⟩ = some (.string vE.fName) := (hst10.cell (p := ⟨w.heap.size, 5, none⟩) sz9_paE).trans bx9_paE_5
        have bx10_paE_6 : w10.cell? ⟨w.heap.size, 6, none⟩ = some (.slice a6_vE vE.fArgs.length c6_vE) := (hst10.cell (p := ⟨w.heap.size, 6, none⟩) sz9_paE).trans bx9_paE_6
        have sz10_x0 : w7.heap.size < w10.heap.size := Nat.lt_of_lt_of_le sz9_x0 hst10.size
        have bx10_x0_0 : w10.cell? ⟨w7.heap.size, 0, none⟩ = some (.int .i64 vE.fKind) := (hst10.cell (p := ⟨w7.heap.size, 0, none⟩) sz9_x0).trans bx9_x0_0
        have bx10_x0_1 : w10.cell? ⟨w7.heap.size, 1, none⟩ = some (.int .i64 vE.fN) := (hst10.cell (p := ⟨w7.heap.size, 1, none⟩) sz9_x0).trans bx9_x0_1
        have bx10_x0_2 : w10.cell? ⟨w7.heap.size, 2, none⟩ = some (.int .i64 vE.fPos) := (hst10.cell (p := ⟨w7.heap.size, 2, none⟩) sz9_x0).trans bx9_x0_2
        have bx10_x0_3 : w10.cell? ⟨w7.heap.size, 3, none⟩ = some (.int .i64 vE.fType) := (hst10.cell (p := ⟨w7.heap.size, 3, none⟩) sz9_x0).trans bx9_x0_3
        have bx10_x0_4 : w10.cell? ⟨w7.heap.size, 4, none⟩ = some (.string vE.fSymbol) := (hst10.cell (p := ⟨w7.heap.size, 4, none⟩) sz9_x0).trans bx9_x0_4
        have bx10_x0_5 : w10.cell? ⟨w7.heap.size, 5, none⟩ = some (.string vE.fName) := (hst10.cell (p := ⟨w7.heap.size, 5, none⟩) sz9_x0).trans bx9_x0_5
        have bx10_x0_6 : w10.cell? ⟨w7.heap.size, 6, none⟩ = some (.slice a6_vE_7 vE.fArgs.length c6_vE_7) := (hst10.cell (p := ⟨w7.heap.size, 6, none⟩) sz9_x0).trans bx9_x0_6
        have HS10_6_vE := Lib.hid (HS9_6_vE.out.up hst10 (Nat.le_refl _))
        have HS10_vSlots := Lib.hid (HS9_vSlots.out.up hst10 (Nat.le_refl _))
        have HS10_vIds := Lib.hid (HS9_vIds.out.up hst10 (Nat.le_refl _))
        have HS10_F6_vE_3 := Lib.hid (HS9_F6_vE_3.out.up hst10 (Nat.le_refl _))
        have HS10_6_vE_3 := Lib.hid (HS9_6_vE_3.out.up hst10 (Nat.le_refl _))
        have HS10_FvSlots_4 := Lib.hid (HS9_FvSlots_4.out.up hst10 (Nat.le_refl _))
        have HS10_vSlots_4 := Lib.hid (HS9_vSlots_4.out.up hst10 (Nat.le_refl _))
        have HS10_FvIds_5 := Lib.hid (HS9_FvIds_5.out.up hst10 (Nat.le_refl _))
        have HS10_vIds_5 := Lib.hid (HS9_vIds_5.out.up hst10 (Nat.le_refl _))
        have HS10_F6_vE_7 := Lib.hid (HS9_F6_vE_7.out.up hst10 (Nat.le_refl _))
        have HS10_6_vE_7 := Lib.hid (HS9_6_vE_7.out.up hst10 (Nat.le_refl _))
        have HS10_FvSlots_8 := Lib.hid (HS9_FvSlots_8.out.up hst10 (Nat.le_refl _))
        have HS10_vSlots_8 := Lib.hid (HS9_vSlots_8.out.up hst10 (Nat.le_refl _))
        have HS10_FvIds_9 := Lib.hid (HS9_FvIds_9.out.up hst10 (Nat.le_refl _))
        have HS10_vIds_9 := Lib.hid (HS9_vIds_9.out.up hst10 (Nat.le_refl _))
        have HB10 := Lib.hid (HB9.out.trans (hst10.mono HB9.out.size))
        clear bx9_paE_0 bx9_paE_1 bx9_paE_2 bx9_paE_3 bx9_paE_4 bx9_paE_5 bx9_paE_6 sz9_paE bx9_x0_0 bx9_x0_1 bx9_x0_2 bx9_x0_3 bx9_x0_4 bx9_x0_5 bx9_x0_6 sz9_x0 HS9_6_vE HS9_vSlots HS9_vIds HS9_F6_vE_3 HS9_6_vE_3 HS9_FvSlots_4 HS9_vSlots_4 HS9_FvIds_5 HS9_vIds_5 HS9_F6_vE_7 HS9_6_vE_7 HS9_FvSlots_8 HS9_vSlots_8 HS9_FvIds_9 HS9_vIds_9 hb10 hst10 HB9
        go_wp2_with fail
        go_region_with ((first | (go_at_call 8; refine (laws_toExpr (c6 := c6_vE) vE hq_vE _ (Below.size (by repeat (first | (with_reducible exact Below.refl _ _) | (with_reducible apply Below.drew) | (with_reducible refine below_drewN ?_ _) | (refine Below.setCell ?_ (by simp <;> omega) _) | (refine Below.alloc ?_ (by simp <;> omega) _)) : Below w10.heap.size w10 _)) (HS10_6_vE.out.later (by repeat (first | (with_reducible exact Below.refl _ _) | (with_reducible apply Below.drew) | (with_reducible refine below_drewN ?_ _) | (refine Below.setCell ?_ (by simp <;> omega) _) | (refine Below.alloc ?_ (by simp <;> omega) _)) : Below w10.heap.size w10 _) (Nat.le_refl _))).mono ?_; rintro e w11 ⟨a6_vE_11, c6_vE_11, rfl, ho11, hb11⟩; have hst11 : Below w10.heap.size w10 w11 := Below.trans (by repeat (first | (with_reducible exact Below.refl _ _) | (with_reducible apply Below.drew) | (with_reducible refine below_drewN ?_ _) | (refine Below.setCell ?_ (by simp <;> omega) _) | (refine Below.alloc ?_ (by simp <;> omega) _)) : Below w10.heap.size w10 _) (hb11.mono (Below.size (by repeat (first | (with_reducible exact Below.refl _ _) | (with_reducible apply Below.drew) | (with_reducible refine below_drewN ?_ _) | (refine Below.setCell ?_ (by simp <;> omega) _) | (refine Below.alloc ?_ (by simp <;> omega) _)) : Below w10.heap.size w10 _))); have sz11_paE : w.heap.size < w11.heap.size := Nat.lt_of_lt_of_le sz10_paE hst11.size; have bx11_paE_0 : w11.cell? ⟨w.heap.size, 0, none⟩ = some (.int .i64 vE.fKind) := (hst11.cell (p := ⟨w.heap.size, 0, none⟩) sz10_paE).trans bx10_paE_0; have bx11_paE_1 : w11.cell? ⟨w.heap.size, 1, none⟩ = some (.int .i64 vE.fN) := (hst11.cell (p := ⟨w.heap.size, 1, none⟩) sz10_paE).trans bx10_paE_1; have bx11_paE_2 : w11.cell? ⟨w.heap.size, 2, none⟩ = some (.int .i64 vE.fPos) := (hst11.cell (p := ⟨w.heap.size, 2, none⟩) sz10_paE).trans bx10_paE_2; have bx11_paE_3 : w11.cell? ⟨w.heap.size, 3, none⟩ = some (.int .i64 vE.fType) := (hst11.cell (p := ⟨w.heap.size, 3, none⟩) sz10_paE).trans bx10_paE_3; have bx11_paE_4 : w11.cell? ⟨w.heap.size, 4, none⟩ = some (.string vE.fSymbol) := (hst11.cell (p := ⟨w.heap.size, 4, none⟩) sz10_paE).trans bx10_paE_4; have bx11_paE_5 : w11.cell? ⟨w.heap.size, 5, none⟩ = some (.string vE.fName) := (hst11.cell (p := ⟨w.heap.size, 5, none⟩) sz10_paE).trans bx10_paE_5; have bx11_paE_6 : w11.cell? ⟨w.heap.size, 6, none⟩ = some (.slice a6_vE vE.fArgs.length c6_vE) := (hst11.cell (p := ⟨w.heap.size, 6, none⟩) sz10_paE).trans bx10_paE_6; have sz11_x0 : w7.heap.size < w11.heap.size := Nat.lt_of_lt_of_le sz10_x0 hst11.size; have bx11_x0_0 : w11.cell? ⟨w7.heap.size, 0, none⟩ = some (.int .i64 vE.fKind) := (hst11.cell (p := ⟨w7.heap.size, 0, none⟩) sz10_x0).trans bx10_x0_0; have bx11_x0_1 : w11.cell? ⟨w7.heap.size, 1, none⟩ = some (.int .i64 vE.fN) := (hst11.cell (p := ⟨w7.heap.size, 1, none⟩) sz10_x0).trans bx10_x0_1; have bx11_x0_2 : w11.cell? ⟨w7.heap.size, 2, none⟩ = some (.int .i64 vE.fPos) := (hst11.cell (p := ⟨w7.heap.size, 2, none⟩) sz10_x0).trans bx10_x0_2; have bx11_x0_3 : w11.cell? ⟨w7.heap.size, 3, none⟩ = some (.int .i64 vE.fType) := (hst11.cell (p := ⟨w7.heap.size, 3, none⟩) sz10_x0).trans bx10_x0_3; have bx11_x0_4 : w11.cell? ⟨w7.heap.size, 4, none⟩ = some (.string vE.fSymbol) := (hst11.cell (p := ⟨w7.heap.size, 4, none⟩) sz10_x0).trans bx10_x0_4; have bx11_x0_5 : w11.cell? ⟨w7.heap.size, 5, none⟩ = some (.string vE.fName) := (hst11.cell (p := ⟨w7.heap.size, 5, none⟩) sz10_x0).trans bx10_x0_5; have bx11_x0_6 : w11.cell? ⟨w7.heap.size, 6, none⟩ = some (.slice a6_vE_7 vE.fArgs.length c6_vE_7) := (hst11.cell (p := ⟨w7.heap.size, 6, none⟩) sz10_x0).trans bx10_x0_6; have HS11_6_vE := Lib.hid (HS10_6_vE.out.up hst11 (Nat.le_refl _)); have HS11_vSlots := Lib.hid (HS10_vSlots.out.up hst11 (Nat.le_refl _)); have HS11_vIds := Lib.hid (HS10_vIds.out.up hst11 (Nat.le_refl _)); have HS11_F6_vE_3 := Lib.hid (HS10_F6_vE_3.out.up hst11 (Nat.le_refl _)); have HS11_6_vE_3 := Lib.hid (HS10_6_vE_3.out.up hst11 (Nat.le_refl _)); have HS11_FvSlots_4 := Lib.hid (HS10_FvSlots_4.out.up hst11 (Nat.le_refl _)); have HS11_vSlots_4 := Lib.hid (HS10_vSlots_4.out.up hst11 (Nat.le_refl _)); have HS11_FvIds_5 := Lib.hid (HS10_FvIds_5.out.up hst11 (Nat.le_refl _)); have HS11_vIds_5 := Lib.hid (HS10_vIds_5.out.up hst11 (Nat.le_refl _)); have HS11_F6_vE_7 := Lib.hid (HS10_F6_vE_7.out.up hst11 (Nat.le_refl _)); have HS11_6_vE_7 := Lib.hid (HS10_6_vE_7.out.up hst11 (Nat.le_refl _)); have HS11_FvSlots_8 := Lib.hid (HS10_FvSlots_8.out.up hst11 (Nat.le_refl _)); have HS11_vSlots_8 := Lib.hid (HS10_vSlots_8.out.up hst11 (Nat.le_refl _)); have HS11_FvIds_9 := Lib.hid (HS10_FvIds_9.out.up hst11 (Nat.le_refl _)); have HS11_vIds_9 := Lib.hid (HS10_vIds_9.out.up hst11 (Nat.le_refl _)); have HS11_F6_vE_11 := Lib.hid (show Sf 0 w11.heap.size w11 7 vE.fArgs.length (ctE vE.fArgs) a6_vE_11 from Sf.of (cap := c6_vE_11) (l := vE.fArgs.length) (a := a6_vE_11) (ho11.soft (lo := 0) (hi := w11.heap.size) (fun y hy => ⟨Nat.zero_le _, hy.2⟩) 6 (by decide))); have HS11_6_vE_11 := Lib.hid (show Sl 0 w11.heap.size w11 7 vE.fArgs.length (ctE vE.fArgs) a6_vE_11 from Sl.of (cap := c6_vE_11) (l := vE.fArgs.length) (a := a6_vE_11) (ho11.lies (lo := 0) (hi := w11.heap.size) (fun y hy => ⟨Nat.zero_le _, hy.2⟩) 6 (by decide))); have HB11 := Lib.hid (HB10.out.trans (hst11.mono HB10.out.size)); clear bx10_paE_0 bx10_paE_1 bx10_paE_2 bx10_paE_3 bx10_paE_4 bx10_paE_5 bx10_paE_6 sz10_paE bx10_x0_0 bx10_x0_1 bx10_x0_2 bx10_x0_3 bx10_x0_4 bx10_x0_5 bx10_x0_6 sz10_x0 HS10_6_vE HS10_vSlots HS10_vIds HS10_F6_vE_3 HS10_6_vE_3 HS10_FvSlots_4 HS10_vSlots_4 HS10_FvIds_5 HS10_vIds_5 HS10_F6_vE_7 HS10_6_vE_7 HS10_FvSlots_8 HS10_vSlots_8 HS10_FvIds_9 HS10_vIds_9 ho11 hb11 hst11 HB10) | (go_at_call 12; refine (laws_eqExpr (c6 := c6_vE_7) (c6q := c6_vE_11) vE hq_vE _ (Below.size (by repeat (first | (with_reducible exact Below.refl _ _) | (with_reducible apply Below.drew) | (with_reducible refine below_drewN ?_ _) | (refine Below.setCell ?_ (by simp <;> omega) _) | (refine Below.alloc ?_ (by simp <;> omega) _)) : Below w11.heap.size w11 _)) (Below.size (by repeat (first | (with_reducible exact Below.refl _ _) | (with_reducible apply Below.drew) | (with_reducible refine below_drewN ?_ _) | (refine Below.setCell ?_ (by simp <;> omega) _) | (refine Below.alloc ?_ (by simp <;> omega) _)) : Below w11.heap.size w11 _)) (HS11_6_vE_7.out.later (by repeat (first | (with_reducible exact Below.refl _ _) | (with_reducible apply Below.drew) | (with_reducible refine below_drewN ?_ _) | (refine Below.setCell ?_ (by simp <;> omega) _) | (refine Below.alloc ?_ (by simp <;> omega) _)) : Below w11.heap.size w11 _) (Nat.le_refl _)) (HS11_6_vE_11.out.later (by repeat (first | (with_reducible exact Below.refl _ _) | (with_reducible apply Below.drew) | (with_reducible refine below_drewN ?_ _) | (refine Below.setCell ?_ (by simp <;> omega) _) | (refine Below.alloc ?_ (by simp <;> omega) _)) : Below w11.heap.size w11 _) (Nat.le_refl _))).mono ?_; rintro e w12 ⟨rfl, hb12⟩; have hst12 : Below w11.heap.size w11 w12 := Below.trans (by repeat (first | (with_reducible exact Below.refl _ _) | (with_reducible apply Below.drew) | (with_reducible refine below_drewN ?_ _) | (refine Below.setCell ?_ (by simp <;> omega) _) | (refine Below.alloc ?_ (by simp <;> omega) _)) : Below w11.heap.size w11 _) (hb12.mono (Below.size (by repeat (first | (with_reducible exact Below.refl _ _) | (with_reducible apply Below.drew) | (with_reducible refine below_drewN ?_ _) | (refine Below.setCell ?_ (by simp <;> omega) _) | (refine Below.alloc ?_ (by simp <;> omega) _)) : Below w11.heap.size w11 _))); have sz12_paE : w.heap.size < w12.heap.size := Nat.lt_of_lt_of_le sz11_paE hst12.size; have bx12_paE_0 : w12.cell? ⟨w.heap.size, 0, none⟩ = some (.int .i64 vE.fKind) := (hst12.cell (p := ⟨w.heap.size, 0, none⟩) sz11_paE).trans bx11_paE_0; have bx12_paE_1 : w12.cell? ⟨w.heap.size, 1, none⟩ = some (.int .i64 vE.fN) := (hst12.cell (p := ⟨w.heap.size, 1, none⟩) sz11_paE).trans bx11_paE_1; have bx12_paE_2 : w12.cell? ⟨w.heap.size, 2, none⟩ = some (.int .i64 vE.fPos) := (hst12.cell (p := ⟨w.heap.size, 2, none⟩) sz11_paE).trans bx11_paE_2; have bx12_paE_3 : w12.cell? ⟨w.heap.size, 3, none⟩ = some (.int .i64 vE.fType) := (hst12.cell (p := ⟨w.heap.size, 3, none⟩) sz11_paE).trans bx11_paE_3; have bx12_paE_4 : w12.cell? ⟨w.heap.size, 4, none⟩ = some (.string vE.fSymbol) := (hst12.cell (p := ⟨w.heap.size, 4, none⟩) sz11_paE).trans bx11_paE_4; have bx12_paE_5 : w12.cell? ⟨w.heap.size, 5, none⟩ = some (.string vE.fName) := (hst12.cell (p := ⟨w.heap.size, 5, none⟩) sz11_paE).trans bx11_paE_5; have bx12_paE_6 : w12.cell? ⟨w.heap.size, 6, none⟩ = some (.slice a6_vE vE.fArgs.length c6_vE) := (hst12.cell (p := ⟨w.heap.size, 6, none⟩) sz11_paE).trans bx11_paE_6; have sz12_x0 : w7.heap.size < w12.heap.size := Nat.lt_of_lt_of_le sz11_x0 hst12.size; have bx12_x0_0 : w12.cell? ⟨w7.heap.size, 0, none⟩ = some (.int .i64 vE.fKind) := (hst12.cell (p := ⟨w7.heap.size, 0, none⟩) sz11_x0).trans bx11_x0_0; have bx12_x0_1 : w12.cell? ⟨w7.heap.size, 1, none⟩ = some (.int .i64 vE.fN) := (hst12.cell (p := ⟨w7.heap.size, 1, none⟩) sz11_x0).trans bx11_x0_1; have bx12_x0_2 : w12.cell? ⟨w7.heap.size, 2, none⟩ = some (.int .i64 vE.fPos) := (hst12.cell (p := ⟨w7.heap.size, 2, none⟩) sz11_x0).trans bx11_x0_2; have bx12_x0_3 : w12.cell? ⟨w7.heap.size, 3, none⟩ = some (.int .i64 vE.fType) := (hst12.cell (p := ⟨w7.heap.size, 3, none⟩) sz11_x0).trans bx11_x0_3; have bx12_x0_4 : w12.cell? ⟨w7.heap.size, 4, none⟩ = some (.string vE.fSymbol) := (hst12.cell (p := ⟨w7.heap.size, 4, none⟩) sz11_x0).trans bx11_x0_4; have bx12_x0_5 : w12.cell? ⟨w7.heap.size, 5, none⟩ = some (.string vE.fName) := (hst12.cell (p := ⟨w7.heap.size, 5, none⟩) sz11_x0).trans bx11_x0_5; have bx12_x0_6 : w12.cell? ⟨w7.heap.size, 6, none⟩ = some (.slice a6_vE_7 vE.fArgs.length c6_vE_7) := (hst12.cell (p := ⟨w7.heap.size, 6, none⟩) sz11_x0).trans bx11_x0_6; have HS12_6_vE := Lib.hid (HS11_6_vE.out.up hst12 (Nat.le_refl _)); have HS12_vSlots := Lib.hid (HS11_vSlots.out.up hst12 (Nat.le_refl _)); have HS12_vIds := Lib.hid (HS11_vIds.out.up hst12 (Nat.le_refl _)); have HS12_F6_vE_3 := Lib.hid (HS11_F6_vE_3.out.up hst12 (Nat.le_refl _)); have HS12_6_vE_3 := Lib.hid (HS11_6_vE_3.out.up hst12 (Nat.le_refl _)); have HS12_FvSlots_4 := Lib.hid (HS11_FvSlots_4.out.up hst12 (Nat.le_refl _)); have HS12_vSlots_4 := Lib.hid (HS11_vSlots_4.out.up hst12 (Nat.le_refl _)); have HS12_FvIds_5 := Lib.hid (HS11_FvIds_5.out.up hst12 (Nat.le_refl _)); have HS12_vIds_5 := Lib.hid (HS11_vIds_5.out.up hst12 (Nat.le_refl _)); have HS12_F6_vE_7 := Lib.hid (HS11_F6_vE_7.out.up hst12 (Nat.le_refl _)); have HS12_6_vE_7 := Lib.hid (HS11_6_vE_7.out.up hst12 (Nat.le_refl _)); have HS12_FvSlots_8 := Lib.hid (HS11_FvSlots_8.out.up hst12 (Nat.le_refl _)); have HS12_vSlots_8 := Lib.hid (HS11_vSlots_8.out.up hst12 (Nat.le_refl _)); have HS12_FvIds_9 := Lib.hid (HS11_FvIds_9.out.up hst12 (Nat.le_refl _)); have HS12_vIds_9 := Lib.hid (HS11_vIds_9.out.up hst12 (Nat.le_refl _)); have HS12_F6_vE_11 := Lib.hid (HS11_F6_vE_11.out.up hst12 (Nat.le_refl _)); have HS12_6_vE_11 := Lib.hid (HS11_6_vE_11.out.up hst12 (Nat.le_refl _)); have HB12 := Lib.hid (HB11.out.trans (hst12.mono HB11.out.size)); clear bx11_paE_0 bx11_paE_1 bx11_paE_2 bx11_paE_3 bx11_paE_4 bx11_paE_5 bx11_paE_6 sz11_paE bx11_x0_0 bx11_x0_1 bx11_x0_2 bx11_x0_3 bx11_x0_4 bx11_x0_5 bx11_x0_6 sz11_x0 HS11_6_vE HS11_vSlots HS11_vIds HS11_F6_vE_3 HS11_6_vE_3 HS11_FvSlots_4 HS11_vSlots_4 HS11_FvIds_5 HS11_vIds_5 HS11_F6_vE_7 HS11_6_vE_7 HS11_FvSlots_8 HS11_vSlots_8 HS11_FvIds_9 HS11_vIds_9 HS11_F6_vE_11 HS11_6_vE_11 hb12 hst12 HB11)))
        all_goals
          go_wp2_with fail
          refine (laws_toSlotS (cap := c_vSlots) vSlots hq_vSlots _ (Below.size (by repeat (first | (with_reducible exact Below.refl _ _) | (with_reducible apply Below.drew) | (with_reducible refine below_drewN ?_ _) | (refine Below.setCell ?_ (by simp <;> omega) _) | (refine Below.alloc ?_ (by simp <;> omega) _)) : Below w12.heap.size w12 _)) (HS12_vSlots.out.later (by repeat (first | (with_reducible exact Below.refl _ _) | (with_reducible apply Below.drew) | (with_reducible refine below_drewN ?_ _) | (refine Below.setCell ?_ (by simp <;> omega) _) | (refine Below.alloc ?_ (by simp <;> omega) _)) : Below w12.heap.size w12 _) (Nat.le_refl _))).mono ?_
          rintro e w13 ⟨a_vSlots_13, c_vSlots_13, rfl, ho13, hb13⟩
          have hst13 : Below w12.heap.size w12 w13 := Below.trans (by repeat (first | (with_reducible exact Below.refl _ _) | (with_reducible apply Below.drew) | (with_reducible refine below_drewN ?_ _) | (refine Below.setCell ?_ (by simp <;> omega) _) | (refine Below.alloc ?_ (by simp <;> omega) _)) : Below w12.heap.size w12 _) (hb13.mono (Below.size (by repeat (first | (with_reducible exact Below.refl _ _) | (with_reducible apply Below.drew) | (with_reducible refine below_drewN ?_ _) | (refine Below.setCell ?_ (by simp <;> omega) _) | (refine Below.alloc ?_ (by simp <;> omega) _)) : Below w12.heap.size w12 _)))
          have sz13_paE : w.heap.size < w13.heap.size := Nat.lt_of_lt_of_le sz12_paE hst13.size
          have bx13_paE_0 : w13.cell? ⟨w.heap.size, 0, none⟩ = some (.int .i64 vE.fKind) := (hst13.cell (p := ⟨w.heap.size, 0, none⟩) sz12_paE).trans bx12_paE_0
          have bx13_paE_1 : w13.cell? ⟨w.heap.size, 1, none⟩ = some (.int .i64 vE.fN) := (hst13.cell (p := ⟨w.heap.size, 1, none⟩) sz12_paE).trans bx12_paE_1
          have bx13_paE_2 : w13.cell? ⟨w.heap.size, 2, none⟩ = some (.int .i64 vE.fPos) := (hst13.cell (p := ⟨w.heap.size, 2, none⟩) sz12_paE).trans bx12_paE_2
          have bx13_paE_3 : w13.cell? ⟨w.heap.size, 3, none⟩ = some (.int .i64 vE.fType) := (hst13.cell (p := ⟨w.heap.size, 3, none⟩) sz12_paE).trans bx12_paE_3
          have bx13_paE_4 : w13.cell? ⟨w.heap.size, 4, none⟩ = some (.string vE.fSymbol) := (hst13.cell (p := ⟨w.heap.size, 4, none⟩) sz12_paE).trans bx12_paE_4
          have bx13_paE_5 : w13.cell? ⟨w.heap.size, 5, none⟩ = some (.string vE.fName) := (hst13.cell (p := ⟨w.heap.size, 5, none⟩) sz12_paE).trans bx12_paE_5
          have bx13_paE_6 : w13.cell? ⟨w.heap.size, 6, none⟩ = some (.slice a6_vE vE.fArgs.length c6_vE) := (hst13.cell (p := ⟨w.heap.size, 6, none⟩) sz12_paE).trans bx12_paE_6
          have sz13_x0 : w7.heap.size < w13.heap.size := Nat.lt_of_lt_of_le sz12_x0 hst13.size
          have bx13_x0_0 : w13.cell? ⟨w7.heap.size, 0, none⟩ = some (.int .i64 vE.fKind) := (hst13.cell (p := ⟨w7.heap.size, 0, none⟩) sz12_x0).trans bx12_x0_0
          have bx13_x0_1 : w13.cell? ⟨w7.heap.size, 1, none⟩ = some (.int .i64 vE.fN) := (hst13.cell (p := ⟨w7.heap.size, 1, none⟩) sz12_x0).trans bx12_x0_1
          have bx13_x0_2 : w13.cell? ⟨w7.heap.size, 2, none⟩ = some (.int .i64 vE.fPos) := (hst13.cell (p := ⟨w7.heap.size, 2, none⟩) sz12_x0).trans bx12_x0_2
          have bx13_x0_3 : w13.cell? ⟨w7.heap.size, 3, none⟩ = some (.int .i64 vE.fType) := (hst13.cell (p := ⟨w7.heap.size, 3, none⟩) sz12_x0).trans bx12_x0_3
          have bx13_x0_4 : w13.cell? ⟨w7.heap.size, 4, none⟩ = some (.string vE.fSymbol) := (hst13.cell (p := ⟨w7.heap.size, 4, none⟩) sz12_x0).trans bx12_x0_4
          have bx13_x0_5 : w13.cell? ⟨w7.heap.size, 5, none⟩ = some (.string vE.fName) := (hst13.cell (p := ⟨w7.heap.size, 5, none⟩) sz12_x0).trans bx12_x0_5
          have bx13_x0_6 : w13.cell? ⟨w7.heap.size, 6, none⟩ = some (.slice a6_vE_7 vE.fArgs.length c6_vE_7) := (hst13.cell (p := ⟨w7.heap.size, 6, none⟩) sz12_x0).trans bx12_x0_6
          have HS13_6_vE := Lib.hid (HS12_6_vE.out.up hst13 (Nat.le_refl _))
          have HS13_vSlots := Lib.hid (HS12_vSlots.out.up hst13 (Nat.le_refl _))
          have HS13_vIds := Lib.hid (HS12_vIds.out.up hst13 (Nat.le_refl _))
          have HS13_F6_vE_3 := Lib.hid (HS12_F6_vE_3.out.up hst13 (Nat.le_refl _))
          have HS13_6_vE_3 := Lib.hid (HS12_6_vE_3.out.up hst13 (Nat.le_refl _))
          have HS13_FvSlots_4 := Lib.hid (HS12_FvSlots_4.out.up hst13 (Nat.le_refl _))
          have HS13_vSlots_4 := Lib.hid (HS12_vSlots_4.out.up hst13 (Nat.le_refl _))
          have HS13_FvIds_5 := Lib.hid (HS12_FvIds_5.out.up hst13 (Nat.le_refl _))
          have HS13_vIds_5 := Lib.hid (HS12_vIds_5.out.up hst13 (Nat.le_refl _))
          have HS13_F6_vE_7 := Lib.hid (HS12_F6_vE_7.out.up hst13 (Nat.le_refl _))
          have HS13_6_vE_7 := Lib.hid (HS12_6_vE_7.out.up hst13 (Nat.le_refl _))
          have HS13_FvSlots_8 := Lib.hid (HS12_FvSlots_8.out.up hst13 (Nat.le_refl _))
          have HS13_vSlots_8 := Lib.hid (HS12_vSlots_8.out.up hst13 (Nat.le_refl _))
          have HS13_FvIds_9 := Lib.hid (HS12_FvIds_9.out.up hst13 (Nat.le_refl _))
          have HS13_vIds_9 := Lib.hid (HS12_vIds_9.out.up hst13 (Nat.le_refl _))
          have HS13_F6_vE_11 := Lib.hid (HS12_F6_vE_11.out.up hst13 (Nat.le_refl _))
          have HS13_6_vE_11 := Lib.hid (HS12_6_vE_11.out.up hst13 (Nat.le_refl _))
          have HS13_FvSlots_13 := Lib.hid (show Sf 0 w13.heap.size w13 3 vSlots.length (fun k => DSlot.ct (vSlots.getD k default)) a_vSlots_13 from Sf.of (ho13.soft (lo := 0) (hi := w13.heap.size) (fun y hy => ⟨Nat.zero_le _, hy.2⟩)))
          have HS13_vSlots_13 := Lib.hid (show Sl 0 w13.heap.size w13 3 vSlots.length (fun k => DSlot.ct (vSlots.getD k default)) a_vSlots_13 from Sl.of (ho13.lies (lo := 0) (hi := w13.heap.size) (fun y hy => ⟨Nat.zero_le _, hy.2⟩)))
          have HB13 := Lib.hid (HB12.out.trans (hst13.mono HB12.out.size))
          clear bx12_paE_0 bx12_paE_1 bx12_paE_2 bx12_paE_3 bx12_paE_4 bx12_paE_5 bx12_paE_6 sz12_paE bx12_x0_0 bx12_x0_1 bx12_x0_2 bx12_x0_3 bx12_x0_4 bx12_x0_5 bx12_x0_6 sz12_x0 HS12_6_vE HS12_vSlots HS12_vIds HS12_F6_vE_3 HS12_6_vE_3 HS12_FvSlots_4 HS12_vSlots_4 HS12_FvIds_5 HS12_vIds_5 HS12_F6_vE_7 HS12_6_vE_7 HS12_FvSlots_8 HS12_vSlots_8 HS12_FvIds_9 HS12_vIds_9 HS12_F6_vE_11 HS12_6_vE_11 ho13 hb13 hst13 HB12
          go_wp2_with fail
          refine (laws_eqSlotS (cap := c_vSlots_8) (cap2 := c_vSlots_13) vSlots hq_vSlots _ (Below.size (by repeat (first | (with_reducible exact Below.refl _ _) | (with_reducible apply Below.drew) | (with_reducible refine below_drewN ?_ _) | (refine Below.setCell ?_ (by simp <;> omega) _) | (refine Below.alloc ?_ (by simp <;> omega) _)) : Below w13.heap.size w13 _)) (Below.size (by repeat (first | (with_reducible exact Below.refl _ _) | (with_reducible apply Below.drew) | (with_reducible refine below_drewN ?_ _) | (refine Below.setCell ?_ (by simp <;> omega) _) | (refine Below.alloc ?_ (by simp <;> omega) _)) : Below w13.heap.size w13 _)) (HS13_vSlots_8.out.later (by repeat (first | (with_reducible exact Below.refl _ _) | (with_reducible apply Below.drew) | (with_reducible refine below_drewN ?_ _) | (refine Below.setCell ?_ (by simp <;> omega) _) | (refine Below.alloc ?_ (by simp <;> omega) _)) : Below w13.heap.size w13 _) (Nat.le_refl _)) (HS13_vSlots_13.out.later (by repeat (first | (with_reducible exact Below.refl _ _) | (with_reducible apply Below.drew) | (with_reducible refine below_drewN ?_ _) | (refine Below.setCell ?_ (by simp <;> omega) _) | (refine Below.alloc ?_ (by simp <;> omega) _)) : Below w13.heap.size w13 _) (Nat.le_refl _))).mono ?_
          rintro e w14 ⟨rfl, hb14⟩
          have hst14 : Below w13.heap.size w13 w14 := Below.trans (by repeat (first | (with_reducible exact Below.refl _ _) | (with_reducible apply Below.drew) | (with_reducible refine below_drewN ?_ _) | (refine Below.setCell ?_ (by simp <;> omega) _) | (refine Below.alloc ?_ (by simp <;> omega) _)) : Below w13.heap.size w13 _) (hb14.mono (Below.size (by repeat (first | (with_reducible exact Below.refl _ _) | (with_reducible apply Below.drew) | (with_reducible refine below_drewN ?_ _) | (refine Below.setCell ?_ (by simp <;> omega) _) | (refine Below.alloc ?_ (by simp <;> omega) _)) : Below w13.heap.size w13 _)))
          have sz14_paE : w.heap.size < w14.heap.size := Nat.lt_of_lt_of_le sz13_paE hst14.size
          have bx14_paE_0 : w14.cell? ⟨w.heap.size, 0, none⟩ = some (.int .i64 vE.fKind) := (hst14.cell (p := ⟨w.heap.size, 0, none⟩) sz13_paE).trans bx13_paE_0
          have bx14_paE_1 : w14.cell? ⟨w.heap.size, 1, none⟩ = some (.int .i64 vE.fN) := (hst14.cell (p := ⟨w.heap.size, 1, none⟩) sz13_paE).trans bx13_paE_1
          have bx14_paE_2 : w14.cell? ⟨w.heap.size, 2, none⟩ = some (.int .i64 vE.fPos) := (hst14.cell (p := ⟨w.heap.size, 2, none⟩) sz13_paE).trans bx13_paE_2
          have bx14_paE_3 : w14.cell? ⟨w.heap.size, 3, none⟩ = some (.int .i64 vE.fType) := (hst14.cell (p := ⟨w.heap.size, 3, none⟩) sz13_paE).trans bx13_paE_3
          have bx14_paE_4 : w14.cell? ⟨w.heap.size, 4, none⟩ = some (.string vE.fSymbol) := (hst14.cell (p := ⟨w.heap.size, 4, none⟩) sz13_paE).trans bx13_paE_4
          have bx14_paE_5 : w14.cell? ⟨w.heap.size, 5, none⟩ = some (.string vE.fName) := (hst14.cell (p := ⟨w.heap.size, 5, none⟩) sz13_paE).trans bx13_paE_5
          have bx14_paE_6 : w14.cell? ⟨w.heap.size, 6, none⟩ = some (.slice a6_vE vE.fArgs.length c6_vE) := (hst14.cell (p := ⟨w.heap.size, 6, none⟩) sz13_paE).trans bx13_paE_6
          have sz14_x0 : w7.heap.size < w14.heap.size := Nat.lt_of_lt_of_le sz13_x0 hst14.size
          have bx14_x0_0 : w14.cell? ⟨w7.heap.size, 0, none⟩ = some (.int .i64 vE.fKind) := (hst14.cell (p := ⟨w7.heap.size, 0, none⟩) sz13_x0).trans bx13_x0_0
          have bx14_x0_1 : w14.cell? ⟨w7.heap.size, 1, none⟩ = some (.int .i64 vE.fN) := (hst14.cell (p := ⟨w7.heap.size, 1, none⟩) sz13_x0).trans bx13_x0_1
          have bx14_x0_2 : w14.cell? ⟨w7.heap.size, 2, none⟩ = some (.int .i64 vE.fPos) := (hst14.cell (p := ⟨w7.heap.size, 2, none⟩) sz13_x0).trans bx13_x0_2
          have bx14_x0_3 : w14.cell? ⟨w7.heap.size, 3, none⟩ = some (.int .i64 vE.fType) := (hst14.cell (p := ⟨w7.heap.size, 3, none⟩) sz13_x0).trans bx13_x0_3
          have bx14_x0_4 : w14.cell? ⟨w7.heap.size, 4, none⟩ = some (.string vE.fSymbol) := (hst14.cell (p := ⟨w7.heap.size, 4, none⟩) sz13_x0).trans bx13_x0_4
          have bx14_x0_5 : w14.cell? ⟨w7.heap.size, 5, none⟩ = some (.string vE.fName) := (hst14.cell (p := ⟨w7.heap.size, 5, none⟩) sz13_x0).trans bx13_x0_5
          have bx14_x0_6 : w14.cell? ⟨w7.heap.size, 6, none⟩ = some (.slice a6_vE_7 vE.fArgs.length c6_vE_7) := (hst14.cell (p := ⟨w7.heap.size, 6, none⟩) sz13_x0).trans bx13_x0_6
          have HS14_6_vE := Lib.hid (HS13_6_vE.out.up hst14 (Nat.le_refl _))
          have HS14_vSlots := Lib.hid (HS13_vSlots.out.up hst14 (Nat.le_refl _))
          have HS14_vIds := Lib.hid (HS13_vIds.out.up hst14 (Nat.le_refl _))
          have HS14_F6_vE_3 := Lib.hid (HS13_F6_vE_3.out.up hst14 (Nat.le_refl _))
          have HS14_6_vE_3 := Lib.hid (HS13_6_vE_3.out.up hst14 (Nat.le_refl _))
          have HS14_FvSlots_4 := Lib.hid (HS13_FvSlots_4.out.up hst14 (Nat.le_refl _))
          have HS14_vSlots_4 := Lib.hid (HS13_vSlots_4.out.up hst14 (Nat.le_refl _))
          have HS14_FvIds_5 := Lib.hid (HS13_FvIds_5.out.up hst14 (Nat.le_refl _))
          have HS14_vIds_5 := Lib.hid (HS13_vIds_5.out.up hst14 (Nat.le_refl _))
          have HS14_F6_vE_7 := Lib.hid (HS13_F6_vE_7.out.up hst14 (Nat.le_refl _))
          have HS14_6_vE_7 := Lib.hid (HS13_6_vE_7.out.up hst14 (Nat.le_refl _))
          have HS14_FvSlots_8 := Lib.hid (HS13_FvSlots_8.out.up hst14 (Nat.le_refl _))
          have HS14_vSlots_8 := Lib.hid (HS13_vSlots_8.out.up hst14 (Nat.le_refl _))
          have HS14_FvIds_9 := Lib.hid (HS13_FvIds_9.out.up hst14 (Nat.le_refl _))
          have HS14_vIds_9 := Lib.hid (HS13_vIds_9.out.up hst14 (Nat.le_refl _))
          have HS14_F6_vE_11 := Lib.hid (HS13_F6_vE_11.out.up hst14 (Nat.le_refl _))
          have HS14_6_vE_11 := Lib.hid (HS13_6_vE_11.out.up hst14 (Nat.le_refl _))
          have HS14_FvSlots_13 := Lib.hid (HS13_FvSlots_13.out.up hst14 (Nat.le_refl _))
          have HS14_vSlots_13 := Lib.hid (HS13_vSlots_13.out.up hst14 (Nat.le_refl _))
          have HB14 := Lib.hid (HB13.out.trans (hst14.mono HB13.out.size))
          clear bx13_paE_0 bx13_paE_1 bx13_paE_2 bx13_paE_3 bx13_paE_4 bx13_paE_5 bx13_paE_6 sz13_paE bx13_x0_0 bx13_x0_1 bx13_x0_2 bx13_x0_3 bx13_x0_4 bx13_x0_5 bx13_x0_6 sz13_x0 HS13_6_vE HS13_vSlots HS13_vIds HS13_F6_vE_3 HS13_6_vE_3 HS13_FvSlots_4 HS13_vSlots_4 HS13_FvIds_5 HS13_vIds_5 HS13_F6_vE_7 HS13_6_vE_7 HS13_FvSlots_8 HS13_vSlots_8 HS13_FvIds_9 HS13_vIds_9 HS13_F6_vE_11 HS13_6_vE_11 HS13_FvSlots_13 HS13_vSlots_13 hb14 hst14 HB13
          go_wp2_with fail
          refine (laws_toIntS (cap := c_vIds) vIds hq_vIds _ (Below.size (by repeat (first | (with_reducible exact Below.refl _ _) | (with_reducible apply Below.drew) | (with_reducible refine below_drewN ?_ _) | (refine Below.setCell ?_ (by simp <;> omega) _) | (refine Below.alloc ?_ (by simp <;> omega) _)) : Below w14.heap.size w14 _)) (HS14_vIds.out.later (by repeat (first | (with_reducible exact Below.refl _ _) | (with_reducible apply Below.drew) | (with_reducible refine below_drewN ?_ _) | (refine Below.setCell ?_ (by simp <;> omega) _) | (refine Below.alloc ?_ (by simp <;> omega) _)) : Below w14.heap.size w14 _) (Nat.le_refl _))).mono ?_
          rintro e w15 ⟨a_vIds_15, c_vIds_15, rfl, ho15, hb15⟩
          have hst15 : Below w14.heap.size w14 w15 := Below.trans (by repeat (first | (with_reducible exact Below.refl _ _) | (with_reducible apply Below.drew) | (with_reducible refine below_drewN ?_ _) | (refine Below.setCell ?_ (by simp <;> omega) _) | (refine Below.alloc ?_ (by simp <;> omega) _)) : Below w14.heap.size w14 _) (hb15.mono (Below.size (by repeat (first | (with_reducible exact Below.refl _ _) | (with_reducible apply Below.drew) | (with_reducible refine below_drewN ?_ _) | (refine Below.setCell ?_ (by simp <;> omega) _) | (refine Below.alloc ?_ (by simp <;> omega) _)) : Below w14.heap.size w14 _)))
          have sz15_paE : w.heap.size < w15.heap.size := Nat.lt_of_lt_of_le sz14_paE hst15.size
          have bx15_paE_0 : w15.cell? ⟨w.heap.size, 0, none⟩ = some (.int .i64 vE.fKind) := (hst15.cell (p := ⟨w.heap.size, 0, none⟩) sz14_paE).trans bx14_paE_0
          have bx15_paE_1 : w15.cell? ⟨w.heap.size, 1, none⟩ = some (.int .i64 vE.fN) := (hst15.cell (p := ⟨w.heap.size, 1, none⟩) sz14_paE).trans bx14_paE_1
          have bx15_paE_2 : w15.cell? ⟨w.heap.size, 2, none⟩ = some (.int .i64 vE.fPos) := (hst15.cell (p := ⟨w.heap.size, 2, none⟩) sz14_paE).trans bx14_paE_2
          have bx15_paE_3 : w15.cell? ⟨w.heap.size, 3, none⟩ = some (.int .i64 vE.fType) := (hst15.cell (p := ⟨w.heap.size, 3, none⟩) sz14_paE).trans bx14_paE_3
          have bx15_paE_4 : w15.cell? ⟨w.heap.size, 4, none⟩ = some (.string vE.fSymbol) := (hst15.cell (p := ⟨w.heap.size, 4, none⟩) sz14_paE).trans bx14_paE_4
          have bx15_paE_5 : w15.cell? ⟨w.heap.size, 5, none⟩ = some (.string vE.fName) := (hst15.cell (p := ⟨w.heap.size, 5, none⟩) sz14_paE).trans bx14_paE_5
          have bx15_paE_6 : w15.cell? ⟨w.heap.size, 6, none⟩ = some (.slice a6_vE vE.fArgs.length c6_vE) := (hst15.cell (p := ⟨w.heap.size, 6, none⟩) sz14_paE).trans bx14_paE_6
          have sz15_x0 : w7.heap.size < w15.heap.size := Nat.lt_of_lt_of_le sz14_x0 hst15.size
          have bx15_x0_0 : w15.cell? ⟨w7.heap.size, 0, none⟩ = some (.int .i64 vE.fKind) := (hst15.cell (p := ⟨w7.heap.size, 0, none⟩) sz14_x0).trans bx14_x0_0
          have bx15_x0_1 : w15.cell? ⟨w7.heap.size, 1, none⟩ = some (.int .i64 vE.fN) := (hst15.cell (p := ⟨w7.heap.size, 1, none⟩) sz14_x0).trans bx14_x0_1
          have bx15_x0_2 : w15.cell? ⟨w7.heap.size, 2, none⟩ = some (.int .i64 vE.fPos) := (hst15.cell (p := ⟨w7.heap.size, 2, none⟩) sz14_x0).trans bx14_x0_2
          have bx15_x0_3 : w15.cell? ⟨w7.heap.size, 3, none⟩ = some (.int .i64 vE.fType) := (hst15.cell (p := ⟨w7.heap.size, 3, none⟩) sz14_x0).trans bx14_x0_3
          have bx15_x0_4 : w15.cell? ⟨w7.heap.size, 4, none⟩ = some (.string vE.fSymbol) := (hst15.cell (p := ⟨w7.heap.size, 4, none⟩) sz14_x0).trans bx14_x0_4
          have bx15_x0_5 : w15.cell? ⟨w7.heap.size, 5, none⟩ = some (.string vE.fName) := (hst15.cell (p := ⟨w7.heap.size, 5, none⟩) sz14_x0).trans bx14_x0_5
          have bx15_x0_6 : w15.cell? ⟨w7.heap.size, 6, none⟩ = some (.slice a6_vE_7 vE.fArgs.length c6_vE_7) := (hst15.cell (p := ⟨w7.heap.size, 6, none⟩) sz14_x0).trans bx14_x0_6
          have HS15_6_vE := Lib.hid (HS14_6_vE.out.up hst15 (Nat.le_refl _))
          have HS15_vSlots := Lib.hid (HS14_vSlots.out.up hst15 (Nat.le_refl _))
          have HS15_vIds := Lib.hid (HS14_vIds.out.up hst15 (Nat.le_refl _))
          have HS15_F6_vE_3 := Lib.hid (HS14_F6_vE_3.out.up hst15 (Nat.le_refl _))
          have HS15_6_vE_3 := Lib.hid (HS14_6_vE_3.out.up hst15 (Nat.le_refl _))
          have HS15_FvSlots_4 := Lib.hid (HS14_FvSlots_4.out.up hst15 (Nat.le_refl _))
          have HS15_vSlots_4 := Lib.hid (HS14_vSlots_4.out.up hst15 (Nat.le_refl _))
          have HS15_FvIds_5 := Lib.hid (HS14_FvIds_5.out.up hst15 (Nat.le_refl _))
          have HS15_vIds_5 := Lib.hid (HS14_vIds_5.out.up hst15 (Nat.le_refl _))
          have HS15_F6_vE_7 := Lib.hid (HS14_F6_vE_7.out.up hst15 (Nat.le_refl _))
          have HS15_6_vE_7 := Lib.hid (HS14_6_vE_7.out.up hst15 (Nat.le_refl _))
          have HS15_FvSlots_8 := Lib.hid (HS14_FvSlots_8.out.up hst15 (Nat.le_refl _))
          have HS15_vSlots_8 := Lib.hid (HS14_vSlots_8.out.up hst15 (Nat.le_refl _))
          have HS15_FvIds_9 := Lib.hid (HS14_FvIds_9.out.up hst15 (Nat.le_refl _))
          have HS15_vIds_9 := Lib.hid (HS14_vIds_9.out.up hst15 (Nat.le_refl _))
          have HS15_F6_vE_11 := Lib.hid (HS14_F6_vE_11.out.up hst15 (Nat.le_refl _))
          have HS15_6_vE_11 := Lib.hid (HS14_6_vE_11.out.up hst15 (Nat.le_refl _))
          have HS15_FvSlots_13 := Lib.hid (HS14_FvSlots_13.out.up hst15 (Nat.le_refl _))
          have HS15_vSlots_13 := Lib.hid (HS14_vSlots_13.out.up hst15 (Nat.le_refl _))
          have HS15_FvIds_15 := Lib.hid (show Sf 0 w15.heap.size w15 1 vIds.length (fun k => ictI (vIds.getD k default)) a_vIds_15 from Sf.of (ho15.soft (lo := 0) (hi := w15.heap.size) (fun y hy => ⟨Nat.zero_le _, hy.2⟩)))
          have HS15_vIds_15 := Lib.hid (show Sl 0 w15.heap.size w15 1 vIds.length (fun k => ictI (vIds.getD k default)) a_vIds_15 from Sl.of (ho15.lies (lo := 0) (hi := w15.heap.size) (fun y hy => ⟨Nat.zero_le _, hy.2⟩)))
          have HB15 := Lib.hid (HB14.out.trans (hst15.mono HB14.out.size))
          clear bx14_paE_0 bx14_paE_1 bx14_paE_2 bx14_paE_3 bx14_paE_4 bx14_paE_5 bx14_paE_6 sz14_paE bx14_x0_0 bx14_x0_1 bx14_x0_2 bx14_x0_3 bx14_x0_4 bx14_x0_5 bx14_x0_6 sz14_x0 HS14_6_vE HS14_vSlots HS14_vIds HS14_F6_vE_3 HS14_6_vE_3 HS14_FvSlots_4 HS14_vSlots_4 HS14_FvIds_5 HS14_vIds_5 HS14_F6_vE_7 HS14_6_vE_7 HS14_FvSlots_8 HS14_vSlots_8 HS14_FvIds_9 HS14_vIds_9 HS14_F6_vE_11 HS14_6_vE_11 HS14_FvSlots_13 HS14_vSlots_13 ho15 hb15 hst15 HB14
          go_wp2_with fail
          refine (laws_eqIntS (cap := c_vIds_9) (cap2 := c_vIds_15) vIds hq_vIds _ (Below.size (by repeat (first | (with_reducible exact Below.refl _ _) | (with_reducible apply Below.drew) | (with_reducible refine below_drewN ?_ _) | (refine Below.setCell ?_ (by simp <;> omega) _) | (refine Below.alloc ?_ (by simp <;> omega) _)) : Below w15.heap.size w15 _)) (Below.size (by repeat (first | (with_reducible exact Below.refl _ _) | (with_reducible apply Below.drew) | (with_reducible refine below_drewN ?_ _) | (refine Below.setCell ?_ (by simp <;> omega) _) | (refine Below.alloc ?_ (by simp <;> omega) _)) : Below w15.heap.size w15 _)) (HS15_vIds_9.out.later (by repeat (first | (with_reducible exact Below.refl _ _) | (with_reducible apply Below.drew) | (with_reducible refine below_drewN ?_ _) | (refine Below.setCell ?_ (by simp <;> omega) _) | (refine Below.alloc ?_ (by simp <;> omega) _)) : Below w15.heap.size w15 _) (Nat.le_refl _)) (HS15_vIds_15.out.later (by repeat (first | (with_reducible exact Below.refl _ _) | (with_reducible apply Below.drew) | (with_reducible refine below_drewN ?_ _) | (refine Below.setCell ?_ (by simp <;> omega) _) | (refine Below.alloc ?_ (by simp <;> omega) _)) : Below w15.heap.size w15 _) (Nat.le_refl _))).mono ?_
          rintro e w16 ⟨rfl, hb16⟩
          have hst16 : Below w15.heap.size w15 w16 := Below.trans (by repeat (first | (with_reducible exact Below.refl _ _) | (with_reducible apply Below.drew) | (with_reducible refine below_drewN ?_ _) | (refine Below.setCell ?_ (by simp <;> omega) _) | (refine Below.alloc ?_ (by simp <;> omega) _)) : Below w15.heap.size w15 _) (hb16.mono (Below.size (by repeat (first | (with_reducible exact Below.refl _ _) | (with_reducible apply Below.drew) | (with_reducible refine below_drewN ?_ _) | (refine Below.setCell ?_ (by simp <;> omega) _) | (refine Below.alloc ?_ (by simp <;> omega) _)) : Below w15.heap.size w15 _)))
          have sz16_paE : w.heap.size < w16.heap.size := Nat.lt_of_lt_of_le sz15_paE hst16.size
          have bx16_paE_0 : w16.cell? ⟨w.heap.size, 0, none⟩ = some (.int .i64 vE.fKind) := (hst16.cell (p := ⟨w.heap.size, 0, none⟩) sz15_paE).trans bx15_paE_0
          have bx16_paE_1 : w16.cell? ⟨w.heap.size, 1, none⟩ = some (.int .i64 vE.fN) := (hst16.cell (p := ⟨w.heap.size, 1, none⟩) sz15_paE).trans bx15_paE_1
          have bx16_paE_2 : w16.cell? ⟨w.heap.size, 2, none⟩ = some (.int .i64 vE.fPos) := (hst16.cell (p := ⟨w.heap.size, 2, none⟩) sz15_paE).trans bx15_paE_2
          have bx16_paE_3 : w16.cell? ⟨w.heap.size, 3, none⟩ = some (.int .i64 vE.fType) := (hst16.cell (p := ⟨w.heap.size, 3, none⟩) sz15_paE).trans bx15_paE_3
          have bx16_paE_4 : w16.cell? ⟨w.heap.size, 4, none⟩ = some (.string vE.fSymbol) := (hst16.cell (p := ⟨w.heap.size, 4, none⟩) sz15_paE).trans bx15_paE_4
          have bx16_paE_5 : w16.cell? ⟨w.heap.size, 5, none⟩ = some (.string vE.fName) := (hst16.cell (p := ⟨w.heap.size, 5, none⟩) sz15_paE).trans bx15_paE_5
          have bx16_paE_6 : w16.cell? ⟨w.heap.size, 6, none⟩ = some (.slice a6_vE vE.fArgs.length c6_vE) := (hst16.cell (p := ⟨w.heap.size, 6, none⟩) sz15_paE).trans bx15_paE_6
          have sz16_x0 : w7.heap.size < w16.heap.size := Nat.lt_of_lt_of_le sz15_x0 hst16.size
          have bx16_x0_0 : w16.cell? ⟨w7.heap.size, 0, none⟩ = some (.int .i64 vE.fKind) := (hst16.cell (p := ⟨w7.heap.size, 0, none⟩) sz15_x0).trans bx15_x0_0
          have bx16_x0_1 : w16.cell? ⟨w7.heap.size, 1, none⟩ = some (.int .i64 vE.fN) := (hst16.cell (p := ⟨w7.heap.size, 1, none⟩) sz15_x0).trans bx15_x0_1
          have bx16_x0_2 : w16.cell? ⟨w7.heap.size, 2, none⟩ = some (.int .i64 vE.fPos) := (hst16.cell (p := ⟨w7.heap.size, 2, none⟩) sz15_x0).trans bx15_x0_2
          have bx16_x0_3 : w16.cell? ⟨w7.heap.size, 3, none⟩ = some (.int .i64 vE.fType) := (hst16.cell (p := ⟨w7.heap.size, 3, none⟩) sz15_x0).trans bx15_x0_3
          have bx16_x0_4 : w16.cell? ⟨w7.heap.size, 4, none⟩ = some (.string vE.fSymbol) := (hst16.cell (p := ⟨w7.heap.size, 4, none⟩) sz15_x0).trans bx15_x0_4
          have bx16_x0_5 : w16.cell? ⟨w7.heap.size, 5, none⟩ = some (.string vE.fName) := (hst16.cell (p := ⟨w7.heap.size, 5, none⟩) sz15_x0).trans bx15_x0_5
          have bx16_x0_6 : w16.cell? ⟨w7.heap.size, 6, none⟩ = some (.slice a6_vE_7 vE.fArgs.length c6_vE_7) := (hst16.cell (p := ⟨w7.heap.size, 6, none⟩) sz15_x0).trans bx15_x0_6
          have HS16_6_vE := Lib.hid (HS15_6_vE.out.up hst16 (Nat.le_refl _))
          have HS16_vSlots := Lib.hid (HS15_vSlots.out.up hst16 (Nat.le_refl _))
          have HS16_vIds := Lib.hid (HS15_vIds.out.up hst16 (Nat.le_refl _))
          have HS16_F6_vE_3 := Lib.hid (HS15_F6_vE_3.out.up hst16 (Nat.le_refl _))
          have HS16_6_vE_3 := Lib.hid (HS15_6_vE_3.out.up hst16 (Nat.le_refl _))
          have HS16_FvSlots_4 := Lib.hid (HS15_FvSlots_4.out.up hst16 (Nat.le_refl _))
          have HS16_vSlots_4 := Lib.hid (HS15_vSlots_4.out.up hst16 (Nat.le_refl _))
          have HS16_FvIds_5 := Lib.hid (HS15_FvIds_5.out.up hst16 (Nat.le_refl _))
          have HS16_vIds_5 := Lib.hid (HS15_vIds_5.out.up hst16 (Nat.le_refl _))
          have HS16_F6_vE_7 := Lib.hid (HS15_F6_vE_7.out.up hst16 (Nat.le_refl _))
          have HS16_6_vE_7 := Lib.hid (HS15_6_vE_7.out.up hst16 (Nat.le_refl _))
          have HS16_FvSlots_8 := Lib.hid (HS15_FvSlots_8.out.up hst16 (Nat.le_refl _))
          have HS16_vSlots_8 := Lib.hid (HS15_vSlots_8.out.up hst16 (Nat.le_refl _))
          have HS16_FvIds_9 := Lib.hid (HS15_FvIds_9.out.up hst16 (Nat.le_refl _))
          have HS16_vIds_9 := Lib.hid (HS15_vIds_9.out.up hst16 (Nat.le_refl _))
          have HS16_F6_vE_11 := Lib.hid (HS15_F6_vE_11.out.up hst16 (Nat.le_refl _))
          have HS16_6_vE_11 := Lib.hid (HS15_6_vE_11.out.up hst16 (Nat.le_refl _))
          have HS16_FvSlots_13 := Lib.hid (HS15_FvSlots_13.out.up hst16 (Nat.le_refl _))
          have HS16_vSlots_13 := Lib.hid (HS15_vSlots_13.out.up hst16 (Nat.le_refl _))
          have HS16_FvIds_15 := Lib.hid (HS15_FvIds_15.out.up hst16 (Nat.le_refl _))
          have HS16_vIds_15 := Lib.hid (HS15_vIds_15.out.up hst16 (Nat.le_refl _))
          have HB16 := Lib.hid (HB15.out.trans (hst16.mono HB15.out.size))
          clear bx15_paE_0 bx15_paE_1 bx15_paE_2 bx15_paE_3 bx15_paE_4 bx15_paE_5 bx15_paE_6 sz15_paE bx15_x0_0 bx15_x0_1 bx15_x0_2 bx15_x0_3 bx15_x0_4 bx15_x0_5 bx15_x0_6 sz15_x0 HS15_6_vE HS15_vSlots HS15_vIds HS15_F6_vE_3 HS15_6_vE_3 HS15_FvSlots_4 HS15_vSlots_4 HS15_FvIds_5 HS15_vIds_5 HS15_F6_vE_7 HS15_6_vE_7 HS15_FvSlots_8 HS15_vSlots_8 HS15_FvIds_9 HS15_vIds_9 HS15_F6_vE_11 HS15_6_vE_11 HS15_FvSlots_13 HS15_vSlots_13 HS15_FvIds_15 HS15_vIds_15 hb16 hst16 HB15
          go_wp2
          go_ret
          exact ⟨rfl, HB16.out⟩

set_option maxRecDepth 100000 in
theorem lifted (os : Os) (started : os.Started) (H : Type) (enc : TypeId × Value → H) :
    ReturnsInHanded {} Try.checked os 3 .any (Rows.fnExactEvalLocalSpec.pre6 enc Try.prog Try.f3 Rows.fnExactEvalLocalRow.domain false) (Rows.fnExactEvalLocalSpec.post enc Try.prog Try.f3 false true false false) := by
  refine returnsInHanded_of_change_sized (C := Try.checked) own started (by kernel_rfl) Try.func3
    (ChangeSpec.witness6 (enc := enc) (C := Try.checked) false ⟨#[], #[.agg #[.int .i64 0, .int .i64 0, .int .i64 0, .int .i64 0, .string ⟨#[]⟩, .string ⟨#[]⟩, .slice none 0 0], .slice none 0 0, .int .i64 0, .slice none 0 0], []⟩ 8 (by kernel_rfl) (by kernel_rfl) (by kernel_rfl) (by kernel_rfl)) ?_
  intro W base args ds gs before hval0 hW _ hsz0 _
  have hval : ∀ (j : Nat) t v, Try.f3.params[j]? = some t → args[j]? = some v → Value.okWide Try.prog W .any base t v := hval0
  obtain ⟨p, q, hA0, hV, hps, hfz, hnd⟩ := id hW
  have hA : DataW.TrodAll enc Try.prog W 0 (fun _ => true) true Try.f3.params.toList args.toList ds p := hA0
  have hsz : (DataW.weightsEach Try.prog (Try.f3.params.toList ++ Rows.fnExactEvalLocalSpec.plain.varTypes Try.prog) (ds ++ gs)).all (· ≤ reachBytes) = true := hsz0
  rw [Try.params3] at hA hval hsz
  obtain ⟨v0, vs0, d0, ds0, p0, q0, hargs, rfl, rfl, h0, r0⟩ := trodAll_cons hA
  obtain ⟨v1, vs1, d1, ds1, p1, q1, rfl, rfl, rfl, h1, r1⟩ := trodAll_cons r0
  obtain ⟨v2, vs2, d2, ds2, p2, q2, rfl, rfl, rfl, h2, r2⟩ := trodAll_cons r1
  obtain ⟨v3, vs3, d3, ds3, p3, q3, rfl, rfl, rfl, h3, r3⟩ := trodAll_cons r2
  obtain ⟨rfl, rfl, rfl⟩ := trodAll_nil r3
  obtain rfl : args = #[v0, v1, v2, v3] := by cases args; simp_all
  obtain ⟨vE, a6_vE, c6_vE, rfl, ok_vE, hs_6_vE⟩ := arg_expr (hval 0 24 v0 rfl rfl) h0
  obtain ⟨ax1, lx1, cx1, hx1⟩ := okWide_slice Try.underlying25 (hval 1 25 v1 rfl rfl)
  obtain ⟨vSlots, a_vSlots, c_vSlots, rfl, ok_vSlots, hs_vSlots⟩ := arg_slotS hx1 h1
  obtain ⟨vLiteral, rfl, rfl, rfl, w2⟩ := open_int Try.underlying3 (hval 2 3 v2 rfl rfl) h2
  have ok_vLiteral := bounds_i64 w2
  obtain ⟨ax3, lx3, cx3, hx3⟩ := okWide_slice Try.underlying26 (hval 3 26 v3 rfl rfl)
  obtain ⟨vIds, a_vIds, c_vIds, rfl, ok_vIds, hs_vIds⟩ := arg_intS hx3 h3
  refine (walk vE a6_vE c6_vE ok_vE vSlots a_vSlots c_vSlots ok_vSlots vLiteral ok_vLiteral vIds a_vIds c_vIds ok_vIds W hs_6_vE hs_vSlots hs_vIds).mono fun e W' ⟨he, hg⟩ => ?_
  subst he
  exact ⟨_, rfl, law_post laidOut (by kernel_rfl) rfl Try.underlying4 rfl rfl hW hg⟩

theorem said : Rows.FnExactEvalLocalSaid :=
  OpenClaim.holds_of_wide 3 Try.f3 rfl rfl rfl rfl rfl rfl rfl ⟨rfl, rfl, rfl, rfl, rfl⟩ rfl rfl rfl rfl rfl (by kernel_rfl) Try.func3 (by kernel_rfl)
    (of_decide_eq_true (by kernel_rfl)) (by unfold Func.isWrapper; first | (rw [if_pos (by decide +kernel)]; kernel_rfl) | (rw [if_neg (by decide +kernel)]; exact ⟨rfl, rfl⟩))
    (fun os started H enc _ => lifted os started H enc)
#print axioms said
end Go.Proofs.Ythpnghbhfbiljaa.fnExactEvalLocal
