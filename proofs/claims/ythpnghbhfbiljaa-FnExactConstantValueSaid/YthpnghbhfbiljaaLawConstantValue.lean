/-
  The law FnExactConstantValue: for every expression the program's ConstantValue answers as the model's. No condition.
-/
import Derived.Test.YthpnghbhfbiljaaConst
import Derived.SizedLaws
namespace Go.Proofs.Ythpnghbhfbiljaa.fnExactConstantValue
open Go.ChangeShapes Go.WideShapes Go.ChangeAt Go.RowKit Go.WideMaps Go.WideElems
open Go.ChangeMaps (open_string)
open Go.Lib Go.Deep

set_option maxHeartbeats 1600000 in
set_option maxRecDepth 100000 in
theorem walk (vE : DExpr) (a6_vE : Option Addr) (c6_vE : Nat) (ok_vE : DExpr.ok vE) (w : World) (hs_6_vE : Sl 0 w.heap.size w 7 vE.fArgs.length (ctE vE.fArgs) a6_vE) :
    Calls Try.prog 4 #[.agg #[.int .i64 vE.fKind, .int .i64 vE.fN, .int .i64 vE.fPos, .int .i64 vE.fType, .string vE.fSymbol, .string vE.fName, .slice a6_vE vE.fArgs.length c6_vE]] w fun e w' => e = .returned (.bool true) ∧ Below w.heap.size w w' := by
  have HS_6_vE := Lib.hid hs_6_vE
  clear hs_6_vE
  have OK_vE := Lib.hid ok_vE
  clear ok_vE
  by_cases h0 : 1048576 < ((DExpr.sz vE : Nat) : Int)
  · skip
    have hz := fun (hi : Nat) (w' : World) (hhi : hi ≤ w'.heap.size) (hs_6_vE : Sl 0 hi w' 7 vE.fArgs.length (ctE vE.fArgs) a6_vE) => laws_szExpr (c6 := c6_vE) vE 1048576 (by omega) (by omega) OK_vE.out w' hhi hs_6_vE
    rw [szR_gt (by omega)] at hz
    have HZ_vE := Lib.hid hz
    clear hz
    go_enter Try.func4, Try.ntmps4
    go_wp2_with fail
    refine (HZ_vE.out w.heap.size _ (Below.size (by repeat (first | (with_reducible exact Below.refl _ _) | (with_reducible apply Below.drew) | (with_reducible refine below_drewN ?_ _) | (refine Below.setCell ?_ (by simp <;> omega) _) | (refine Below.alloc ?_ (by simp <;> omega) _)) : Below w.heap.size w _)) (HS_6_vE.out.later (by repeat (first | (with_reducible exact Below.refl _ _) | (with_reducible apply Below.drew) | (with_reducible refine below_drewN ?_ _) | (refine Below.setCell ?_ (by simp <;> omega) _) | (refine Below.alloc ?_ (by simp <;> omega) _)) : Below w.heap.size w _) (Nat.le_refl _))).mono ?_
    rintro e w1 ⟨rfl, hb1⟩
    have hst1 : Below w.heap.size w w1 := Below.trans (by repeat (first | (with_reducible exact Below.refl _ _) | (with_reducible apply Below.drew) | (with_reducible refine below_drewN ?_ _) | (refine Below.setCell ?_ (by simp <;> omega) _) | (refine Below.alloc ?_ (by simp <;> omega) _)) : Below w.heap.size w _) (hb1.mono (Below.size (by repeat (first | (with_reducible exact Below.refl _ _) | (with_reducible apply Below.drew) | (with_reducible refine below_drewN ?_ _) | (refine Below.setCell ?_ (by simp <;> omega) _) | (refine Below.alloc ?_ (by simp <;> omega) _)) : Below w.heap.size w _)))
    have sz1_paE : w.heap.size < w1.heap.size := Nat.lt_of_lt_of_le (by first | omega | (simp; done) | (simp; omega) | (simp [World.setCell]; omega)) hb1.size
    have bx1_paE_0 : w1.cell? ⟨w.heap.size, 0, none⟩ = some (.int .i64 vE.fKind) := (hb1.cell (p := ⟨w.heap.size, 0, none⟩) (by first | omega | (simp; done) | (simp; omega) | (simp [World.setCell]; omega))).trans (by go_simp)
    have bx1_paE_1 : w1.cell? ⟨w.heap.size, 1, none⟩ = some (.int .i64 vE.fN) := (hb1.cell (p := ⟨w.heap.size, 1, none⟩) (by first | omega | (simp; done) | (simp; omega) | (simp [World.setCell]; omega))).trans (by go_simp)
    have bx1_paE_2 : w1.cell? ⟨w.heap.size, 2, none⟩ = some (.int .i64 vE.fPos) := (hb1.cell (p := ⟨w.heap.size, 2, none⟩) (by first | omega | (simp; done) | (simp; omega) | (simp [World.setCell]; omega))).trans (by go_simp)
    have bx1_paE_3 : w1.cell? ⟨w.heap.size, 3, none⟩ = some (.int .i64 vE.fType) := (hb1.cell (p := ⟨w.heap.size, 3, none⟩) (by first | omega | (simp; done) | (simp; omega) | (simp [World.setCell]; omega))).trans (by go_simp)
    have bx1_paE_4 : w1.cell? ⟨w.heap.size, 4, none⟩ = some (.string vE.fSymbol) := (hb1.cell (p := ⟨w.heap.size, 4, none⟩) (by first | omega | (simp; done) | (simp; omega) | (simp [World.setCell]; omega))).trans (by go_simp)
    have bx1_paE_5 : w1.cell? ⟨w.heap.size, 5, none⟩ = some (.string vE.fName) := (hb1.cell (p := ⟨w.heap.size, 5, none⟩) (by first | omega | (simp; done) | (simp; omega) | (simp [World.setCell]; omega))).trans (by go_simp)
    have bx1_paE_6 : w1.cell? ⟨w.heap.size, 6, none⟩ = some (.slice a6_vE vE.fArgs.length c6_vE) := (hb1.cell (p := ⟨w.heap.size, 6, none⟩) (by first | omega | (simp; done) | (simp; omega) | (simp [World.setCell]; omega))).trans (by go_simp)
    have HS1_6_vE := Lib.hid (HS_6_vE.out.up hst1 (Nat.le_refl _))
    have HB1 := Lib.hid ((Below.refl w.heap.size w).trans (hst1.mono (Below.refl w.heap.size w).size))
    clear hb1 hst1
    go_wp2
    go_ret
    exact ⟨rfl, HB1.out⟩
  · skip
    have hz := fun (hi : Nat) (w' : World) (hhi : hi ≤ w'.heap.size) (hs_6_vE : Sl 0 hi w' 7 vE.fArgs.length (ctE vE.fArgs) a6_vE) => laws_szExpr (c6 := c6_vE) vE 1048576 (by omega) (by omega) OK_vE.out w' hhi hs_6_vE
    rw [szR_le (by omega)] at hz
    have HZ_vE := Lib.hid hz
    clear hz
    have hq_vE : DExpr.sz vE ≤ 1048576 := by omega
    go_enter Try.func4, Try.ntmps4
    go_wp2_with fail
    refine (HZ_vE.out w.heap.size _ (Below.size (by repeat (first | (with_reducible exact Below.refl _ _) | (with_reducible apply Below.drew) | (with_reducible refine below_drewN ?_ _) | (refine Below.setCell ?_ (by simp <;> omega) _) | (refine Below.alloc ?_ (by simp <;> omega) _)) : Below w.heap.size w _)) (HS_6_vE.out.later (by repeat (first | (with_reducible exact Below.refl _ _) | (with_reducible apply Below.drew) | (with_reducible refine below_drewN ?_ _) | (refine Below.setCell ?_ (by simp <;> omega) _) | (refine Below.alloc ?_ (by simp <;> omega) _)) : Below w.heap.size w _) (Nat.le_refl _))).mono ?_
    rintro e w1 ⟨rfl, hb1⟩
    have hst1 : Below w.heap.size w w1 := Below.trans (by repeat (first | (with_reducible exact Below.refl _ _) | (with_reducible apply Below.drew) | (with_reducible refine below_drewN ?_ _) | (refine Below.setCell ?_ (by simp <;> omega) _) | (refine Below.alloc ?_ (by simp <;> omega) _)) : Below w.heap.size w _) (hb1.mono (Below.size (by repeat (first | (with_reducible exact Below.refl _ _) | (with_reducible apply Below.drew) | (with_reducible refine below_drewN ?_ _) | (refine Below.setCell ?_ (by simp <;> omega) _) | (refine Below.alloc ?_ (by simp <;> omega) _)) : Below w.heap.size w _)))
    have sz1_paE : w.heap.size < w1.heap.size := Nat.lt_of_lt_of_le (by first | omega | (simp; done) | (simp; omega) | (simp [World.setCell]; omega)) hb1.size
    have bx1_paE_0 : w1.cell? ⟨w.heap.size, 0, none⟩ = some (.int .i64 vE.fKind) := (hb1.cell (p := ⟨w.heap.size, 0, none⟩) (by first | omega | (simp; done) | (simp; omega) | (simp [World.setCell]; omega))).trans (by go_simp)
    have bx1_paE_1 : w1.cell? ⟨w.heap.size, 1, none⟩ = some (.int .i64 vE.fN) := (hb1.cell (p := ⟨w.heap.size, 1, none⟩) (by first | omega | (simp; done) | (simp; omega) | (simp [World.setCell]; omega))).trans (by go_simp)
    have bx1_paE_2 : w1.cell? ⟨w.heap.size, 2, none⟩ = some (.int .i64 vE.fPos) := (hb1.cell (p := ⟨w.heap.size, 2, none⟩) (by first | omega | (simp; done) | (simp; omega) | (simp [World.setCell]; omega))).trans (by go_simp)
    have bx1_paE_3 : w1.cell? ⟨w.heap.size, 3, none⟩ = some (.int .i64 vE.fType) := (hb1.cell (p := ⟨w.heap.size, 3, none⟩) (by first | omega | (simp; done) | (simp; omega) | (simp [World.setCell]; omega))).trans (by go_simp)
    have bx1_paE_4 : w1.cell? ⟨w.heap.size, 4, none⟩ = some (.string vE.fSymbol) := (hb1.cell (p := ⟨w.heap.size, 4, none⟩) (by first | omega | (simp; done) | (simp; omega) | (simp [World.setCell]; omega))).trans (by go_simp)
    have bx1_paE_5 : w1.cell? ⟨w.heap.size, 5, none⟩ = some (.string vE.fName) := (hb1.cell (p := ⟨w.heap.size, 5, none⟩) (by first | omega | (simp; done) | (simp; omega) | (simp [World.setCell]; omega))).trans (by go_simp)
    have bx1_paE_6 : w1.cell? ⟨w.heap.size, 6, none⟩ = some (.slice a6_vE vE.fArgs.length c6_vE) := (hb1.cell (p := ⟨w.heap.size, 6, none⟩) (by first | omega | (simp; done) | (simp; omega) | (simp [World.setCell]; omega))).trans (by go_simp)
    have HS1_6_vE := Lib.hid (HS_6_vE.out.up hst1 (Nat.le_refl _))
    have HB1 := Lib.hid ((Below.refl w.heap.size w).trans (hst1.mono (Below.refl w.heap.size w).size))
    clear hb1 hst1
    go_wp2_with fail
    refine (laws_toExpr (c6 := c6_vE) vE hq_vE _ (Below.size (by repeat (first | (with_reducible exact Below.refl _ _) | (with_reducible apply Below.drew) | (with_reducible refine below_drewN ?_ _) | (refine Below.setCell ?_ (by simp <;> omega) _) | (refine Below.alloc ?_ (by simp <;> omega) _)) : Below w1.heap.size w1 _)) (HS1_6_vE.out.later (by repeat (first | (with_reducible exact Below.refl _ _) | (with_reducible apply Below.drew) | (with_reducible refine below_drewN ?_ _) | (refine Below.setCell ?_ (by simp <;> omega) _) | (refine Below.alloc ?_ (by simp <;> omega) _)) : Below w1.heap.size w1 _) (Nat.le_refl _))).mono ?_
    rintro e w2 ⟨a6_vE_2, c6_vE_2, rfl, ho2, hb2⟩
    have hst2 : Below w1.heap.size w1 w2 := Below.trans (by repeat (first | (with_reducible exact Below.refl _ _) | (with_reducible apply Below.drew) | (with_reducible refine below_drewN ?_ _) | (refine Below.setCell ?_ (by simp <;> omega) _) | (refine Below.alloc ?_ (by simp <;> omega) _)) : Below w1.heap.size w1 _) (hb2.mono (Below.size (by repeat (first | (with_reducible exact Below.refl _ _) | (with_reducible apply Below.drew) | (with_reducible refine below_drewN ?_ _) | (refine Below.setCell ?_ (by simp <;> omega) _) | (refine Below.alloc ?_ (by simp <;> omega) _)) : Below w1.heap.size w1 _)))
    have sz2_paE : w.heap.size < w2.heap.size := Nat.lt_of_lt_of_le sz1_paE hst2.size
    have bx2_paE_0 : w2.cell? ⟨w.heap.size, 0, none⟩ = some (.int .i64 vE.fKind) := (hst2.cell (p := ⟨w.heap.size, 0, none⟩) sz1_paE).trans bx1_paE_0
    have bx2_paE_1 : w2.cell? ⟨w.heap.size, 1, none⟩ = some (.int .i64 vE.fN) := (hst2.cell (p := ⟨w.heap.size, 1, none⟩) sz1_paE).trans bx1_paE_1
    have bx2_paE_2 : w2.cell? ⟨w.heap.size, 2, none⟩ = some (.int .i64 vE.fPos) := (hst2.cell (p := ⟨w.heap.size, 2, none⟩) sz1_paE).trans bx1_paE_2
    have bx2_paE_3 : w2.cell? ⟨w.heap.size, 3, none⟩ = some (.int .i64 vE.fType) := (hst2.cell (p := ⟨w.heap.size, 3, none⟩) sz1_paE).trans bx1_paE_3
    have bx2_paE_4 : w2.cell? ⟨w.heap.size, 4, none⟩ = some (.string vE.fSymbol) := (hst2.cell (p := ⟨w.heap.size, 4, none⟩) sz1_paE).trans bx1_paE_4
    have bx2_paE_5 : w2.cell? ⟨w.heap.size, 5, none⟩ = some (.string vE.fName) := (hst2.cell (p := ⟨w.heap.size, 5, none⟩) sz1_paE).trans bx1_paE_5
    have bx2_paE_6 : w2.cell? ⟨w.heap.size, 6, none⟩ = some (.slice a6_vE vE.fArgs.length c6_vE) := (hst2.cell (p := ⟨w.heap.size, 6, none⟩) sz1_paE).trans bx1_paE_6
    have HS2_6_vE := Lib.hid (HS1_6_vE.out.up hst2 (Nat.le_refl _))
    have HS2_F6_vE_2 := Lib.hid (show Sf 0 w2.heap.size w2 7 vE.fArgs.length (ctE vE.fArgs) a6_vE_2 from Sf.of (cap := c6_vE_2) (l := vE.fArgs.length) (a := a6_vE_2) (ho2.soft (lo := 0) (hi := w2.heap.size) (fun y hy => ⟨Nat.zero_le _, hy.2⟩) 6 (by decide)))
    have HS2_6_vE_2 := Lib.hid (show Sl 0 w2.heap.size w2 7 vE.fArgs.length (ctE vE.fArgs) a6_vE_2 from Sl.of (cap := c6_vE_2) (l := vE.fArgs.length) (a := a6_vE_2) (ho2.lies (lo := 0) (hi := w2.heap.size) (fun y hy => ⟨Nat.zero_le _, hy.2⟩) 6 (by decide)))
    have HB2 := Lib.hid (HB1.out.trans (hst2.mono HB1.out.size))
    clear bx1_paE_0 bx1_paE_1 bx1_paE_2 bx1_paE_3 bx1_paE_4 bx1_paE_5 bx1_paE_6 sz1_paE HS1_6_vE ho2 hb2 hst2 HB1
    go_wp2_with fail
    refine (spec_ConstantValue (c0_0 := c6_vE_2) vE OK_vE.out hq_vE _ (Below.size (by repeat (first | (with_reducible exact Below.refl _ _) | (with_reducible apply Below.drew) | (with_reducible refine below_drewN ?_ _) | (refine Below.setCell ?_ (by simp <;> omega) _) | (refine Below.alloc ?_ (by simp <;> omega) _)) : Below w2.heap.size w2 _)) (HS2_6_vE_2.out.later (by repeat (first | (with_reducible exact Below.refl _ _) | (with_reducible apply Below.drew) | (with_reducible refine below_drewN ?_ _) | (refine Below.setCell ?_ (by simp <;> omega) _) | (refine Below.alloc ?_ (by simp <;> omega) _)) : Below w2.heap.size w2 _) (Nat.le_refl _))).mono ?_
    rintro e w3 ⟨rfl, hb3⟩
    have hst3 : Below w2.heap.size w2 w3 := Below.trans (by repeat (first | (with_reducible exact Below.refl _ _) | (with_reducible apply Below.drew) | (with_reducible refine below_drewN ?_ _) | (refine Below.setCell ?_ (by simp <;> omega) _) | (refine Below.alloc ?_ (by simp <;> omega) _)) : Below w2.heap.size w2 _) (hb3.mono (Below.size (by repeat (first | (with_reducible exact Below.refl _ _) | (with_reducible apply Below.drew) | (with_reducible refine below_drewN ?_ _) | (refine Below.setCell ?_ (by simp <;> omega) _) | (refine Below.alloc ?_ (by simp <;> omega) _)) : Below w2.heap.size w2 _)))
    have sz3_paE : w.heap.size < w3.heap.size := Nat.lt_of_lt_of_le sz2_paE hst3.size
    have bx3_paE_0 : w3.cell? ⟨w.heap.size, 0, none⟩ = some (.int .i64 vE.fKind) := (hst3.cell (p := ⟨w.heap.size, 0, none⟩) sz2_paE).trans bx2_paE_0
    have bx3_paE_1 : w3.cell? ⟨w.heap.size, 1, none⟩ = some (.int .i64 vE.fN) := (hst3.cell (p := ⟨w.heap.size, 1, none⟩) sz2_paE).trans bx2_paE_1
    have bx3_paE_2 : w3.cell? ⟨w.heap.size, 2, none⟩ = some (.int .i64 vE.fPos) := (hst3.cell (p := ⟨w.heap.size, 2, none⟩) sz2_paE).trans bx2_paE_2
    have bx3_paE_3 : w3.cell? ⟨w.heap.size, 3, none⟩ = some (.int .i64 vE.fType) := (hst3.cell (p := ⟨w.heap.size, 3, none⟩) sz2_paE).trans bx2_paE_3
    have bx3_paE_4 : w3.cell? ⟨w.heap.size, 4, none⟩ = some (.string vE.fSymbol) := (hst3.cell (p := ⟨w.heap.size, 4, none⟩) sz2_paE).trans bx2_paE_4
    have bx3_paE_5 : w3.cell? ⟨w.heap.size, 5, none⟩ = some (.string vE.fName) := (hst3.cell (p := ⟨w.heap.size, 5, none⟩) sz2_paE).trans bx2_paE_5
    have bx3_paE_6 : w3.cell? ⟨w.heap.size, 6, none⟩ = some (.slice a6_vE vE.fArgs.length c6_vE) := (hst3.cell (p := ⟨w.heap.size, 6, none⟩) sz2_paE).trans bx2_paE_6
    have HS3_6_vE := Lib.hid (HS2_6_vE.out.up hst3 (Nat.le_refl _))
    have HS3_F6_vE_2 := Lib.hid (HS2_F6_vE_2.out.up hst3 (Nat.le_refl _))
    have HS3_6_vE_2 := Lib.hid (HS2_6_vE_2.out.up hst3 (Nat.le_refl _))
    have HB3 := Lib.hid (HB2.out.trans (hst3.mono HB2.out.size))
    clear bx2_paE_0 bx2_paE_1 bx2_paE_2 bx2_paE_3 bx2_paE_4 bx2_paE_5 bx2_paE_6 sz2_paE HS2_6_vE HS2_F6_vE_2 HS2_6_vE_2 hb3 hst3 HB2
    go_wp2_with fail
    refine (laws_toExpr (c6 := c6_vE) vE hq_vE _ (Below.size (by repeat (first | (with_reducible exact Below.refl _ _) | (with_reducible apply Below.drew) | (with_reducible refine below_drewN ?_ _) | (refine Below.setCell ?_ (by simp <;> omega) _) | (refine Below.alloc ?_ (by simp <;> omega) _)) : Below w3.heap.size w3 _)) (HS3_6_vE.out.later (by repeat (first | (with_reducible exact Below.refl _ _) | (with_reducible apply Below.drew) | (with_reducible refine below_drewN ?_ _) | (refine Below.setCell ?_ (by simp <;> omega) _) | (refine Below.alloc ?_ (by simp <;> omega) _)) : Below w3.heap.size w3 _) (Nat.le_refl _))).mono ?_
    rintro e w4 ⟨a6_vE_4, c6_vE_4, rfl, ho4, hb4⟩
    have hst4 : Below w3.heap.size w3 w4 := Below.trans (by repeat (first | (with_reducible exact Below.refl _ _) | (with_reducible apply Below.drew) | (with_reducible refine below_drewN ?_ _) | (refine Below.setCell ?_ (by simp <;> omega) _) | (refine Below.alloc ?_ (by simp <;> omega) _)) : Below w3.heap.size w3 _) (hb4.mono (Below.size (by repeat (first | (with_reducible exact Below.refl _ _) | (with_reducible apply Below.drew) | (with_reducible refine below_drewN ?_ _) | (refine Below.setCell ?_ (by simp <;> omega) _) | (refine Below.alloc ?_ (by simp <;> omega) _)) : Below w3.heap.size w3 _)))
    have sz4_paE : w.heap.size < w4.heap.size := Nat.lt_of_lt_of_le sz3_paE hst4.size
    have bx4_paE_0 : w4.cell? ⟨w.heap.size, 0, none⟩ = some (.int .i64 vE.fKind) := (hst4.cell (p := ⟨w.heap.size, 0, none⟩) sz3_paE).trans bx3_paE_0
    have bx4_paE_1 : w4.cell? ⟨w.heap.size, 1, none⟩ = some (.int .i64 vE.fN) := (hst4.cell (p := ⟨w.heap.size, 1, none⟩) sz3_paE).trans bx3_paE_1
    have bx4_paE_2 : w4.cell? ⟨w.heap.size, 2, none⟩ = some (.int .i64 vE.fPos) := (hst4.cell (p := ⟨w.heap.size, 2, none⟩) sz3_paE).trans bx3_paE_2
    have bx4_paE_3 : w4.cell? ⟨w.heap.size, 3, none⟩ = some (.int .i64 vE.fType) := (hst4.cell (p := ⟨w.heap.size, 3, none⟩) sz3_paE).trans bx3_paE_3
    have bx4_paE_4 : w4.cell? ⟨w.heap.size, 4, none⟩ = some (.string vE.fSymbol) := (hst4.cell (p := ⟨w.heap.size, 4, none⟩) sz3_paE).trans bx3_paE_4
    have bx4_paE_5 : w4.cell? ⟨w.heap.size, 5, none⟩ = some (.string vE.fName) := (hst4.cell (p := ⟨w.heap.size, 5, none⟩) sz3_paE).trans bx3_paE_5
    have bx4_paE_6 : w4.cell? ⟨w.heap.size, 6, none⟩ = some (.slice a6_vE vE.fArgs.length c6_vE) := (hst4.cell (p := ⟨w.heap.size, 6, none⟩) sz3_paE).trans bx3_paE_6
    have HS4_6_vE := Lib.hid (HS3_6_vE.out.up hst4 (Nat.le_refl _))
    have HS4_F6_vE_2 := Lib.hid (HS3_F6_vE_2.out.up hst4 (Nat.le_refl _))
    have HS4_6_vE_2 := Lib.hid (HS3_6_vE_2.out.up hst4 (Nat.le_refl _))
    have HS4_F6_vE_4 := Lib.hid (show Sf 0 w4.heap.size w4 7 vE.fArgs.length (ctE vE.fArgs) a6_vE_4 from Sf.of (cap := c6_vE_4) (l := vE.fArgs.length) (a := a6_vE_4) (ho4.soft (lo := 0) (hi := w4.heap.size) (fun y hy => ⟨Nat.zero_le _, hy.2⟩) 6 (by decide)))
    have HS4_6_vE_4 := Lib.hid (show Sl 0 w4.heap.size w4 7 vE.fArgs.length (ctE vE.fArgs) a6_vE_4 from Sl.of (cap := c6_vE_4) (l := vE.fArgs.length) (a := a6_vE_4) (ho4.lies (lo := 0) (hi := w4.heap.size) (fun y hy => ⟨Nat.zero_le _, hy.2⟩) 6 (by decide)))
    have HB4 := Lib.hid (HB3.out.trans (hst4.mono HB3.out.size))
    clear bx3_paE_0 bx3_paE_1 bx3_paE_2 bx3_paE_3 bx3_paE_4 bx3_paE_5 bx3_paE_6 sz3_paE HS3_6_vE HS3_F6_vE_2 HS3_6_vE_2 ho4 hb4 hst4 HB3
    go_wp2_with fail
    refine (impl_ConstantValue (c0_0 := c6_vE_4) vE OK_vE.out hq_vE _ (Below.size (by repeat (first | (with_reducible exact Below.refl _ _) | (with_reducible apply Below.drew) | (with_reducible refine below_drewN ?_ _) | (refine Below.setCell ?_ (by simp <;> omega) _) | (refine Below.alloc ?_ (by simp <;> omega) _)) : Below w4.heap.size w4 _)) (HS4_F6_vE_4.out.later (by repeat (first | (with_reducible exact Below.refl _ _) | (with_reducible apply Below.drew) | (with_reducible refine below_drewN ?_ _) | (refine Below.setCell ?_ (by simp <;> omega) _) | (refine Below.alloc ?_ (by simp <;> omega) _)) : Below w4.heap.size w4 _) (Nat.le_refl _))).mono ?_
    rintro e w5 ⟨rfl, hb5⟩
    have hst5 : Below w4.heap.size w4 w5 := Below.trans (by repeat (first | (with_reducible exact Below.refl _ _) | (with_reducible apply Below.drew) | (with_reducible refine below_drewN ?_ _) | (refine Below.setCell ?_ (by simp <;> omega) _) | (refine Below.alloc ?_ (by simp <;> omega) _)) : Below w4.heap.size w4 _) (hb5.mono (Below.size (by repeat (first | (with_reducible exact Below.refl _ _) | (with_reducible apply Below.drew) | (with_reducible refine below_drewN ?_ _) | (refine Below.setCell ?_ (by simp <;> omega) _) | (refine Below.alloc ?_ (by simp <;> omega) _)) : Below w4.heap.size w4 _)))
    have sz5_paE : w.heap.size < w5.heap.size := Nat.lt_of_lt_of_le sz4_paE hst5.size
    have bx5_paE_0 : w5.cell? ⟨w.heap.size, 0, none⟩ = some (.int .i64 vE.fKind) := (hst5.cell (p := ⟨w.heap.size, 0, none⟩) sz4_paE).trans bx4_paE_0
    have bx5_paE_1 : w5.cell? ⟨w.heap.size, 1, none⟩ = some (.int .i64 vE.fN) := (hst5.cell (p := ⟨w.heap.size, 1, none⟩) sz4_paE).trans bx4_paE_1
    have bx5_paE_2 : w5.cell? ⟨w.heap.size, 2, none⟩ = some (.int .i64 vE.fPos) := (hst5.cell (p := ⟨w.heap.size, 2, none⟩) sz4_paE).trans bx4_paE_2
    have bx5_paE_3 : w5.cell? ⟨w.heap.size, 3, none⟩ = some (.int .i64 vE.fType) := (hst5.cell (p := ⟨w.heap.size, 3, none⟩) sz4_paE).trans bx4_paE_3
    have bx5_paE_4 : w5.cell? ⟨w.heap.size, 4, none⟩ = some (.string vE.fSymbol) := (hst5.cell (p := ⟨w.heap.size, 4, none⟩) sz4_paE).trans bx4_paE_4
    have bx5_paE_5 : w5.cell? ⟨w.heap.size, 5, none⟩ = some (.string vE.fName) := (hst5.cell (p := ⟨w.heap.size, 5, none⟩) sz4_paE).trans bx4_paE_5
    have bx5_paE_6 : w5.cell? ⟨w.heap.size, 6, none⟩ = some (.slice a6_vE vE.fArgs.length c6_vE) := (hst5.cell (p := ⟨w.heap.size, 6, none⟩) sz4_paE).trans bx4_paE_6
    have sz5_x0 : w4.heap.size < w5.heap.size := Nat.lt_of_lt_of_le (by first | omega | (simp; done) | (simp; omega) | (simp [World.setCell]; omega)) hb5.size
    have bx5_x0_0 : w5.cell? ⟨w4.heap.size, 0, none⟩ = some (.int .i64 vE.fKind) := (hb5.cell (p := ⟨w4.heap.size, 0, none⟩) (by first | omega | (simp; done) | (simp; omega) | (simp [World.setCell]; omega))).trans (by go_simp)
    have bx5_x0_1 : w5.cell? ⟨w4.heap.size, 1, none⟩ = some (.int .i64 vE.fN) := (hb5.cell (p := ⟨w4.heap.size, 1, none⟩) (by first | omega | (simp; done) | (simp; omega) | (simp [World.setCell]; omega))).trans (by go_simp)
    have bx5_x0_2 : w5.cell? ⟨w4.heap.size, 2, none⟩ = some (.int .i64 vE.fPos) := (hb5.cell (p := ⟨w4.heap.size, 2, none⟩) (by first | omega | (simp; done) | (simp; omega) | (simp [World.setCell]; omega))).trans (by go_simp)
    have bx5_x0_3 : w5.cell? ⟨w4.heap.size, 3, none⟩ = some (.int .i64 vE.fType) := (hb5.cell (p := ⟨w4.heap.size, 3, none⟩) (by first | omega | (simp; done) | (simp; omega) | (simp [World.setCell]; omega))).trans (by go_simp)
    have bx5_x0_4 : w5.cell? ⟨w4.heap.size, 4, none⟩ = some (.string vE.fSymbol) := (hb5.cell (p := ⟨w4.heap.size, 4, none⟩) (by first | omega | (simp; done) | (simp; omega) | (simp [World.setCell]; omega))).trans (by go_simp)
    have bx5_x0_5 : w5.cell? ⟨w4.heap.size, 5, none⟩ = some (.string vE.fName) := (hb5.cell (p := ⟨w4.heap.size, 5, none⟩) (by first | omega | (simp; done) | (simp; omega) | (simp [World.setCell]; omega))).trans (by go_simp)
    have bx5_x0_6 : w5.cell? ⟨w4.heap.size, 6, none⟩ = some (.slice a6_vE_4 vE.fArgs.length c6_vE_4) := (hb5.cell (p := ⟨w4.heap.size, 6, none⟩) (by first | omega | (simp; done) | (simp; omega) | (simp [World.setCell]; omega))).trans (by go_simp)
    have HS5_6_vE := Lib.hid (HS4_6_vE.out.up hst5 (Nat.le_refl _))
    have HS5_F6_vE_2 := Lib.hid (HS4_F6_vE_2.out.up hst5 (Nat.le_refl _))
    have HS5_6_vE_2 := Lib.hid (HS4_6_vE_2.out.up hst5 (Nat.le_refl _))
    have HS5_F6_vE_4 := Lib.hid (HS4_F6_vE_4.out.up hst5 (Nat.le_refl _))
    have HS5_6_vE_4 := Lib.hid (HS4_6_vE_4.out.up hst5 (Nat.le_refl _))
    have HB5 := Lib.hid (HB4.out.trans (hst5.mono HB4.out.size))
    clear bx4_paE_0 bx4_paE_1 bx4_paE_2 bx4_paE_3 bx4_paE_4 bx4_paE_5 bx4_paE_6 sz4_paE HS4_6_vE HS4_F6_vE_2 HS4_6_vE_2 HS4_F6_vE_4 HS4_6_vE_4 hb5 hst5 HB4
    go_wp2_with fail
    go_region_with ((first | (go_at_call 8; refine (laws_toExpr (c6 := c6_vE) vE hq_vE _ (Below.size (by repeat (first | (with_reducible exact Below.refl _ _) | (with_reducible apply Below.drew) | (with_reducible refine below_drewN ?_ _) | (refine Below.setCell ?_ (by simp <;> omega) _) | (refine Below.alloc ?_ (by simp <;> omega) _)) : Below w5.heap.size w5 _)) (HS5_6_vE.out.later (by repeat (first | (with_reducible exact Below.refl _ _) | (with_reducible apply Below.drew) | (with_reducible refine below_drewN ?_ _) | (refine Below.setCell ?_ (by simp <;> omega) _) | (refine Below.alloc ?_ (by simp <;> omega) _)) : Below w5.heap.size w5 _) (Nat.le_refl _))).mono ?_; rintro e w6 ⟨a6_vE_6, c6_vE_6, rfl, ho6, hb6⟩; have hst6 : Below w5.heap.size w5 w6 := Below.trans (by repeat (first | (with_reducible exact Below.refl _ _) | (with_reducible apply Below.drew) | (with_reducible refine below_drewN ?_ _) | (refine Below.setCell ?_ (by simp <;> omega) _) | (refine Below.alloc ?_ (by simp <;> omega) _)) : Below w5.heap.size w5 _) (hb6.mono (Below.size (by repeat (first | (with_reducible exact Below.refl _ _) | (with_reducible apply Below.drew) | (with_reducible refine below_drewN ?_ _) | (refine Below.setCell ?_ (by simp <;> omega) _) | (refine Below.alloc ?_ (by simp <;> omega) _)) : Below w5.heap.size w5 _))); have sz6_paE : w.heap.size < w6.heap.size := Nat.lt_of_lt_of_le sz5_paE hst6.size; have bx6_paE_0 : w6.cell? ⟨w.heap.size, 0, none⟩ = some (.int .i64 vE.fKind) := (hst6.cell (p := ⟨w.heap.size, 0, none⟩) sz5_paE).trans bx5_paE_0; have bx6_paE_1 : w6.cell? ⟨w.heap.size, 1, none⟩ = some (.int .i64 vE.fN) := (hst6.cell (p := ⟨w.heap.size, 1, none⟩) sz5_paE).trans bx5_paE_1; have bx6_paE_2 : w6.cell? ⟨w.heap.size, 2, none⟩ = some (.int .i64 vE.fPos) := (hst6.cell (p := ⟨w.heap.size, 2, none⟩) sz5_paE).trans bx5_paE_2; have bx6_paE_3 : w6.cell? ⟨w.heap.size, 3, none⟩ = some (.int .i64 vE.fType) := (hst6.cell (p := ⟨w.heap.size, 3, none⟩) sz5_paE).trans bx5_paE_3; have bx6_paE_4 : w6.cell? ⟨w.heap.size, 4, none⟩ = some (.string vE.fSymbol) := (hst6.cell (p := ⟨w.heap.size, 4, none⟩) sz5_paE).trans bx5_paE_4; have bx6_paE_5 : w6.cell? ⟨w.heap.size, 5, none⟩ = some (.string vE.fName) := (hst6.cell (p := ⟨w.heap.size, 5, none⟩) sz5_paE).trans bx5_paE_5; have bx6_paE_6 : w6.cell? ⟨w.heap.size, 6, none⟩ = some (.slice a6_vE vE.fArgs.length c6_vE) := (hst6.cell (p := ⟨w.heap.size, 6, none⟩) sz5_paE).trans bx5_paE_6; have sz6_x0 : w4.heap.size < w6.heap.size := Nat.lt_of_lt_of_le sz5_x0 hst6.size; have bx6_x0_0 : w6.cell? ⟨w4.heap.size, 0, none⟩ = some (.int .i64 vE.fKind) := (hst6.cell (p := ⟨w4.heap.size, 0, none⟩) sz5_x0).trans bx5_x0_0; have bx6_x0_1 : w6.cell? ⟨w4.heap.size, 1, none⟩ = some (.int .i64 vE.fN) := (hst6.cell (p := ⟨w4.heap.size, 1, none⟩) sz5_x0).trans bx5_x0_1; have bx6_x0_2 : w6.cell? ⟨w4.heap.size, 2, none⟩ = some (.int .i64 vE.fPos) := (hst6.cell (p := ⟨w4.heap.size, 2, none⟩) sz5_x0).trans bx5_x0_2; have bx6_x0_3 : w6.cell? ⟨w4.heap.size, 3, none⟩ = some (.int .i64 vE.fType) := (hst6.cell (p := ⟨w4.heap.size, 3, none⟩) sz5_x0).trans bx5_x0_3; have bx6_x0_4 : w6.cell? ⟨w4.heap.size, 4, none⟩ = some (.string vE.fSymbol) := (hst6.cell (p := ⟨w4.heap.size, 4, none⟩) sz5_x0).trans bx5_x0_4; have bx6_x0_5 : w6.cell? ⟨w4.heap.size, 5, none⟩ = some (.string vE.fName) := (hst6.cell (p := ⟨w4.heap.size, 5, none⟩) sz5_x0).trans bx5_x0_5; have bx6_x0_6 : w6.cell? ⟨w4.heap.size, 6, none⟩ = some (.slice a6_vE_4 vE.fArgs.length c6_vE_4) := (hst6.cell (p := ⟨w4.heap.size, 6, none⟩) sz5_x0).trans bx5_x0_6; have HS6_6_vE := Lib.hid (HS5_6_vE.out.up hst6 (Nat.le_refl _)); have HS6_F6_vE_2 := Lib.hid (HS5_F6_vE_2.out.up hst6 (Nat.le_refl _)); have HS6_6_vE_2 := Lib.hid (HS5_6_vE_2.out.up hst6 (Nat.le_refl _)); have HS6_F6_vE_4 := Lib.hid (HS5_F6_vE_4.out.up hst6 (Nat.le_refl _)); have HS6_6_vE_4 := Lib.hid (HS5_6_vE_4.out.up hst6 (Nat.le_refl _)); have HS6_F6_vE_6 := Lib.hid (show Sf 0 w6.heap.size w6 7 vE.fArgs.length (ctE vE.fArgs) a6_vE_6 from Sf.of (cap := c6_vE_6) (l := vE.fArgs.length) (a := a6_vE_6) (ho6.soft (lo := 0) (hi := w6.heap.size) (fun y hy => ⟨Nat.zero_le _, hy.2⟩) 6 (by decide))); have HS6_6_vE_6 := Lib.hid (show Sl 0 w6.heap.size w6 7 vE.fArgs.length (ctE vE.fArgs) a6_vE_6 from Sl.of (cap := c6_vE_6) (l := vE.fArgs.length) (a := a6_vE_6) (ho6.lies (lo := 0) (hi := w6.heap.size) (fun y hy => ⟨Nat.zero_le _, hy.2⟩) 6 (by decide))); have HB6 := Lib.hid (HB5.out.trans (hst6.mono HB5.out.size)); clear bx5_paE_0 bx5_paE_1 bx5_paE_2 bx5_paE_3 bx5_paE_4 bx5_paE_5 bx5_paE_6 sz5_paE bx5_x0_0 bx5_x0_1 bx5_x0_2 bx5_x0_3 bx5_x0_4 bx5_x0_5 bx5_x0_6 sz5_x0 HS5_6_vE HS5_F6_vE_2 HS5_6_vE_2 HS5_F6_vE_4 HS5_6_vE_4 ho6 hb6 hst6 HB5) | (go_at_call 12; refine (laws_eqExpr (c6 := c6_vE_4) (c6q := c6_vE_6) vE hq_vE _ (Below.size (by repeat (first | (with_reducible exact Below.refl _ _) | (with_reducible apply Below.drew) | (with_reducible refine below_drewN ?_ _) | (refine Below.setCell ?_ (by simp <;> omega) _) | (refine Below.alloc ?_ (by simp <;> omega) _)) : Below w6.heap.size w6 _)) (Below.size (by repeat (first | (with_reducible exact Below.refl _ _) | (with_reducible apply Below.drew) | (with_reducible refine below_drewN ?_ _) | (refine Below.setCell ?_ (by simp <;> omega) _) | (refine Below.alloc ?_ (by simp <;> omega) _)) : Below w6.heap.size w6 _)) (HS6_6_vE_4.out.later (by repeat (first | (with_reducible exact Below.refl _ _) | (with_reducible apply Below.drew) | (with_reducible refine below_drewN ?_ _) | (refine Below.setCell ?_ (by simp <;> omega) _) | (refine Below.alloc ?_ (by simp <;> omega) _)) : Below w6.heap.size w6 _) (Nat.le_refl _)) (HS6_6_vE_6.out.later (by repeat (first | (with_reducible exact Below.refl _ _) | (with_reducible apply Below.drew) | (with_reducible refine below_drewN ?_ _) | (refine Below.setCell ?_ (by simp <;> omega) _) | (refine Below.alloc ?_ (by simp <;> omega) _)) : Below w6.heap.size w6 _) (Nat.le_refl _))).mono ?_; rintro e w7 ⟨rfl, hb7⟩; have hst7 : Below w6.heap.size w6 w7 := Below.trans (by repeat (first | (with_reducible exact Below.refl _ _) | (with_reducible apply Below.drew) | (with_reducible refine below_drewN ?_ _) | (refine Below.setCell ?_ (by simp <;> omega) _) | (refine Below.alloc ?_ (by simp <;> omega) _)) : Below w6.heap.size w6 _) (hb7.mono (Below.size (by repeat (first | (with_reducible exact Below.refl _ _) | (with_reducible apply Below.drew) | (with_reducible refine below_drewN ?_ _) | (refine Below.setCell ?_ (by simp <;> omega) _) | (refine Below.alloc ?_ (by simp <;> omega) _)) : Below w6.heap.size w6 _))); have sz7_paE : w.heap.size < w7.heap.size := Nat.lt_of_lt_of_le sz6_paE hst7.size; have bx7_paE_0 : w7.cell? ⟨w.heap.size, 0, none⟩ = some (.int .i64 vE.fKind) := (hst7.cell (p := ⟨w.heap.size, 0, none⟩) sz6_paE).trans bx6_paE_0; have bx7_paE_1 : w7.cell? ⟨w.heap.size, 1, none⟩ = some (.int .i64 vE.fN) := (hst7.cell (p := ⟨w.heap.size, 1, none⟩) sz6_paE).trans bx6_paE_1; have bx7_paE_2 : w7.cell? ⟨w.heap.size, 2, none⟩ = some (.int .i64 vE.fPos) := (hst7.cell (p := ⟨w.heap.size, 2, none⟩) sz6_paE).trans bx6_paE_2; have bx7_paE_3 : w7.cell? ⟨w.heap.size, 3, none⟩ = some (.int .i64 vE.fType) := (hst7.cell (p := ⟨w.heap.size, 3, none⟩) sz6_paE).trans bx6_paE_3; have bx7_paE_4 : w7.cell? ⟨w.heap.size, 4, none⟩ = some (.string vE.fSymbol) := (hst7.cell (p := ⟨w.heap.size, 4, none⟩) sz6_paE).trans bx6_paE_4; have bx7_paE_5 : w7.cell? ⟨w.heap.size, 5, none⟩ = some (.string vE.fName) := (hst7.cell (p := ⟨w.heap.size, 5, none⟩) sz6_paE).trans bx6_paE_5; have bx7_paE_6 : w7.cell? ⟨w.heap.size, 6, none⟩ = some (.slice a6_vE vE.fArgs.length c6_vE) := (hst7.cell (p := ⟨w.heap.size, 6, none⟩) sz6_paE).trans bx6_paE_6; have sz7_x0 : w4.heap.size < w7.heap.size := Nat.lt_of_lt_of_le sz6_x0 hst7.size; have bx7_x0_0 : w7.cell? ⟨w4.heap.size, 0, none⟩ = some (.int .i64 vE.fKind) := (hst7.cell (p := ⟨w4.heap.size, 0, none⟩) sz6_x0).trans bx6_x0_0; have bx7_x0_1 : w7.cell? ⟨w4.heap.size, 1, none⟩ = some (.int .i64 vE.fN) := (hst7.cell (p := ⟨w4.heap.size, 1, none⟩) sz6_x0).trans bx6_x0_1; have bx7_x0_2 : w7.cell? ⟨w4.heap.size, 2, none⟩ = some (.int .i64 vE.fPos) := (hst7.cell (p := ⟨w4.heap.size, 2, none⟩) sz6_x0).trans bx6_x0_2; have bx7_x0_3 : w7.cell? ⟨w4.heap.size, 3, none⟩ = some (.int .i64 vE.fType) := (hst7.cell (p := ⟨w4.heap.size, 3, none⟩) sz6_x0).trans bx6_x0_3; have bx7_x0_4 : w7.cell? ⟨w4.heap.size, 4, none⟩ = some (.string vE.fSymbol) := (hst7.cell (p := ⟨w4.heap.size, 4, none⟩) sz6_x0).trans bx6_x0_4; have bx7_x0_5 : w7.cell? ⟨w4.heap.size, 5, none⟩ = some (.string vE.fName) := (hst7.cell (p := ⟨w4.heap.size, 5, none⟩) sz6_x0).trans bx6_x0_5; have bx7_x0_6 : w7.cell? ⟨w4.heap.size, 6, none⟩ = some (.slice a6_vE_4 vE.fArgs.length c6_vE_4) := (hst7.cell (p := ⟨w4.heap.size, 6, none⟩) sz6_x0).trans bx6_x0_6; have HS7_6_vE := Lib.hid (HS6_6_vE.out.up hst7 (Nat.le_refl _)); have HS7_F6_vE_2 := Lib.hid (HS6_F6_vE_2.out.up hst7 (Nat.le_refl _)); have HS7_6_vE_2 := Lib.hid (HS6_6_vE_2.out.up hst7 (Nat.le_refl _)); have HS7_F6_vE_4 := Lib.hid (HS6_F6_vE_4.out.up hst7 (Nat.le_refl _)); have HS7_6_vE_4 := Lib.hid (HS6_6_vE_4.out.up hst7 (Nat.le_refl _)); have HS7_F6_vE_6 := Lib.hid (HS6_F6_vE_6.out.up hst7 (Nat.le_refl _)); have HS7_6_vE_6 := Lib.hid (HS6_6_vE_6.out.up hst7 (Nat.le_refl _)); have HB7 := Lib.hid (HB6.out.trans (hst7.mono HB6.out.size)); clear bx6_paE_0 bx6_paE_1 bx6_paE_2 bx6_paE_3 bx6_paE_4 bx6_paE_5 bx6_paE_6 sz6_paE bx6_x0_0 bx6_x0_1 bx6_x0_2 bx6_x0_3 bx6_x0_4 bx6_x0_5 bx6_x0_6 sz6_x0 HS6_6_vE HS6_F6_vE_2 HS6_6_vE_2 HS6_F6_vE_4 HS6_6_vE_4 HS6_F6_vE_6 HS6_6_vE_6 hb7 hst7 HB6)))
    all_goals
      go_wp2
      go_ret
      exact ⟨rfl, HB7.out⟩

set_option maxRecDepth 100000 in
theorem lifted (os : Os) (started : os.Started) (H : Type) (enc : TypeId × Value → H) :
    ReturnsInHanded {} Try.checked os 4 .any (Rows.fnExactConstantValueSpec.pre6 enc Try.prog Try.f4 Rows.fnExactConstantValueRow.domain false) (Rows.fnExactConstantValueSpec.post enc Try.prog Try.f4 false true false false) := by
  refine returnsInHanded_of_change_sized (C := Try.checked) own started (by kernel_rfl) Try.func4
    (ChangeSpec.witness6 (enc := enc) (C := Try.checked) false ⟨#[], #[.agg #[.int .i64 0, .int .i64 0, .int .i64 0, .int .i64 0, .string ⟨#[]⟩, .string ⟨#[]⟩, .slice none 0 0]], []⟩ 8 (by kernel_rfl) (by kernel_rfl) (by kernel_rfl) (by kernel_rfl)) ?_
  intro W base args ds gs before hval0 hW _ hsz0 _
  have hval : ∀ (j : Nat) t v, Try.f4.params[j]? = some t → args[j]? = some v → Value.okWide Try.prog W .any base t v := hval0
  obtain ⟨p, q, hA0, hV, hps, hfz, hnd⟩ := id hW
  have hA : DataW.TrodAll enc Try.prog W 0 (fun _ => true) true Try.f4.params.toList args.toList ds p := hA0
  have hsz : (DataW.weightsEach Try.prog (Try.f4.params.toList ++ Rows.fnExactConstantValueSpec.plain.varTypes Try.prog) (ds ++ gs)).all (· ≤ reachBytes) = true := hsz0
  rw [Try.params4] at hA hval hsz
  obtain ⟨v0, vs0, d0, ds0, p0, q0, hargs, rfl, rfl, h0, r0⟩ := trodAll_cons hA
  obtain ⟨rfl, rfl, rfl⟩ := trodAll_nil r0
  obtain rfl : args = #[v0] := by cases args; simp_all
  obtain ⟨vE, a6_vE, c6_vE, rfl, ok_vE, hs_6_vE⟩ := arg_expr (hval 0 24 v0 rfl rfl) h0
  refine (walk vE a6_vE c6_vE ok_vE W hs_6_vE).mono fun e W' ⟨he, hg⟩ => ?_
  subst he
  exact ⟨_, rfl, law_post laidOut (by kernel_rfl) rfl Try.underlying4 rfl rfl hW hg⟩

theorem said : Rows.FnExactConstantValueSaid :=
  OpenClaim.holds_of_wide 4 Try.f4 rfl rfl rfl rfl rfl rfl rfl ⟨rfl, rfl, rfl, rfl, rfl⟩ rfl rfl rfl rfl rfl (by kernel_rfl) Try.func4 (by kernel_rfl)
    (of_decide_eq_true (by kernel_rfl)) (by unfold Func.isWrapper; first | (rw [if_pos (by decide +kernel)]; kernel_rfl) | (rw [if_neg (by decide +kernel)]; exact ⟨rfl, rfl⟩))
    (fun os started H enc _ => lifted os started H enc)
#print axioms said
end Go.Proofs.Ythpnghbhfbiljaa.fnExactConstantValue
