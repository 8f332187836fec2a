/-
  The law FnExactFindEntry: for every memo and every instance the program's FindEntry answers as the model's, and its answer owns its memory. No condition.
-/
import Derived.Test.YthgpompoionfoaaEntLaw
import Derived.Test.YthgpompoionfoaaMkMemo
import Derived.Test.YthgpompoionfoaaMkREntry
import Derived.Test.YthgpompoionfoaaMkInstance
import Derived.Test.YthgpompoionfoaaFree
import Derived.Deep.CutRange
import Derived.SizedLaws
namespace Go.Proofs.Ythgpompoionfoaa.fnExactFindEntry
open Go.ChangeShapes Go.WideShapes Go.ChangeAt Go.RowKit Go.WideMaps Go.WideElems
open Go.ChangeMaps (open_string)
open Go.Lib Go.Deep

set_option maxHeartbeats 6400000 in
set_option maxRecDepth 100000 in
theorem walk (vM : DMemo) (a0_vM : Option Addr) (c0_vM : Nat) (a1_vM : Option Addr) (c1_vM : Nat) (ok_vM : DMemo.ok vM) (vX : DInstance) (ok_vX : DInstance.ok vX) (w : World) (hs_0_vM : Sl 0 w.heap.size w 9 vM.fEntries.length (fun k => DEntry.ct (vM.fEntries.getD k default)) a0_vM) (hs_1_vM : Sl 0 w.heap.size w 2 vM.fEvaluated.length (fun k => DInstance.ct (vM.fEvaluated.getD k default)) a1_vM) :
    Calls Try.prog 3 #[.agg #[.slice a0_vM vM.fEntries.length c0_vM, .slice a1_vM vM.fEvaluated.length c1_vM], .agg #[.int .i64 vX.fNode, .string vX.fName]] w fun e w' => e = .returned (.bool true) ∧ Below w.heap.size w w' := by
  have HS_0_vM := Lib.hid hs_0_vM
  clear hs_0_vM
  have HS_1_vM := Lib.hid hs_1_vM
  clear hs_1_vM
  have OK_vM := Lib.hid ok_vM
  clear ok_vM
  have OK_vX := Lib.hid ok_vX
  clear ok_vX
  by_cases h0 : 1048576 < ((DMemo.sz vM : Nat) : Int)
  · skip
    have hz := fun (hi : Nat) (w' : World) (hhi : hi ≤ w'.heap.size) (hs_0_vM : Sl 0 hi w' 9 vM.fEntries.length (fun k => DEntry.ct (vM.fEntries.getD k default)) a0_vM) (hs_1_vM : Sl 0 hi w' 2 vM.fEvaluated.length (fun k => DInstance.ct (vM.fEvaluated.getD k default)) a1_vM) => laws_szMemo (c0 := c0_vM) (c1 := c1_vM) vM 1048576 (by omega) (by omega) OK_vM.out w' hhi hs_0_vM hs_1_vM
    rw [szR_gt (by omega)] at hz
    have HZ_vM := Lib.hid hz
    clear hz
    go_enter Try.func3, Try.ntmps3
    go_wp2_with fail
    refine (HZ_vM.out w.heap.size _ (Below.size (by repeat (first | (with_reducible exact Below.refl _ _) | (with_reducible apply Below.drew) | (with_reducible refine below_drewN ?_ _) | (refine Below.setCell ?_ (by simp <;> omega) _) | (refine Below.alloc ?_ (by simp <;> omega) _)) : Below w.heap.size w _)) ((HS_0_vM.out.later ((Below.refl w.heap.size w).trans ((by repeat (first | (with_reducible exact Below.refl _ _) | (with_reducible apply Below.drew) | (with_reducible refine below_drewN ?_ _) | (refine Below.setCell ?_ (by simp <;> omega) _) | (refine Below.alloc ?_ (by simp <;> omega) _)) : Below w.heap.size w _).mono (Below.refl w.heap.size w).size)) (Nat.le_refl _)).mono (Nat.le_refl _) (Below.refl w.heap.size w).size) ((HS_1_vM.out.later ((Below.refl w.heap.size w).trans ((by repeat (first | (with_reducible exact Below.refl _ _) | (with_reducible apply Below.drew) | (with_reducible refine below_drewN ?_ _) | (refine Below.setCell ?_ (by simp <;> omega) _) | (refine Below.alloc ?_ (by simp <;> omega) _)) : Below w.heap.size w _).mono (Below.refl w.heap.size w).size)) (Nat.le_refl _)).mono (Nat.le_refl _) (Below.refl w.heap.size w).size)).mono ?_
    rintro e w1 ⟨rfl, hb1⟩
    have hst1 : Below w.heap.size w w1 := Below.trans (by repeat (first | (with_reducible exact Below.refl _ _) | (with_reducible apply Below.drew) | (with_reducible refine below_drewN ?_ _) | (refine Below.setCell ?_ (by simp <;> omega) _) | (refine Below.alloc ?_ (by simp <;> omega) _)) : Below w.heap.size w _) (hb1.mono (Below.size (by repeat (first | (with_reducible exact Below.refl _ _) | (with_reducible apply Below.drew) | (with_reducible refine below_drewN ?_ _) | (refine Below.setCell ?_ (by simp <;> omega) _) | (refine Below.alloc ?_ (by simp <;> omega) _)) : Below w.heap.size w _)))
    have hr1 : w.heap.size + 2 ≤ w1.heap.size := Nat.le_trans (by first | exact Nat.le_refl _ | (simp; done) | (simp; omega) | (simp [World.setCell]; done) | (simp [World.setCell]; omega)) hb1.size
    have sz1_paM : w.heap.size < w1.heap.size := Nat.lt_of_lt_of_le (by first | omega | (simp; done) | (simp; omega) | (simp [World.setCell]; omega)) hb1.size
    have bx1_paM_0 : w1.cell? ⟨w.heap.size, 0, none⟩ = some (.slice a0_vM vM.fEntries.length c0_vM) := (hb1.cell (p := ⟨w.heap.size, 0, none⟩) (by first | omega | (simp; done) | (simp; omega) | (simp [World.setCell]; omega))).trans (by go_simp)
    have bx1_paM_1 : w1.cell? ⟨w.heap.size, 1, none⟩ = some (.slice a1_vM vM.fEvaluated.length c1_vM) := (hb1.cell (p := ⟨w.heap.size, 1, none⟩) (by first | omega | (simp; done) | (simp; omega) | (simp [World.setCell]; omega))).trans (by go_simp)
    have sz1_paX : w.heap.size + 1 < w1.heap.size := Nat.lt_of_lt_of_le (by first | omega | (simp; done) | (simp; omega) | (simp [World.setCell]; omega)) hb1.size
    have bx1_paX_0 : w1.cell? ⟨w.heap.size + 1, 0, none⟩ = some (.int .i64 vX.fNode) := (hb1.cell (p := ⟨w.heap.size + 1, 0, none⟩) (by first | omega | (simp; done) | (simp; omega) | (simp [World.setCell]; omega))).trans (by go_simp)
    have bx1_paX_1 : w1.cell? ⟨w.heap.size + 1, 1, none⟩ = some (.string vX.fName) := (hb1.cell (p := ⟨w.heap.size + 1, 1, none⟩) (by first | omega | (simp; done) | (simp; omega) | (simp [World.setCell]; omega))).trans (by go_simp)
    have HB1 := Lib.hid ((Below.refl w.heap.size w).trans (hst1.mono (Below.refl w.heap.size w).size))
    clear hb1 hst1
    go_wp2
    go_ret
    exact ⟨rfl, HB1.out⟩
  · skip
    by_cases h1 : (1048576 - (DMemo.sz vM : Nat)) < ((DInstance.sz vX : Nat) : Int)
    · skip
      have hz := fun (hi : Nat) (w' : World) (hhi : hi ≤ w'.heap.size) (hs_0_vM : Sl 0 hi w' 9 vM.fEntries.length (fun k => DEntry.ct (vM.fEntries.getD k default)) a0_vM) (hs_1_vM : Sl 0 hi w' 2 vM.fEvaluated.length (fun k => DInstance.ct (vM.fEvaluated.getD k default)) a1_vM) => laws_szMemo (c0 := c0_vM) (c1 := c1_vM) vM 1048576 (by omega) (by omega) OK_vM.out w' hhi hs_0_vM hs_1_vM
      rw [szR_le (by omega)] at hz
      have HZ_vM := Lib.hid hz
      clear hz
      have hz := fun (hi : Nat) (w' : World) => laws_szInstance vX (1048576 - (DMemo.sz vM : Nat)) (by omega) (by omega) OK_vX.out w'
      rw [szR_gt (by omega)] at hz
      have HZ_vX := Lib.hid hz
      clear hz
      go_enter Try.func3, Try.ntmps3
      go_wp2_with fail
      refine (HZ_vM.out w.heap.size _ (Below.size (by repeat (first | (with_reducible exact Below.refl _ _) | (with_reducible apply Below.drew) | (with_reducible refine below_drewN ?_ _) | (refine Below.setCell ?_ (by simp <;> omega) _) | (refine Below.alloc ?_ (by simp <;> omega) _)) : Below w.heap.size w _)) ((HS_0_vM.out.later ((Below.refl w.heap.size w).trans ((by repeat (first | (with_reducible exact Below.refl _ _) | (with_reducible apply Below.drew) | (with_reducible refine below_drewN ?_ _) | (refine Below.setCell ?_ (by simp <;> omega) _) | (refine Below.alloc ?_ (by simp <;> omega) _)) : Below w.heap.size w _).mono (Below.refl w.heap.size w).size)) (Nat.le_refl _)).mono (Nat.le_refl _) (Below.refl w.heap.size w).size) ((HS_1_vM.out.later ((Below.refl w.heap.size w).trans ((by repeat (first | (with_reducible exact Below.refl _ _) | (with_reducible apply Below.drew) | (with_reducible refine below_drewN ?_ _) | (refine Below.setCell ?_ (by simp <;> omega) _) | (refine Below.alloc ?_ (by simp <;> omega) _)) : Below w.heap.size w _).mono (Below.refl w.heap.size w).size)) (Nat.le_refl _)).mono (Nat.le_refl _) (Below.refl w.heap.size w).size)).mono ?_
      rintro e w1 ⟨rfl, hb1⟩
      have hst1 : Below w.heap.size w w1 := Below.trans (by repeat (first | (with_reducible exact Below.refl _ _) | (with_reducible apply Below.drew) | (with_reducible refine below_drewN ?_ _) | (refine Below.setCell ?_ (by simp <;> omega) _) | (refine Below.alloc ?_ (by simp <;> omega) _)) : Below w.heap.size w _) (hb1.mono (Below.size (by repeat (first | (with_reducible exact Below.refl _ _) | (with_reducible apply Below.drew) | (with_reducible refine below_drewN ?_ _) | (refine Below.setCell ?_ (by simp <;> omega) _) | (refine Below.alloc ?_ (by simp <;> omega) _)) : Below w.heap.size w _)))
      have hr1 : w.heap.size + 2 ≤ w1.heap.size := Nat.le_trans (by first | exact Nat.le_refl _ | (simp; done) | (simp; omega) | (simp [World.setCell]; done) | (simp [World.setCell]; omega)) hb1.size
      have sz1_paM : w.heap.size < w1.heap.size := Nat.lt_of_lt_of_le (by first | omega | (simp; done) | (simp; omega) | (simp [World.setCell]; omega)) hb1.size
      have bx1_paM_0 : w1.cell? ⟨w.heap.size, 0, none⟩ = some (.slice a0_vM vM.fEntries.length c0_vM) := (hb1.cell (p := ⟨w.heap.size, 0, none⟩) (by first | omega | (simp; done) | (simp; omega) | (simp [World.setCell]; omega))).trans (by go_simp)
      have bx1_paM_1 : w1.cell? ⟨w.heap.size, 1, none⟩ = some (.slice a1_vM vM.fEvaluated.length c1_vM) := (hb1.cell (p := ⟨w.heap.size, 1, none⟩) (by first | omega | (simp; done) | (simp; omega) | (simp [World.setCell]; omega))).trans (by go_simp)
      have sz1_paX : w.heap.size + 1 < w1.heap.size := Nat.lt_of_lt_of_le (by first | omega | (simp; done) | (simp; omega) | (simp [World.setCell]; omega)) hb1.size
      have bx1_paX_0 : w1.cell? ⟨w.heap.size + 1, 0, none⟩ = some (.int .i64 vX.fNode) := (hb1.cell (p := ⟨w.heap.size + 1, 0, none⟩) (by first | omega | (simp; done) | (simp; omega) | (simp [World.setCell]; omega))).trans (by go_simp)
      have bx1_paX_1 : w1.cell? ⟨w.heap.size + 1, 1, none⟩ = some (.string vX.fName) := (hb1.cell (p := ⟨w.heap.size + 1, 1, none⟩) (by first | omega | (simp; done) | (simp; omega) | (simp [World.setCell]; omega))).trans (by go_simp)
      have HB1 := Lib.hid ((Below.refl w.heap.size w).trans (hst1.mono (Below.refl w.heap.size w).size))
      clear hb1 hst1
      go_wp2_with fail
      refine (HZ_vX.out 0 _).mono ?_
      rintro e w2 ⟨rfl, hb2⟩
      have hst2 : Below w1.heap.size w1 w2 := Below.trans (by repeat (first | (with_reducible exact Below.refl _ _) | (with_reducible apply Below.drew) | (with_reducible refine below_drewN ?_ _) | (refine Below.setCell ?_ (by simp <;> omega) _) | (refine Below.alloc ?_ (by simp <;> omega) _)) : Below w1.heap.size w1 _) (hb2.mono (Below.size (by repeat (first | (with_reducible exact Below.refl _ _) | (with_reducible apply Below.drew) | (with_reducible refine below_drewN ?_ _) | (refine Below.setCell ?_ (by simp <;> omega) _) | (refine Below.alloc ?_ (by simp <;> omega) _)) : Below w1.heap.size w1 _)))
      have hr2 : w1.heap.size ≤ w2.heap.size := Nat.le_trans (by first | exact Nat.le_refl _ | (simp; done) | (simp; omega) | (simp [World.setCell]; done) | (simp [World.setCell]; omega)) hb2.size
      have sz2_paM : w.heap.size < w2.heap.size := Nat.lt_of_lt_of_le sz1_paM hst2.size
      have bx2_paM_0 : w2.cell? ⟨w.heap.size, 0, none⟩ = some (.slice a0_vM vM.fEntries.length c0_vM) := (hst2.cell (p := ⟨w.heap.size, 0, none⟩) sz1_paM).trans bx1_paM_0
      have bx2_paM_1 : w2.cell? ⟨w.heap.size, 1, none⟩ = some (.slice a1_vM vM.fEvaluated.length c1_vM) := (hst2.cell (p := ⟨w.heap.size, 1, none⟩) sz1_paM).trans bx1_paM_1
      have sz2_paX : w.heap.size + 1 < w2.heap.size := Nat.lt_of_lt_of_le sz1_paX hst2.size
      have bx2_paX_0 : w2.cell? ⟨w.heap.size + 1, 0, none⟩ = some (.int .i64 vX.fNode) := (hst2.cell (p := ⟨w.heap.size + 1, 0, none⟩) sz1_paX).trans bx1_paX_0
      have bx2_paX_1 : w2.cell? ⟨w.heap.size + 1, 1, none⟩ = some (.string vX.fName) := (hst2.cell (p := ⟨w.heap.size + 1, 1, none⟩) sz1_paX).trans bx1_paX_1
      have HB2 := Lib.hid (HB1.out.trans (hst2.mono HB1.out.size))
      clear bx1_paM_0 bx1_paM_1 sz1_paM bx1_paX_0 bx1_paX_1 sz1_paX hb2 hst2 HB1
      go_wp2
      go_ret
      exact ⟨rfl, HB2.out⟩
    · skip
      have hz := fun (hi : Nat) (w' : World) (hhi : hi ≤ w'.heap.size) (hs_0_vM : Sl 0 hi w' 9 vM.fEntries.length (fun k => DEntry.ct (vM.fEntries.getD k default)) a0_vM) (hs_1_vM : Sl 0 hi w' 2 vM.fEvaluated.length (fun k => DInstance.ct (vM.fEvaluated.getD k default)) a1_vM) => laws_szMemo (c0 := c0_vM) (c1 := c1_vM) vM 1048576 (by omega) (by omega) OK_vM.out w' hhi hs_0_vM hs_1_vM
      rw [szR_le (by omega)] at hz
      have HZ_vM := Lib.hid hz
      clear hz
      have hz := fun (hi : Nat) (w' : World) => laws_szInstance vX (1048576 - (DMemo.sz vM : Nat)) (by omega) (by omega) OK_vX.out w'
      rw [szR_le (by omega)] at hz
      have HZ_vX := Lib.hid hz
      clear hz
      have hq_vM : DMemo.sz vM ≤ 1048576 := by omega
      have hq_vX : DInstance.sz vX ≤ 1048576 := by omega
      have hq_R : DEntry.sz (entE vM.fEntries vX) ≤ 1048576 := entM_sz hq_vM vX
      go_enter Try.func3, Try.ntmps3
      go_wp2_with fail
      refine (HZ_vM.out w.heap.size _ (Below.size (by repeat (first | (with_reducible exact Below.refl _ _) | (with_reducible apply Below.drew) | (with_reducible refine below_drewN ?_ _) | (refine Below.setCell ?_ (by simp <;> omega) _) | (refine Below.alloc ?_ (by simp <;> omega) _)) : Below w.heap.size w _)) ((HS_0_vM.out.later ((Below.refl w.heap.size w).trans ((by repeat (first | (with_reducible exact Below.refl _ _) | (with_reducible apply Below.drew) | (with_reducible refine below_drewN ?_ _) | (refine Below.setCell ?_ (by simp <;> omega) _) | (refine Below.alloc ?_ (by simp <;> omega) _)) : Below w.heap.size w _).mono (Below.refl w.heap.size w).size)) (Nat.le_refl _)).mono (Nat.le_refl _) (Below.refl w.heap.size w).size) ((HS_1_vM.out.later ((Below.refl w.heap.size w).trans ((by repeat (first | (with_reducible exact Below.refl _ _) | (with_reducible apply Below.drew) | (with_reducible refine below_drewN ?_ _) | (refine Below.setCell ?_ (by simp <;> omega) _) | (refine Below.alloc ?_ (by simp <;> omega) _)) : Below w.heap.size w _).mono (Below.refl w.heap.size w).size)) (Nat.le_refl _)).mono (Nat.le_refl _) (Below.refl w.heap.size w).size)).mono ?_
      rintro e w1 ⟨rfl, hb1⟩
      have hst1 : Below w.heap.size w w1 := Below.trans (by repeat (first | (with_reducible exact Below.refl _ _) | (with_reducible apply Below.drew) | (with_reducible refine below_drewN ?_ _) | (refine Below.setCell ?_ (by simp <;> omega) _) | (refine Below.alloc ?_ (by simp <;> omega) _)) : Below w.heap.size w _) (hb1.mono (Below.size (by repeat (first | (with_reducible exact Below.refl _ _) | (with_reducible apply Below.drew) | (with_reducible refine below_drewN ?_ _) | (refine Below.setCell ?_ (by simp <;> omega) _) | (refine Below.alloc ?_ (by simp <;> omega) _)) : Below w.heap.size w _)))
      have hr1 : w.heap.size + 2 ≤ w1.heap.size := Nat.le_trans (by first | exact Nat.le_refl _ | (simp; done) | (simp; omega) | (simp [World.setCell]; done) | (simp [World.setCell]; omega)) hb1.size
      have sz1_paM : w.heap.size < w1.heap.size := Nat.lt_of_lt_of_le (by first | omega | (simp; done) | (simp; omega) | (simp [World.setCell]; omega)) hb1.size
      have bx1_paM_0 : w1.cell? ⟨w.heap.size, 0, none⟩ = some (.slice a0_vM vM.fEntries.length c0_vM) := (hb1.cell (p := ⟨w.heap.size, 0, none⟩) (by first | omega | (simp; done) | (simp; omega) | (simp [World.setCell]; omega))).trans (by go_simp)
      have bx1_paM_1 : w1.cell? ⟨w.heap.size, 1, none⟩ = some (.slice a1_vM vM.fEvaluated.length c1_vM) := (hb1.cell (p := ⟨w.heap.size, 1, none⟩) (by first | omega | (simp; done) | (simp; omega) | (simp [World.setCell]; omega))).trans (by go_simp)
      have sz1_paX : w.heap.size + 1 < w1.heap.size := Nat.lt_of_lt_of_le (by first | omega | (simp; done) | (simp; omega) | (simp [World.setCell]; omega)) hb1.size
      have bx1_paX_0 : w1.cell? ⟨w.heap.size + 1, 0, none⟩ = some (.int .i64 vX.fNode) := (hb1.cell (p := ⟨w.heap.size + 1, 0, none⟩) (by first | omega | (simp; done) | (simp; omega) | (simp [World.setCell]; omega))).trans (by go_simp)
      have bx1_paX_1 : w1.cell? ⟨w.heap.size + 1, 1, none⟩ = some (.string vX.fName) := (hb1.cell (p := ⟨w.heap.size + 1, 1, none⟩) (by first | omega | (simp; done) | (simp; omega) | (simp [World.setCell]; omega))).trans (by go_simp)
      have HB1 := Lib.hid ((Below.refl w.heap.size w).trans (hst1.mono (Below.refl w.heap.size w).size))
      clear hb1 hst1
      go_wp2_with fail
      refine (HZ_vX.out 0 _).mono ?_
      rintro e w2 ⟨rfl, hb2⟩
      have hst2 : Below w1.heap.size w1 w2 := Below.trans (by repeat (first | (with_reducible exact Below.refl _ _) | (with_reducible apply Below.drew) | (with_reducible refine below_drewN ?_ _) | (refine Below.setCell ?_ (by simp <;> omega) _) | (refine Below.alloc ?_ (by simp <;> omega) _)) : Below w1.heap.size w1 _) (hb2.mono (Below.size (by repeat (first | (with_reducible exact Below.refl _ _) | (with_reducible apply Below.drew) | (with_reducible refine below_drewN ?_ _) | (refine Below.setCell ?_ (by simp <;> omega) _) | (refine Below.alloc ?_ (by simp <;> omega) _)) : Below w1.heap.size w1 _)))
      have hr2 : w1.heap.size ≤ w2.heap.size := Nat.le_trans (by first | exact Nat.le_refl _ | (simp; done) | (simp; omega) | (simp [World.setCell]; done) | (simp [World.setCell]; omega)) hb2.size
      have sz2_paM : w.heap.size < w2.heap.size := Nat.lt_of_lt_of_le sz1_paM hst2.size
      have bx2_paM_0 : w2.cell? ⟨w.heap.size, 0, none⟩ = some (.slice a0_vM vM.fEntries.length c0_vM) := (hst2.cell (p := ⟨w.heap.size, 0, none⟩) sz1_paM).trans bx1_paM_0
      have bx2_paM_1 : w2.cell? ⟨w.heap.size, 1, none⟩ = some (.slice a1_vM vM.fEvaluated.length c1_vM) := (hst2.cell (p := ⟨w.heap.size, 1, none⟩) sz1_paM).trans bx1_paM_1
      have sz2_paX : w.heap.size + 1 < w2.heap.size := Nat.lt_of_lt_of_le sz1_paX hst2.size
      have bx2_paX_0 : w2.cell? ⟨w.heap.size + 1, 0, none⟩ = some (.int .i64 vX.fNode) := (hst2.cell (p := ⟨w.heap.size + 1, 0, none⟩) sz1_paX).trans bx1_paX_0
      have bx2_paX_1 : w2.cell? ⟨w.heap.size + 1, 1, none⟩ = some (.string vX.fName) := (hst2.cell (p := ⟨w.heap.size + 1, 1, none⟩) sz1_paX).trans bx1_paX_1
      have HB2 := Lib.hid (HB1.out.trans (hst2.mono HB1.out.size))
      clear bx1_paM_0 bx1_paM_1 sz1_paM bx1_paX_0 bx1_paX_1 sz1_paX hb2 hst2 HB1
      go_upto_region 8 with fail
      go_cut [6, 7] from 26 to 33 (fun sW tW wx => ∃ (bW lW hW : Nat) (aW0 : Option Addr) (cW0 : Nat) (aW1 : Option Addr) (cW1 : Nat) (aW2 : Option Addr) (cW2 : Nat), sW = .pointer (some ⟨bW, 0, none⟩) ∧ tW = .bool (entB vM.fEntries vX) ∧ wx.cell? ⟨bW, 0, none⟩ = some (.int .i64 (entE vM.fEntries vX).fAt.fNode) ∧ wx.cell? ⟨bW, 1, none⟩ = some (.string (entE vM.fEntries vX).fAt.fName) ∧ wx.cell? ⟨bW, 2, none⟩ = some (.int .i64 (entE vM.fEntries vX).fValue) ∧ wx.cell? ⟨bW, 3, none⟩ = some (.int .i64 (entE vM.fEntries vX).fOwner) ∧ wx.cell? ⟨bW, 4, none⟩ = some (.int .i64 (entE vM.fEntries vX).fLiteral) ∧ wx.cell? ⟨bW, 5, none⟩ = some (.string (entE vM.fEntries vX).fRule) ∧ wx.cell? ⟨bW, 6, none⟩ = some (.slice aW0 (entE vM.fEntries vX).fIds.length cW0) ∧ wx.cell? ⟨bW, 7, none⟩ = some (.slice aW1 (entE vM.fEntries vX).fShape.length cW1) ∧ wx.cell? ⟨bW, 8, none⟩ = some (.slice aW2 (entE vM.fEntries vX).fReads.length cW2) ∧ OwnR wx (fun y => lW ≤ y ∧ y < hW) 9 ((entE vM.fEntries vX)).ct (fun j => [.int .i64 (entE vM.fEntries vX).fAt.fNode, .string (entE vM.fEntries vX).fAt.fName, .int .i64 (entE vM.fEntries vX).fValue, .int .i64 (entE vM.fEntries vX).fOwner, .int .i64 (entE vM.fEntries vX).fLiteral, .string (entE vM.fEntries vX).fRule, .slice aW0 (entE vM.fEntries vX).fIds.length cW0, .slice aW1 (entE vM.fEntries vX).fShape.length cW1, .slice aW2 (entE vM.fEntries vX).fReads.length cW2].getD j .nilFunc) ∧ bW < wx.heap.size ∧ w2.heap.size ≤ bW ∧ w2.heap.size ≤ lW ∧ hW ≤ wx.heap.size ∧ (bW < lW ∨ hW ≤ bW) ∧ Below w2.heap.size w2 wx)
      case first =>
        refine wp_region_free [([], none), ([0], none), ([], none), ([2], none), ([1, 3], none), ([4], none), ([5], none), ([5], none), ([], none), ([8, 6], some 8), ([7], none)] [0, 1, 2, 3, 4, 5, 6, 7, 9, 10] (fun jq9 V L H wx => match jq9 with | 0 => V 0 = .agg #[.slice a0_vM vM.fEntries.length c0_vM, .slice a1_vM vM.fEvaluated.length c1_vM] | 1 => ∃ a0_vM_f1 c0_vM_f1 a1_vM_f1 c1_vM_f1, V 1 = .agg #[.slice a0_vM_f1 vM.fEntries.length c0_vM_f1, .slice a1_vM_f1 vM.fEvaluated.length c1_vM_f1] ∧ OwnR wx (fun y => L ≤ y ∧ y < H) 2 vM.ct (fun j => [.slice a0_vM_f1 vM.fEntries.length c0_vM_f1, .slice a1_vM_f1 vM.fEvaluated.length c1_vM_f1].getD j .nilFunc) | 2 => V 2 = .agg #[.int .i64 vX.fNode, .string vX.fName] | 3 => V 3 = .agg #[.int .i64 vX.fNode, .string vX.fName] | 4 => ∃ a6_R_f4 c6_R_f4 a7_R_f4 c7_R_f4 a8_R_f4 c8_R_f4, V 4 = .tuple #[.agg #[.int .i64 (entE vM.fEntries vX).fAt.fNode, .string (entE vM.fEntries vX).fAt.fName, .int .i64 (entE vM.fEntries vX).fValue, .int .i64 (entE vM.fEntries vX).fOwner, .int .i64 (entE vM.fEntries vX).fLiteral, .string (entE vM.fEntries vX).fRule, .slice a6_R_f4 (entE vM.fEntries vX).fIds.length c6_R_f4, .slice a7_R_f4 (entE vM.fEntries vX).fShape.length c7_R_f4, .slice a8_R_f4 (entE vM.fEntries vX).fReads.length c8_R_f4], .bool (entB vM.fEntries vX)] ∧ OwnR wx (fun y => L ≤ y ∧ y < H) 9 ((entE vM.fEntries vX)).ct (fun j => [.int .i64 (entE vM.fEntries vX).fAt.fNode, .string (entE vM.fEntries vX).fAt.fName, .int .i64 (entE vM.fEntries vX).fValue, .int .i64 (entE vM.fEntries vX).fOwner, .int .i64 (entE vM.fEntries vX).fLiteral, .string (entE vM.fEntries vX).fRule, .slice a6_R_f4 (entE vM.fEntries vX).fIds.length c6_R_f4, .slice a7_R_f4 (entE vM.fEntries vX).fShape.length c7_R_f4, .slice a8_R_f4 (entE vM.fEntries vX).fReads.length c8_R_f4].getD j .nilFunc) | 5 => V 5 = V 4 ∧ ∃ a6_R_f4_5 c6_R_f4_5 a7_R_f4_5 c7_R_f4_5 a8_R_f4_5 c8_R_f4_5, V 5 = .tuple #[.agg #[.int .i64 (entE vM.fEntries vX).fAt.fNode, .string (entE vM.fEntries vX).fAt.fName, .int .i64 (entE vM.fEntries vX).fValue, .int .i64 (entE vM.fEntries vX).fOwner, .int .i64 (entE vM.fEntries vX).fLiteral, .string (entE vM.fEntries vX).fRule, .slice a6_R_f4_5 (entE vM.fEntries vX).fIds.length c6_R_f4_5, .slice a7_R_f4_5 (entE vM.fEntries vX).fShape.length c7_R_f4_5, .slice a8_R_f4_5 (entE vM.fEntries vX).fReads.length c8_R_f4_5], .bool (entB vM.fEntries vX)] | 6 => (∀ x0 x1, V 5 = .tuple #[x0, x1] → V 6 = x0) ∧ ∃ a6_R_f4_6 c6_R_f4_6 a7_R_f4_6 c7_R_f4_6 a8_R_f4_6 c8_R_f4_6, V 6 = .agg #[.int .i64 (entE vM.fEntries vX).fAt.fNode, .string (entE vM.fEntries vX).fAt.fName, .int .i64 (entE vM.fEntries vX).fValue, .int .i64 (entE vM.fEntries vX).fOwner, .int .i64 (entE vM.fEntries vX).fLiteral, .string (entE vM.fEntries vX).fRule, .slice a6_R_f4_6 (entE vM.fEntries vX).fIds.length c6_R_f4_6, .slice a7_R_f4_6 (entE vM.fEntries vX).fShape.length c7_R_f4_6, .slice a8_R_f4_6 (entE vM.fEntries vX).fReads.length c8_R_f4_6] | 7 => (∀ x0 x1, V 5 = .tuple #[x0, x1] → V 7 = x1) | 8 => V 8 = .pointer (some ⟨L, 0, none⟩) ∧ L < H ∧ wx.cell? ⟨L, 0, none⟩ = some (.int .i64 0) ∧ wx.frozen? ⟨L, 0, none⟩ = false ∧ wx.cell? ⟨L, 1, none⟩ = some (.string ⟨#[]⟩) ∧ wx.frozen? ⟨L, 1, none⟩ = false ∧ wx.cell? ⟨L, 2, none⟩ = some (.int .i64 0) ∧ wx.frozen? ⟨L, 2, none⟩ = false ∧ wx.cell? ⟨L, 3, none⟩ = some (.int .i64 0) ∧ wx.frozen? ⟨L, 3, none⟩ = false ∧ wx.cell? ⟨L, 4, none⟩ = some (.int .i64 0) ∧ wx.frozen? ⟨L, 4, none⟩ = false ∧ wx.cell? ⟨L, 5, none⟩ = some (.string ⟨#[]⟩) ∧ wx.frozen? ⟨L, 5, none⟩ = false ∧ wx.cell? ⟨L, 6, none⟩ = some (.slice none 0 0) ∧ wx.frozen? ⟨L, 6, none⟩ = false ∧ wx.cell? ⟨L, 7, none⟩ = some (.slice none 0 0) ∧ wx.frozen? ⟨L, 7, none⟩ = false ∧ wx.cell? ⟨L, 8, none⟩ = some (.slice none 0 0) ∧ wx.frozen? ⟨L, 8, none⟩ = false | 9 => ∀ x0 x1 x2 x3 x4 x5 x6 x7 x8, V 6 = .agg #[x0, x1, x2, x3, x4, x5, x6, x7, x8] → L < H ∧ wx.cell? ⟨L, 0, none⟩ = some x0 ∧ wx.cell? ⟨L, 1, none⟩ = some x1 ∧ wx.cell? ⟨L, 2, none⟩ = some x2 ∧ wx.cell? ⟨L, 3, none⟩ = some x3 ∧ wx.cell? ⟨L, 4, none⟩ = some x4 ∧ wx.cell? ⟨L, 5, none⟩ = some x5 ∧ wx.cell? ⟨L, 6, none⟩ = some x6 ∧ wx.cell? ⟨L, 7, none⟩ = some x7 ∧ wx.cell? ⟨L, 8, none⟩ = some x8 | 10 => V 10 = V 7 | _ => True) (by kernel_rfl) (by kernel_rfl) ?loc ?lasts ?walk
        case loc =>
          intro k V V' L H wx h0 h1 hG
          match k with
          | 0 =>
            try dsimp only at hG ⊢
            rw [← h0]
            exact hG
          | 1 =>
            have e0 := h1 0 (by decide)
            try dsimp only at hG ⊢
            rw [← h0]
            exact hG
          | 2 =>
            try dsimp only at hG ⊢
            rw [← h0]
            exact hG
          | 3 =>
            have e2 := h1 2 (by decide)
            try dsimp only at hG ⊢
            rw [← h0]
            exact hG
          | 4 =>
            have e1 := h1 1 (by decide)
            have e3 := h1 3 (by decide)
            try dsimp only at hG ⊢
            rw [← h0]
            exact hG
          | 5 =>
            have e4 := h1 4 (by decide)
            try dsimp only at hG ⊢
            rw [← h0, ← e4]
            exact hG
          | 6 =>
            have e5 := h1 5 (by decide)
            try dsimp only at hG ⊢
            rw [← h0, ← e5]
            exact hG
          | 7 =>
            have e5 := h1 5 (by decide)
            try dsimp only at hG ⊢
            rw [← h0, ← e5]
            exact hG
          | 8 =>
            try dsimp only at hG ⊢
            rw [← h0]
            exact hG
          | 9 =>
            have e8 := h1 8 (by decide)
            have e6 := h1 6 (by decide)
            try dsimp only at hG ⊢
            rw [← e6]
            exact hG
          | 10 =>
            have e7 := h1 7 (by decide)
            try dsimp only at hG ⊢
            rw [← h0, ← e7]
            exact hG
          | n + 11 => trivial
        case lasts =>
          intro i hi V L H wx wy hB hH hk
          match i, hi with
          | 0, _ => exact fun h => h
          | 1, _ => exact fun ⟨a0_vM_f1, c0_vM_f1, a1_vM_f1, c1_vM_f1, hv, ho⟩ => ⟨a0_vM_f1, c0_vM_f1, a1_vM_f1, c1_vM_f1, hv, ho.kept (hk.sub fun x hx => .inr hx)⟩
          | 2, _ => exact fun h => h
          | 3, _ => exact fun h => h
          | 4, _ => exact fun ⟨a6_R_f4, c6_R_f4, a7_R_f4, c7_R_f4, a8_R_f4, c8_R_f4, hv, ho⟩ => ⟨a6_R_f4, c6_R_f4, a7_R_f4, c7_R_f4, a8_R_f4, c8_R_f4, hv, ho.kept (hk.sub fun x hx => .inr hx)⟩
          | 5, _ => exact fun h => h
          | 6, _ => exact fun h => h
          | 7, _ => exact fun h => h
          | 8, _ => exact fun ⟨hv, hl, hc0, hf0, hc1, hf1, hc2, hf2, hc3, hf3, hc4, hf4, hc5, hf5, hc6, hf6, hc7, hf7, hc8, hf8⟩ => ⟨hv, hl, (hk.cell (p := ⟨L, 0, none⟩) (.inr ⟨Nat.le_refl _, hl⟩) (Nat.lt_of_lt_of_le hl hH)).trans hc0, (hk.frozen (p := ⟨L, 0, none⟩) (.inr ⟨Nat.le_refl _, hl⟩) (Nat.lt_of_lt_of_le hl hH)).trans hf0, (hk.cell (p := ⟨L, 1, none⟩) (.inr ⟨Nat.le_refl _, hl⟩) (Nat.lt_of_lt_of_le hl hH)).trans hc1, (hk.frozen (p := ⟨L, 1, none⟩) (.inr ⟨Nat.le_refl _, hl⟩) (Nat.lt_of_lt_of_le hl hH)).trans hf1, (hk.cell (p := ⟨L, 2, none⟩) (.inr ⟨Nat.le_refl _, hl⟩) (Nat.lt_of_lt_of_le hl hH)).trans hc2, (hk.frozen (p := ⟨L, 2, none⟩) (.inr ⟨Nat.le_refl _, hl⟩) (Nat.lt_of_lt_of_le hl hH)).trans hf2, (hk.cell (p := ⟨L, 3, none⟩) (.inr ⟨Nat.le_refl _, hl⟩) (Nat.lt_of_lt_of_le hl hH)).trans hc3, (hk.frozen (p := ⟨L, 3, none⟩) (.inr ⟨Nat.le_refl _, hl⟩) (Nat.lt_of_lt_of_le hl hH)).trans hf3, (hk.cell (p := ⟨L, 4, none⟩) (.inr ⟨Nat.le_refl _, hl⟩) (Nat.lt_of_lt_of_le hl hH)).trans hc4, (hk.frozen (p := ⟨L, 4, none⟩) (.inr ⟨Nat.le_refl _, hl⟩) (Nat.lt_of_lt_of_le hl hH)).trans hf4, (hk.cell (p := ⟨L, 5, none⟩) (.inr ⟨Nat.le_refl _, hl⟩) (Nat.lt_of_lt_of_le hl hH)).trans hc5, (hk.frozen (p := ⟨L, 5, none⟩) (.inr ⟨Nat.le_refl _, hl⟩) (Nat.lt_of_lt_of_le hl hH)).trans hf5, (hk.cell (p := ⟨L, 6, none⟩) (.inr ⟨Nat.le_refl _, hl⟩) (Nat.lt_of_lt_of_le hl hH)).trans hc6, (hk.frozen (p := ⟨L, 6, none⟩) (.inr ⟨Nat.le_refl _, hl⟩) (Nat.lt_of_lt_of_le hl hH)).trans hf6, (hk.cell (p := ⟨L, 7, none⟩) (.inr ⟨Nat.le_refl _, hl⟩) (Nat.lt_of_lt_of_le hl hH)).trans hc7, (hk.frozen (p := ⟨L, 7, none⟩) (.inr ⟨Nat.le_refl _, hl⟩) (Nat.lt_of_lt_of_le hl hH)).trans hf7, (hk.cell (p := ⟨L, 8, none⟩) (.inr ⟨Nat.le_refl _, hl⟩) (Nat.lt_of_lt_of_le hl hH)).trans hc8, (hk.frozen (p := ⟨L, 8, none⟩) (.inr ⟨Nat.le_refl _, hl⟩) (Nat.lt_of_lt_of_le hl hH)).trans hf8⟩
          | 9, _ => exact fun h x0 x1 x2 x3 x4 x5 x6 x7 x8 hv => ⟨(h x0 x1 x2 x3 x4 x5 x6 x7 x8 hv).1, (hk.cell (p := ⟨L, 0, none⟩) (.inr ⟨Nat.le_refl _, (h x0 x1 x2 x3 x4 x5 x6 x7 x8 hv).1⟩) (Nat.lt_of_lt_of_le (h x0 x1 x2 x3 x4 x5 x6 x7 x8 hv).1 hH)).trans (h x0 x1 x2 x3 x4 x5 x6 x7 x8 hv).2.1, (hk.cell (p := ⟨L, 1, none⟩) (.inr ⟨Nat.le_refl _, (h x0 x1 x2 x3 x4 x5 x6 x7 x8 hv).1⟩) (Nat.lt_of_lt_of_le (h x0 x1 x2 x3 x4 x5 x6 x7 x8 hv).1 hH)).trans (h x0 x1 x2 x3 x4 x5 x6 x7 x8 hv).2.2.1, (hk.cell (p := ⟨L, 2, none⟩) (.inr ⟨Nat.le_refl _, (h x0 x1 x2 x3 x4 x5 x6 x7 x8 hv).1⟩) (Nat.lt_of_lt_of_le (h x0 x1 x2 x3 x4 x5 x6 x7 x8 hv).1 hH)).trans (h x0 x1 x2 x3 x4 x5 x6 x7 x8 hv).2.2.2.1, (hk.cell (p := ⟨L, 3, none⟩) (.inr ⟨Nat.le_refl _, (h x0 x1 x2 x3 x4 x5 x6 x7 x8 hv).1⟩) (Nat.lt_of_lt_of_le (h x0 x1 x2 x3 x4 x5 x6 x7 x8 hv).1 hH)).trans (h x0 x1 x2 x3 x4 x5 x6 x7 x8 hv).2.2.2.2.1, (hk.cell (p := ⟨L, 4, none⟩) (.inr ⟨Nat.le_refl _, (h x0 x1 x2 x3 x4 x5 x6 x7 x8 hv).1⟩) (Nat.lt_of_lt_of_le (h x0 x1 x2 x3 x4 x5 x6 x7 x8 hv).1 hH)).trans (h x0 x1 x2 x3 x4 x5 x6 x7 x8 hv).2.2.2.2.2.1, (hk.cell (p := ⟨L, 5, none⟩) (.inr ⟨Nat.le_refl _, (h x0 x1 x2 x3 x4 x5 x6 x7 x8 hv).1⟩) (Nat.lt_of_lt_of_le (h x0 x1 x2 x3 x4 x5 x6 x7 x8 hv).1 hH)).trans (h x0 x1 x2 x3 x4 x5 x6 x7 x8 hv).2.2.2.2.2.2.1, (hk.cell (p := ⟨L, 6, none⟩) (.inr ⟨Nat.le_refl _, (h x0 x1 x2 x3 x4 x5 x6 x7 x8 hv).1⟩) (Nat.lt_of_lt_of_le (h x0 x1 x2 x3 x4 x5 x6 x7 x8 hv).1 hH)).trans (h x0 x1 x2 x3 x4 x5 x6 x7 x8 hv).2.2.2.2.2.2.2.1, (hk.cell (p := ⟨L, 7, none⟩) (.inr ⟨Nat.le_refl _, (h x0 x1 x2 x3 x4 x5 x6 x7 x8 hv).1⟩) (Nat.lt_of_lt_of_le (h x0 x1 x2 x3 x4 x5 x6 x7 x8 hv).1 hH)).trans (h x0 x1 x2 x3 x4 x5 x6 x7 x8 hv).2.2.2.2.2.2.2.2.1, (hk.cell (p := ⟨L, 8, none⟩) (.inr ⟨Nat.le_refl _, (h x0 x1 x2 x3 x4 x5 x6 x7 x8 hv).1⟩) (Nat.lt_of_lt_of_le (h x0 x1 x2 x3 x4 x5 x6 x7 x8 hv).1 hH)).trans (h x0 x1 x2 x3 x4 x5 x6 x7 x8 hv).2.2.2.2.2.2.2.2.2⟩
          | 10, _ => exact fun h => h
          | n + 11, hn => exact absurd hn (by simp)
        case walk =>
          simp only [free, Nat.reduceAdd, Act.put, List.setIfInBounds_toArray, List.set_cons_succ, List.set_cons_zero]
          refine ⟨?_, ?_, ?_, ?_, ?_, ?_, ?_, ?_, ?_, ?_, ?_, ?_⟩
          · intro V L H w3 hb3 hd
            clear hd
            have sz3_paM : w.heap.size < w3.heap.size := Nat.lt_of_lt_of_le sz2_paM hb3.size
            have bx3_paM_0 : w3.cell? ⟨w.heap.size, 0, none⟩ = some (.slice a0_vM vM.fEntries.length c0_vM) := (hb3.cell (p := ⟨w.heap.size, 0, none⟩) sz2_paM).trans bx2_paM_0
            have bx3_paM_1 : w3.cell? ⟨w.heap.size, 1, none⟩ = some (.slice a1_vM vM.fEvaluated.length c1_vM) := (hb3.cell (p := ⟨w.heap.size, 1, none⟩) sz2_paM).trans bx2_paM_1
            have sz3_paX : w.heap.size + 1 < w3.heap.size := Nat.lt_of_lt_of_le sz2_paX hb3.size
            have bx3_paX_0 : w3.cell? ⟨w.heap.size + 1, 0, none⟩ = some (.int .i64 vX.fNode) := (hb3.cell (p := ⟨w.heap.size + 1, 0, none⟩) sz2_paX).trans bx2_paX_0
            have bx3_paX_1 : w3.cell? ⟨w.heap.size + 1, 1, none⟩ = some (.string vX.fName) := (hb3.cell (p := ⟨w.heap.size + 1, 1, none⟩) sz2_paX).trans bx2_paX_1
            have HB3 := Lib.hid (HB2.out.trans (hb3.mono HB2.out.size))
            clear sz2_paM bx2_paM_0 bx2_paM_1 sz2_paX bx2_paX_0 bx2_paX_1
            go_wp2_with fail
            exact freePost _ rfl ⟨Below.refl _ _, upd_self⟩
          · intro V L H w3 hb3 hd
            obtain ⟨⟨hL0, hM0, hH0, hv0⟩, -⟩ := hd
            rw [hv0]
            have HV0 := Lib.hid hv0
            clear hv0
            have sz3_paM : w.heap.size < w3.heap.size := Nat.lt_of_lt_of_le sz2_paM hb3.size
            have bx3_paM_0 : w3.cell? ⟨w.heap.size, 0, none⟩ = some (.slice a0_vM vM.fEntries.length c0_vM) := (hb3.cell (p := ⟨w.heap.size, 0, none⟩) sz2_paM).trans bx2_paM_0
            have bx3_paM_1 : w3.cell? ⟨w.heap.size, 1, none⟩ = some (.slice a1_vM vM.fEvaluated.length c1_vM) := (hb3.cell (p := ⟨w.heap.size, 1, none⟩) sz2_paM).trans bx2_paM_1
            have sz3_paX : w.heap.size + 1 < w3.heap.size := Nat.lt_of_lt_of_le sz2_paX hb3.size
            have bx3_paX_0 : w3.cell? ⟨w.heap.size + 1, 0, none⟩ = some (.int .i64 vX.fNode) := (hb3.cell (p := ⟨w.heap.size + 1, 0, none⟩) sz2_paX).trans bx2_paX_0
            have bx3_paX_1 : w3.cell? ⟨w.heap.size + 1, 1, none⟩ = some (.string vX.fName) := (hb3.cell (p := ⟨w.heap.size + 1, 1, none⟩) sz2_paX).trans bx2_paX_1
            have HB3 := Lib.hid (HB2.out.trans (hb3.mono HB2.out.size))
            clear sz2_paM bx2_paM_0 bx2_paM_1 sz2_paX bx2_paX_0 bx2_paX_1
            go_wp2_with fail
            refine (laws_toMemo (c0 := c0_vM) (c1 := c1_vM) vM hq_vM _ (Below.size (by repeat (first | (with_reducible exact Below.refl _ _) | (with_reducible apply Below.drew) | (with_reducible refine below_drewN ?_ _) | (refine Below.setCell ?_ (by simp <;> omega) _) | (refine Below.alloc ?_ (by simp <;> omega) _)) : Below w3.heap.size w3 _)) ((HS_0_vM.out.later (HB3.out.trans ((by repeat (first | (with_reducible exact Below.refl _ _) | (with_reducible apply Below.drew) | (with_reducible refine below_drewN ?_ _) | (refine Below.setCell ?_ (by simp <;> omega) _) | (refine Below.alloc ?_ (by simp <;> omega) _)) : Below w3.heap.size w3 _).mono HB3.out.size)) (Nat.le_refl _)).mono (Nat.le_refl _) HB3.out.size) ((HS_1_vM.out.later (HB3.out.trans ((by repeat (first | (with_reducible exact Below.refl _ _) | (with_reducible apply Below.drew) | (with_reducible refine below_drewN ?_ _) | (refine Below.setCell ?_ (by simp <;> omega) _) | (refine Below.alloc ?_ (by simp <;> omega) _)) : Below w3.heap.size w3 _).mono HB3.out.size)) (Nat.le_refl _)).mono (Nat.le_refl _) HB3.out.size)).mono ?_
            rintro e w4 ⟨a0_vM_f1, c0_vM_f1, a1_vM_f1, c1_vM_f1, rfl, ho, hb4⟩
            go_wp2_with fail
            exact freePost _ rfl ⟨hb4, Exists.intro a0_vM_f1 (Exists.intro c0_vM_f1 (Exists.intro a1_vM_f1 (Exists.intro c1_vM_f1 (And.intro upd_self ho))))⟩
          · intro V L H w3 hb3 hd
            clear hd
            have sz3_paM : w.heap.size < w3.heap.size := Nat.lt_of_lt_of_le sz2_paM hb3.size
            have bx3_paM_0 : w3.cell? ⟨w.heap.size, 0, none⟩ = some (.slice a0_vM vM.fEntries.length c0_vM) := (hb3.cell (p := ⟨w.heap.size, 0, none⟩) sz2_paM).trans bx2_paM_0
            have bx3_paM_1 : w3.cell? ⟨w.heap.size, 1, none⟩ = some (.slice a1_vM vM.fEvaluated.length c1_vM) := (hb3.cell (p := ⟨w.heap.size, 1, none⟩) sz2_paM).trans bx2_paM_1
            have sz3_paX : w.heap.size + 1 < w3.heap.size := Nat.lt_of_lt_of_le sz2_paX hb3.size
            have bx3_paX_0 : w3.cell? ⟨w.heap.size + 1, 0, none⟩ = some (.int .i64 vX.fNode) := (hb3.cell (p := ⟨w.heap.size + 1, 0, none⟩) sz2_paX).trans bx2_paX_0
            have bx3_paX_1 : w3.cell? ⟨w.heap.size + 1, 1, none⟩ = some (.string vX.fName) := (hb3.cell (p := ⟨w.heap.size + 1, 1, none⟩) sz2_paX).trans bx2_paX_1
            have HB3 := Lib.hid (HB2.out.trans (hb3.mono HB2.out.size))
            clear sz2_paM bx2_paM_0 bx2_paM_1 sz2_paX bx2_paX_0 bx2_paX_1
            go_wp2_with fail
            exact freePost _ rfl ⟨Below.refl _ _, upd_self⟩
          · intro V L H w3 hb3 hd
            obtain ⟨⟨hL2, hM2, hH2, hv2⟩, -⟩ := hd
            rw [hv2]
            have HV2 := Lib.hid hv2
            clear hv2
            have sz3_paM : w.heap.size < w3.heap.size := Nat.lt_of_lt_of_le sz2_paM hb3.size
            have bx3_paM_0 : w3.cell? ⟨w.heap.size, 0, none⟩ = some (.slice a0_vM vM.fEntries.length c0_vM) := (hb3.cell (p := ⟨w.heap.size, 0, none⟩) sz2_paM).trans bx2_paM_0
            have bx3_paM_1 : w3.cell? ⟨w.heap.size, 1, none⟩ = some (.slice a1_vM vM.fEvaluated.length c1_vM) := (hb3.cell (p := ⟨w.heap.size, 1, none⟩) sz2_paM).trans bx2_paM_1
            have sz3_paX : w.heap.size + 1 < w3.heap.size := Nat.lt_of_lt_of_le sz2_paX hb3.size
            have bx3_paX_0 : w3.cell? ⟨w.heap.size + 1, 0, none⟩ = some (.int .i64 vX.fNode) := (hb3.cell (p := ⟨w.heap.size + 1, 0, none⟩) sz2_paX).trans bx2_paX_0
            have bx3_paX_1 : w3.cell? ⟨w.heap.size + 1, 1, none⟩ = some (.string vX.fName) := (hb3.cell (p := ⟨w.heap.size + 1, 1, none⟩) sz2_paX).trans bx2_paX_1
            have HB3 := Lib.hid (HB2.out.trans (hb3.mono HB2.out.size))
            clear sz2_paM bx2_paM_0 bx2_paM_1 sz2_paX bx2_paX_0 bx2_paX_1
            go_wp2_with fail
            refine (laws_toInstance vX _).mono ?_
            rintro e w4 ⟨rfl, hb4⟩
            go_wp2_with fail
            exact freePost _ rfl ⟨hb4, upd_self⟩
          · intro V L H w3 hb3 hd
            obtain ⟨⟨hL1, hM1, hH1, a0_vM_f1, c0_vM_f1, a1_vM_f1, c1_vM_f1, hv1, ho1_⟩, ⟨hL3, hM3, hH3, hv3⟩, -⟩ := hd
            rw [hv1, hv3]
            have HV1 := Lib.hid hv1
            have HV3 := Lib.hid hv3
            clear hv1 hv3
            have sz3_paM : w.heap.size < w3.heap.size := Nat.lt_of_lt_of_le sz2_paM hb3.size
            have bx3_paM_0 : w3.cell? ⟨w.heap.size, 0, none⟩ = some (.slice a0_vM vM.fEntries.length c0_vM) := (hb3.cell (p := ⟨w.heap.size, 0, none⟩) sz2_paM).trans bx2_paM_0
            have bx3_paM_1 : w3.cell? ⟨w.heap.size, 1, none⟩ = some (.slice a1_vM vM.fEvaluated.length c1_vM) := (hb3.cell (p := ⟨w.heap.size, 1, none⟩) sz2_paM).trans bx2_paM_1
            have sz3_paX : w.heap.size + 1 < w3.heap.size := Nat.lt_of_lt_of_le sz2_paX hb3.size
            have bx3_paX_0 : w3.cell? ⟨w.heap.size + 1, 0, none⟩ = some (.int .i64 vX.fNode) := (hb3.cell (p := ⟨w.heap.size + 1, 0, none⟩) sz2_paX).trans bx2_paX_0
            have bx3_paX_1 : w3.cell? ⟨w.heap.size + 1, 1, none⟩ = some (.string vX.fName) := (hb3.cell (p := ⟨w.heap.size + 1, 1, none⟩) sz2_paX).trans bx2_paX_1
            have HB3 := Lib.hid (HB2.out.trans (hb3.mono HB2.out.size))
            clear sz2_paM bx2_paM_0 bx2_paM_1 sz2_paX bx2_paX_0 bx2_paX_1
            have HO_0_vM_f1 := Lib.hid (show Own w3 (fun y => L 1 ≤ y ∧ y < H 1) (.sl 9 vM.fEntries.length (fun k => DEntry.ct (vM.fEntries.getD k default))) (.slice a0_vM_f1 vM.fEntries.length c0_vM_f1) from OwnR.at ho1_ 0 (by decide))
            have HO_1_vM_f1 := Lib.hid (show Own w3 (fun y => L 1 ≤ y ∧ y < H 1) (.sl 2 vM.fEvaluated.length (fun k => DInstance.ct (vM.fEvaluated.getD k default))) (.slice a1_vM_f1 vM.fEvaluated.length c1_vM_f1) from OwnR.at ho1_ 1 (by decide))
            clear ho1_
            go_wp2_with fail
            refine (spec_FindEntryL (c0_0 := c0_vM_f1) (c0_1 := c1_vM_f1) vM OK_vM.out hq_vM vX OK_vX.out hq_vX _ (Below.size (by repeat (first | (with_reducible exact Below.refl _ _) | (with_reducible apply Below.drew) | (with_reducible refine below_drewN ?_ _) | (refine Below.setCell ?_ (by simp <;> omega) _) | (refine Below.alloc ?_ (by simp <;> omega) _)) : Below w3.heap.size w3 _)) ((Sl.of (HO_0_vM_f1.out.lies (lo := 0) (hi := w3.heap.size) (fun y hy => ⟨Nat.zero_le _, by have := hy.2; omega⟩))).later (by repeat (first | (with_reducible exact Below.refl _ _) | (with_reducible apply Below.drew) | (with_reducible refine below_drewN ?_ _) | (refine Below.setCell ?_ (by simp <;> omega) _) | (refine Below.alloc ?_ (by simp <;> omega) _)) : Below w3.heap.size w3 _) (Nat.le_refl _)) ((Sl.of (HO_1_vM_f1.out.lies (lo := 0) (hi := w3.heap.size) (fun y hy => ⟨Nat.zero_le _, by have := hy.2; omega⟩))).later (by repeat (first | (with_reducible exact Below.refl _ _) | (with_reducible apply Below.drew) | (with_reducible refine below_drewN ?_ _) | (refine Below.setCell ?_ (by simp <;> omega) _) | (refine Below.alloc ?_ (by simp <;> omega) _)) : Below w3.heap.size w3 _) (Nat.le_refl _))).mono ?_
            rintro e w4 ⟨a6_R_f4, c6_R_f4, a7_R_f4, c7_R_f4, a8_R_f4, c8_R_f4, rfl, ho, hb4⟩
            go_wp2_with fail
            exact freePost _ rfl ⟨hb4, Exists.intro a6_R_f4 (Exists.intro c6_R_f4 (Exists.intro a7_R_f4 (Exists.intro c7_R_f4 (Exists.intro a8_R_f4 (Exists.intro c8_R_f4 (And.intro upd_self ho))))))⟩
          · intro V L H w3 hb3 hd
            obtain ⟨⟨hL4, hM4, hH4, a6_R_f4, c6_R_f4, a7_R_f4, c7_R_f4, a8_R_f4, c8_R_f4, hv4, ho4_⟩, -⟩ := hd
            rw [hv4]
            have HV4 := Lib.hid hv4
            clear hv4
            have HB3 := Lib.hid (HB2.out.trans (hb3.mono HB2.out.size))
            clear sz2_paM bx2_paM_0 bx2_paM_1 sz2_paX bx2_paX_0 bx2_paX_1
            go_wp2_with fail
            exact freePost _ rfl ⟨Below.refl _ _, And.intro (upd_self.trans (HV4.out.symm.trans (upd_ne (by decide)).symm)) ⟨_, _, _, _, _, _, upd_self⟩⟩
          · intro V L H w3 hb3 hd
            obtain ⟨⟨hL5, hM5, hH5, hv5, a6_R_f4_5, c6_R_f4_5, a7_R_f4_5, c7_R_f4_5, a8_R_f4_5, c8_R_f4_5, hz5⟩, -⟩ := hd
            clear hv5
            rw [hz5]
            have HV5 := Lib.hid hz5
            clear hz5
            have HB3 := Lib.hid (HB2.out.trans (hb3.mono HB2.out.size))
            clear sz2_paM bx2_paM_0 bx2_paM_1 sz2_paX bx2_paX_0 bx2_paX_1
            go_wp2_with fail
            exact freePost _ rfl ⟨Below.refl _ _, And.intro (fun x0 x1 h => by cases (HV5.out.symm.trans ((upd_ne (by decide)).symm.trans h)); exact upd_self) ⟨_, _, _, _, _, _, upd_self⟩⟩
          · intro V L H w3 hb3 hd
            obtain ⟨⟨hL5, hM5, hH5, hv5, a6_R_f4_5, c6_R_f4_5, a7_R_f4_5, c7_R_f4_5, a8_R_f4_5, c8_R_f4_5, hz5⟩, -⟩ := hd
            clear hv5
            rw [hz5]
            have HV5 := Lib.hid hz5
            clear hz5
            have HB3 := Lib.hid (HB2.out.trans (hb3.mono HB2.out.size))
            clear sz2_paM bx2_paM_0 bx2_paM_1 sz2_paX bx2_paX_0 bx2_paX_1
            go_wp2_with fail
            exact freePost _ rfl ⟨Below.refl _ _, fun x0 x1 h => by cases (HV5.out.symm.trans ((upd_ne (by decide)).symm.trans h)); exact upd_self⟩
          · intro V L H w3 hb3 hd
            clear hd
            have HB3 := Lib.hid (HB2.out.trans (hb3.mono HB2.out.size))
            clear sz2_paM bx2_paM_0 bx2_paM_1 sz2_paX bx2_paX_0 bx2_paX_1
            go_wp2_with fail
            refine freePost _ rfl ⟨Below.alloc (Below.refl _ _) (Nat.le_refl _) _, upd_self, ?_, ?_, ?_, ?_, ?_, ?_, ?_, ?_, ?_, ?_, ?_, ?_, ?_, ?_, ?_, ?_, ?_, ?_, ?_⟩
            · simp
            all_goals go_simp
          · intro V L H w3 hb3 hd
            obtain ⟨⟨hL8, hM8, hH8, hv8, hlt8, hc8_0, hf8_0, hc8_1, hf8_1, hc8_2, hf8_2, hc8_3, hf8_3, hc8_4, hf8_4, hc8_5, hf8_5, hc8_6, hf8_6, hc8_7, hf8_7, hc8_8, hf8_8⟩, ⟨hL6, hM6, hH6, hv6, a6_R_f4_6, c6_R_f4_6, a7_R_f4_6, c7_R_f4_6, a8_R_f4_6, c8_R_f4_6, hz6⟩, -⟩ := hd
            clear hv6
            rw [hv8, hz6]
            have HV8 := Lib.hid hv8
            have HV6 := Lib.hid hz6
            clear hv8 hz6
            have HB3 := Lib.hid (HB2.out.trans (hb3.mono HB2.out.size))
            clear sz2_paM bx2_paM_0 bx2_paM_1 sz2_paX bx2_paX_0 bx2_paX_1
            go_wp2_with fail
            refine freePost undef rfl ⟨(Touches.put (L := L 8) (H := H 8) (Touches.put (L := L 8) (H := H 8) (Touches.put (L := L 8) (H := H 8) (Touches.put (L := L 8) (H := H 8) (Touches.put (L := L 8) (H := H 8) (Touches.put (L := L 8) (H := H 8) (Touches.put (L := L 8) (H := H 8) (Touches.put (L := L 8) (H := H 8) (Touches.put (L := L 8) (H := H 8) Touches.refl (p := ⟨L 8, 0, none⟩) ⟨Nat.le_refl _, hlt8⟩ _) (p := ⟨L 8, 1, none⟩) ⟨Nat.le_refl _, hlt8⟩ _) (p := ⟨L 8, 2, none⟩) ⟨Nat.le_refl _, hlt8⟩ _) (p := ⟨L 8, 3, none⟩) ⟨Nat.le_refl _, hlt8⟩ _) (p := ⟨L 8, 4, none⟩) ⟨Nat.le_refl _, hlt8⟩ _) (p := ⟨L 8, 5, none⟩) ⟨Nat.le_refl _, hlt8⟩ _) (p := ⟨L 8, 6, none⟩) ⟨Nat.le_refl _, hlt8⟩ _) (p := ⟨L 8, 7, none⟩) ⟨Nat.le_refl _, hlt8⟩ _) (p := ⟨L 8, 8, none⟩) ⟨Nat.le_refl _, hlt8⟩ _), fun x0 x1 x2 x3 x4 x5 x6 x7 x8 h => ?_⟩
            cases (HV6.out.symm.trans ((upd_ne (by decide)).symm.trans h))
            refine ⟨hlt8, ?_, ?_, ?_, ?_, ?_, ?_, ?_, ?_, ?_⟩
            all_goals go_simp
          · intro V L H w3 hb3 hd
            obtain ⟨⟨hL7, hM7, hH7, hv7⟩, -⟩ := hd
            clear hv7
            have HB3 := Lib.hid (HB2.out.trans (hb3.mono HB2.out.size))
            clear sz2_paM bx2_paM_0 bx2_paM_1 sz2_paX bx2_paX_0 bx2_paX_1
            go_wp2_with fail
            exact freePost _ rfl ⟨Below.refl _ _, upd_self.trans (upd_ne (by decide)).symm⟩
          · intro V L H w3 hb3 hd hap hdead
            obtain ⟨⟨hL0, hM0, hH0, hv0⟩, ⟨hL1, hM1, hH1, a0_vM_f1, c0_vM_f1, a1_vM_f1, c1_vM_f1, hv1, ho1_⟩, ⟨hL2, hM2, hH2, hv2⟩, ⟨hL3, hM3, hH3, hv3⟩, ⟨hL4, hM4, hH4, a6_R_f4, c6_R_f4, a7_R_f4, c7_R_f4, a8_R_f4, c8_R_f4, hv4, ho4_⟩, ⟨hL5, hM5, hH5, hv5, a6_R_f4_5, c6_R_f4_5, a7_R_f4_5, c7_R_f4_5, a8_R_f4_5, c8_R_f4_5, hz5⟩, ⟨hL6, hM6, hH6, hv6, a6_R_f4_6, c6_R_f4_6, a7_R_f4_6, c7_R_f4_6, a8_R_f4_6, c8_R_f4_6, hz6⟩, ⟨hL7, hM7, hH7, hv7⟩, ⟨hL9, hM9, hH9, hst9_⟩, ⟨hL10, hM10, hH10, hv10⟩, -⟩ := hd
            obtain ⟨hLe, hHe, wo, hva, -⟩ := hdead 9 8 (by decide) rfl
            have hv4' := hv4
            have hv5' := hv5.trans hv4'
            have hv6' := hv6 _ _ hv5'
            have hv7' := hv7 _ _ hv5'
            have hv10' := hv10.trans hv7'
            obtain ⟨hlt, hc0, hc1, hc2, hc3, hc4, hc5, hc6, hc7, hc8⟩ := hst9_ _ _ _ _ _ _ _ _ _ hv6'
            rw [hv0, hv2, hv4', hv5', hv6', hv7', hv10', hva, hv1, hv3]
            clear hv0 hv2 hv4' hv5' hv6' hv7' hv10' hva hv1 hv3 hv4 hv5 hv6 hv7 hv10
            have hdis := hap 9 4 (by decide) (by decide) (by decide)
            clear hap hdead
            have HLe := Lib.hid hLe
            have HHe := Lib.hid hHe
            clear hLe hHe
            go_wp2_with fail
            go_meet
            have hLe := HLe.out
            have hHe := HHe.out
            refine ⟨L 8, L 4, H 4, a6_R_f4, c6_R_f4, a7_R_f4, c7_R_f4, a8_R_f4, c8_R_f4, rfl, rfl, ?_, ?_, ?_, ?_, ?_, ?_, ?_, ?_, ?_, ho4_, ?_, ?_, ?_, ?_, ?_, hb3⟩
            · rw [← hLe]; exact hc0
            · rw [← hLe]; exact hc1
            · rw [← hLe]; exact hc2
            · rw [← hLe]; exact hc3
            · rw [← hLe]; exact hc4
            · rw [← hLe]; exact hc5
            · rw [← hLe]; exact hc6
            · rw [← hLe]; exact hc7
            · rw [← hLe]; exact hc8
            · omega
            · omega
            · omega
            · omega
            · omega
      case rest =>
        obtain ⟨bV5, lV5, hV5, a6_R_5, c6_R_5, a7_R_5, c7_R_5, a8_R_5, c8_R_5, rfl, rfl, bx5_w0_0, bx5_w0_1, bx5_w0_2, bx5_w0_3, bx5_w0_4, bx5_w0_5, bx5_w0_6, bx5_w0_7, bx5_w0_8, ho5, sz5_w0, hB5, hL5, hH5, hD5, hb5⟩ := hcut
        obtain ⟨w5, rfl⟩ : ∃ w_ : World, w_ = wc := ⟨_, rfl⟩
        have hr5 : w2.heap.size ≤ w5.heap.size := hb5.size
        have hK5 : bV5 < w5.heap.size := sz5_w0
        have sz5_paM : w.heap.size < w5.heap.size := Nat.lt_of_lt_of_le sz2_paM hb5.size
        have bx5_paM_0 : w5.cell? ⟨w.heap.size, 0, none⟩ = some (.slice a0_vM vM.fEntries.length c0_vM) := (hb5.cell (p := ⟨w.heap.size, 0, none⟩) sz2_paM).trans bx2_paM_0
        have bx5_paM_1 : w5.cell? ⟨w.heap.size, 1, none⟩ = some (.slice a1_vM vM.fEvaluated.length c1_vM) := (hb5.cell (p := ⟨w.heap.size, 1, none⟩) sz2_paM).trans bx2_paM_1
        have sz5_paX : w.heap.size + 1 < w5.heap.size := Nat.lt_of_lt_of_le sz2_paX hb5.size
        have bx5_paX_0 : w5.cell? ⟨w.heap.size + 1, 0, none⟩ = some (.int .i64 vX.fNode) := (hb5.cell (p := ⟨w.heap.size + 1, 0, none⟩) sz2_paX).trans bx2_paX_0
        have bx5_paX_1 : w5.cell? ⟨w.heap.size + 1, 1, none⟩ = some (.string vX.fName) := (hb5.cell (p := ⟨w.heap.size + 1, 1, none⟩) sz2_paX).trans bx2_paX_1
        have HO5_6_R_5 := Lib.hid (show Own w5 (fun y => lV5 ≤ y ∧ y < hV5) (.sl 1 (entE vM.fEntries vX).fIds.length (fun k => ictI ((entE vM.fEntries vX).fIds.getD k default))) (.slice a6_R_5 (entE vM.fEntries vX).fIds.length c6_R_5) from OwnR.at ho5 6 (by decide))
        have HO5_7_R_5 := Lib.hid (show Own w5 (fun y => lV5 ≤ y ∧ y < hV5) (.sl 1 (entE vM.fEntries vX).fShape.length (fun k => ictI ((entE vM.fEntries vX).fShape.getD k default))) (.slice a7_R_5 (entE vM.fEntries vX).fShape.length c7_R_5) from OwnR.at ho5 7 (by decide))
        have HO5_8_R_5 := Lib.hid (show Own w5 (fun y => lV5 ≤ y ∧ y < hV5) (.sl 4 (entE vM.fEntries vX).fReads.length (fun k => DReading.ct ((entE vM.fEntries vX).fReads.getD k default))) (.slice a8_R_5 (entE vM.fEntries vX).fReads.length c8_R_5) from OwnR.at ho5 8 (by decide))
        have HB5 := Lib.hid (HB2.out.trans (hb5.mono HB2.out.size))
        clear hb5 ho5 bx2_paM_0 bx2_paM_1 sz2_paM bx2_paX_0 bx2_paX_1 sz2_paX HB2
        go_wp2_with fail
        refine (laws_toMemo (c0 := c0_vM) (c1 := c1_vM) vM hq_vM _ (Below.size (by repeat (first | (with_reducible exact Below.refl _ _) | (with_reducible apply Below.drew) | (with_reducible refine below_drewN ?_ _) | (refine Below.setCell ?_ (by simp <;> omega) _) | (refine Below.alloc ?_ (by simp <;> omega) _)) : Below w5.heap.size w5 _)) ((HS_0_vM.out.later (HB5.out.trans ((by repeat (first | (with_reducible exact Below.refl _ _) | (with_reducible apply Below.drew) | (with_reducible refine below_drewN ?_ _) | (refine Below.setCell ?_ (by simp <;> omega) _) | (refine Below.alloc ?_ (by simp <;> omega) _)) : Below w5.heap.size w5 _).mono HB5.out.size)) (Nat.le_refl _)).mono (Nat.le_refl _) HB5.out.size) ((HS_1_vM.out.later (HB5.out.trans ((by repeat (first | (with_reducible exact Below.refl _ _) | (with_reducible apply Below.drew) | (with_reducible refine below_drewN ?_ _) | (refine Below.setCell ?_ (by simp <;> omega) _) | (refine Below.alloc ?_ (by simp <;> omega) _)) : Below w5.heap.size w5 _).mono HB5.out.size)) (Nat.le_refl _)).mono (Nat.le_refl _) HB5.out.size)).mono ?_
        rintro e w6 ⟨a0_vM_6, c0_vM_6, a1_vM_6, c1_vM_6, rfl, ho6, hb6⟩
        have hst6 : Below w5.heap.size w5 w6 := Below.trans (by repeat (first | (with_reducible exact Below.refl _ _) | (with_reducible apply Below.drew) | (with_reducible refine below_drewN ?_ _) | (refine Below.setCell ?_ (by simp <;> omega) _) | (refine Below.alloc ?_ (by simp <;> omega) _)) : Below w5.heap.size w5 _) (hb6.mono (Below.size (by repeat (first | (with_reducible exact Below.refl _ _) | (with_reducible apply Below.drew) | (with_reducible refine below_drewN ?_ _) | (refine Below.setCell ?_ (by simp <;> omega) _) | (refine Below.alloc ?_ (by simp <;> omega) _)) : Below w5.heap.size w5 _)))
        have hr6 : w5.heap.size ≤ w6.heap.size := Nat.le_trans (by first | exact Nat.le_refl _ | (simp; done) | (simp; omega) | (simp [World.setCell]; done) | (simp [World.setCell]; omega)) hb6.size
        have sz6_paM : w.heap.size < w6.heap.size := Nat.lt_of_lt_of_le sz5_paM hst6.size
        have bx6_paM_0 : w6.cell? ⟨w.heap.size, 0, none⟩ = some (.slice a0_vM vM.fEntries.length c0_vM) := (hst6.cell (p := ⟨w.heap.size, 0, none⟩) sz5_paM).trans bx5_paM_0
        have bx6_paM_1 : w6.cell? ⟨w.heap.size, 1, none⟩ = some (.slice a1_vM vM.fEvaluated.length c1_vM) := (hst6.cell (p := ⟨w.heap.size, 1, none⟩) sz5_paM).trans bx5_paM_1
        have sz6_paX : w.heap.size + 1 < w6.heap.size := Nat.lt_of_lt_of_le sz5_paX hst6.size
        have bx6_paX_0 : w6.cell? ⟨w.heap.size + 1, 0, none⟩ = some (.int .i64 vX.fNode) := (hst6.cell (p := ⟨w.heap.size + 1, 0, none⟩) sz5_paX).trans bx5_paX_0
        have bx6_paX_1 : w6.cell? ⟨w.heap.size + 1, 1, none⟩ = some (.string vX.fName) := (hst6.cell (p := ⟨w.heap.size + 1, 1, none⟩) sz5_paX).trans bx5_paX_1
        have sz6_w0 : bV5 < w6.heap.size := Nat.lt_of_lt_of_le sz5_w0 hst6.size
        have bx6_w0_0 : w6.cell? ⟨bV5, 0, none⟩ = some (.int .i64 (entE vM.fEntries vX).fAt.fNode) := (hst6.cell (p := ⟨bV5, 0, none⟩) sz5_w0).trans bx5_w0_0
        have bx6_w0_1 : w6.cell? ⟨bV5, 1, none⟩ = some (.string (entE vM.fEntries vX).fAt.fName) := (hst6.cell (p := ⟨bV5, 1, none⟩) sz5_w0).trans bx5_w0_1
        have bx6_w0_2 : w6.cell? ⟨bV5, 2, none⟩ = some (.int .i64 (entE vM.fEntries vX).fValue) := (hst6.cell (p := ⟨bV5, 2, none⟩) sz5_w0).trans bx5_w0_2
        have bx6_w0_3 : w6.cell? ⟨bV5, 3, none⟩ = some (.int .i64 (entE vM.fEntries vX).fOwner) := (hst6.cell (p := ⟨bV5, 3, none⟩) sz5_w0).trans bx5_w0_3
        have bx6_w0_4 : w6.cell? ⟨bV5, 4, none⟩ = some (.int .i64 (entE vM.fEntries vX).fLiteral) := (hst6.cell (p := ⟨bV5, 4, none⟩) sz5_w0).trans bx5_w0_4
        have bx6_w0_5 : w6.cell? ⟨bV5, 5, none⟩ = some (.string (entE vM.fEntries vX).fRule) := (hst6.cell (p := ⟨bV5, 5, none⟩) sz5_w0).trans bx5_w0_5
        have bx6_w0_6 : w6.cell? ⟨bV5, 6, none⟩ = some (.slice a6_R_5 (entE vM.fEntries vX).fIds.length c6_R_5) := (hst6.cell (p := ⟨bV5, 6, none⟩) sz5_w0).trans bx5_w0_6
        have bx6_w0_7 : w6.cell? ⟨bV5, 7, none⟩ = some (.slice a7_R_5 (entE vM.fEntries vX).fShape.length c7_R_5) := (hst6.cell (p := ⟨bV5, 7, none⟩) sz5_w0).trans bx5_w0_7
        have bx6_w0_8 : w6.cell? ⟨bV5, 8, none⟩ = some (.slice a8_R_5 (entE vM.fEntries vX).fReads.length c8_R_5) := (hst6.cell (p := ⟨bV5, 8, none⟩) sz5_w0).trans bx5_w0_8
        have HO6_6_R_5 := Lib.hid (HO5_6_R_5.out.kept (Kept.of_below_all hst6))
        have HO6_7_R_5 := Lib.hid (HO5_7_R_5.out.kept (Kept.of_below_all hst6))
        have HO6_8_R_5 := Lib.hid (HO5_8_R_5.out.kept (Kept.of_below_all hst6))
        have HR6_vM_6 := Lib.hid (OwnR.sub (F' := fun y => w5.heap.size ≤ y ∧ y < w6.heap.size) ho6 (fun y hy => ⟨Nat.le_trans (by first | exact Nat.le_refl _ | (simp; done) | (simp; omega) | (simp [World.setCell]; done) | (simp [World.setCell]; omega)) hy.1, hy.2⟩))
        have HO6_0_vM_6 := Lib.hid (show Own w6 (fun y => w5.heap.size ≤ y ∧ y < w6.heap.size) (.sl 9 vM.fEntries.length (fun k => DEntry.ct (vM.fEntries.getD k default))) (.slice a0_vM_6 vM.fEntries.length c0_vM_6) from Own.sub (F := fun y => _ ≤ y ∧ y < _) (OwnR.at ho6 0 (by decide)) (fun y hy => ⟨Nat.le_trans (by first | exact Nat.le_refl _ | (simp; done) | (simp; omega) | (simp [World.setCell]; done) | (simp [World.setCell]; omega)) hy.1, hy.2⟩))
        have HO6_1_vM_6 := Lib.hid (show Own w6 (fun y => w5.heap.size ≤ y ∧ y < w6.heap.size) (.sl 2 vM.fEvaluated.length (fun k => DInstance.ct (vM.fEvaluated.getD k default))) (.slice a1_vM_6 vM.fEvaluated.length c1_vM_6) from Own.sub (F := fun y => _ ≤ y ∧ y < _) (OwnR.at ho6 1 (by decide)) (fun y hy => ⟨Nat.le_trans (by first | exact Nat.le_refl _ | (simp; done) | (simp; omega) | (simp [World.setCell]; done) | (simp [World.setCell]; omega)) hy.1, hy.2⟩))
        have HB6 := Lib.hid (HB5.out.trans (hst6.mono HB5.out.size))
        clear bx5_paM_0 bx5_paM_1 sz5_paM bx5_paX_0 bx5_paX_1 sz5_paX bx5_w0_0 bx5_w0_1 bx5_w0_2 bx5_w0_3 bx5_w0_4 bx5_w0_5 bx5_w0_6 bx5_w0_7 bx5_w0_8 sz5_w0 HO5_6_R_5 HO5_7_R_5 HO5_8_R_5 ho6 hb6 hst6 HB5
        go_upto_region 10 with fail
        go_cut [9, 10] from 36 to 42 (fun sW tW wx => ∃ (bW lW hW : Nat) (aW0 : Option Addr) (cW0 : Nat) (aW1 : Option Addr) (cW1 : Nat) (aW2 : Option Addr) (cW2 : Nat), sW = .pointer (some ⟨bW, 0, none⟩) ∧ tW = .bool (entB vM.fEntries vX) ∧ wx.cell? ⟨bW, 0, none⟩ = some (.int .i64 (entE vM.fEntries vX).fAt.fNode) ∧ wx.cell? ⟨bW, 1, none⟩ = some (.string (entE vM.fEntries vX).fAt.fName) ∧ wx.cell? ⟨bW, 2, none⟩ = some (.int .i64 (entE vM.fEntries vX).fValue) ∧ wx.cell? ⟨bW, 3, none⟩ = some (.int .i64 (entE vM.fEntries vX).fOwner) ∧ wx.cell? ⟨bW, 4, none⟩ = some (.int .i64 (entE vM.fEntries vX).fLiteral) ∧ wx.cell? ⟨bW, 5, none⟩ = some (.string (entE vM.fEntries vX).fRule) ∧ wx.cell? ⟨bW, 6, none⟩ = some (.slice aW0 (entE vM.fEntries vX).fIds.length cW0) ∧ wx.cell? ⟨bW, 7, none⟩ = some (.slice aW1 (entE vM.fEntries vX).fShape.length cW1) ∧ wx.cell? ⟨bW, 8, none⟩ = some (.slice aW2 (entE vM.fEntries vX).fReads.length cW2) ∧ OwnR wx (fun y => lW ≤ y ∧ y < hW) 9 ((entE vM.fEntries vX)).ct (fun j => [.int .i64 (entE vM.fEntries vX).fAt.fNode, .string (entE vM.fEntries vX).fAt.fName, .int .i64 (entE vM.fEntries vX).fValue, .int .i64 (entE vM.fEntries vX).fOwner, .int .i64 (entE vM.fEntries vX).fLiteral, .string (entE vM.fEntries vX).fRule, .slice aW0 (entE vM.fEntries vX).fIds.length cW0, .slice aW1 (entE vM.fEntries vX).fShape.length cW1, .slice aW2 (entE vM.fEntries vX).fReads.length cW2].getD j .nilFunc) ∧ bW < wx.heap.size ∧ w6.heap.size + 1 ≤ bW ∧ w6.heap.size + 1 ≤ lW ∧ hW ≤ wx.heap.size ∧ (bW < lW ∨ hW ≤ bW) ∧ Below w6.heap.size w6 wx ∧ w6.heap.size < wx.heap.size ∧ wx.cell? ⟨w6.heap.size, 0, none⟩ = some (.slice a0_vM_6 vM.fEntries.length c0_vM_6) ∧ wx.cell? ⟨w6.heap.size, 1, none⟩ = some (.slice a1_vM_6 vM.fEvaluated.length c1_vM_6))
        case first =>
          refine wp_region_free [([], none), ([], none), ([1], none), ([0, 2], none), ([3], none), ([4], none), ([4], none), ([], none), ([7, 5], some 7), ([6], none)] [0, 1, 2, 3, 4, 5, 6, 8, 9] (fun jq9 V L H wx => match jq9 with | 0 => V 0 = .agg #[.slice a0_vM_6 vM.fEntries.length c0_vM_6, .slice a1_vM_6 vM.fEvaluated.length c1_vM_6] | 1 => V 1 = .agg #[.int .i64 vX.fNode, .string vX.fName] | 2 => V 2 = .agg #[.int .i64 vX.fNode, .string vX.fName] | 3 => ∃ a6_R_f3 c6_R_f3 a7_R_f3 c7_R_f3 a8_R_f3 c8_R_f3, V 3 = .tuple #[.agg #[.int .i64 (entE vM.fEntries vX).fAt.fNode, .string (entE vM.fEntries vX).fAt.fName, .int .i64 (entE vM.fEntries vX).fValue, .int .i64 (entE vM.fEntries vX).fOwner, .int .i64 (entE vM.fEntries vX).fLiteral, .string (entE vM.fEntries vX).fRule, .slice a6_R_f3 (entE vM.fEntries vX).fIds.length c6_R_f3, .slice a7_R_f3 (entE vM.fEntries vX).fShape.length c7_R_f3, .slice a8_R_f3 (entE vM.fEntries vX).fReads.length c8_R_f3], .bool (entB vM.fEntries vX)] ∧ OwnR wx (fun y => L ≤ y ∧ y < H) 9 ((entE vM.fEntries vX)).ct (fun j => [.int .i64 (entE vM.fEntries vX).fAt.fNode, .string (entE vM.fEntries vX).fAt.fName, .int .i64 (entE vM.fEntries vX).fValue, .int .i64 (entE vM.fEntries vX).fOwner, .int .i64 (entE vM.fEntries vX).fLiteral, .string (entE vM.fEntries vX).fRule, .slice a6_R_f3 (entE vM.fEntries vX).fIds.length c6_R_f3, .slice a7_R_f3 (entE vM.fEntries vX).fShape.length c7_R_f3, .slice a8_R_f3 (entE vM.fEntries vX).fReads.length c8_R_f3].getD j .nilFunc) | 4 => V 4 = V 3 ∧ ∃ a6_R_f3_4 c6_R_f3_4 a7_R_f3_4 c7_R_f3_4 a8_R_f3_4 c8_R_f3_4, V 4 = .tuple #[.agg #[.int .i64 (entE vM.fEntries vX).fAt.fNode, .string (entE vM.fEntries vX).fAt.fName, .int .i64 (entE vM.fEntries vX).fValue, .int .i64 (entE vM.fEntries vX).fOwner, .int .i64 (entE vM.fEntries vX).fLiteral, .string (entE vM.fEntries vX).fRule, .slice a6_R_f3_4 (entE vM.fEntries vX).fIds.length c6_R_f3_4, .slice a7_R_f3_4 (entE vM.fEntries vX).fShape.length c7_R_f3_4, .slice a8_R_f3_4 (entE vM.fEntries vX).fReads.length c8_R_f3_4], .bool (entB vM.fEntries vX)] | 5 => (∀ x0 x1, V 4 = .tuple #[x0, x1] → V 5 = x0) ∧ ∃ a6_R_f3_5 c6_R_f3_5 a7_R_f3_5 c7_R_f3_5 a8_R_f3_5 c8_R_f3_5, V 5 = .agg #[.int .i64 (entE vM.fEntries vX).fAt.fNode, .string (entE vM.fEntries vX).fAt.fName, .int .i64 (entE vM.fEntries vX).fValue, .int .i64 (entE vM.fEntries vX).fOwner, .int .i64 (entE vM.fEntries vX).fLiteral, .string (entE vM.fEntries vX).fRule, .slice a6_R_f3_5 (entE vM.fEntries vX).fIds.length c6_R_f3_5, .slice a7_R_f3_5 (entE vM.fEntries vX).fShape.length c7_R_f3_5, .slice a8_R_f3_5 (entE vM.fEntries vX).fReads.length c8_R_f3_5] | 6 => (∀ x0 x1, V 4 = .tuple #[x0, x1] → V 6 = x1) | 7 => V 7 = .pointer (some ⟨L, 0, none⟩) ∧ L < H ∧ wx.cell? ⟨L, 0, none⟩ = some (.int .i64 0) ∧ wx.frozen? ⟨L, 0, none⟩ = false ∧ wx.cell? ⟨L, 1, none⟩ = some (.string ⟨#[]⟩) ∧ wx.frozen? ⟨L, 1, none⟩ = false ∧ wx.cell? ⟨L, 2, none⟩ = some (.int .i64 0) ∧ wx.frozen? ⟨L, 2, none⟩ = false ∧ wx.cell? ⟨L, 3, none⟩ = some (.int .i64 0) ∧ wx.frozen? ⟨L, 3, none⟩ = false ∧ wx.cell? ⟨L, 4, none⟩ = some (.int .i64 0) ∧ wx.frozen? ⟨L, 4, none⟩ = false ∧ wx.cell? ⟨L, 5, none⟩ = some (.string ⟨#[]⟩) ∧ wx.frozen? ⟨L, 5, none⟩ = false ∧ wx.cell? ⟨L, 6, none⟩ = some (.slice none 0 0) ∧ wx.frozen? ⟨L, 6, none⟩ = false ∧ wx.cell? ⟨L, 7, none⟩ = some (.slice none 0 0) ∧ wx.frozen? ⟨L, 7, none⟩ = false ∧ wx.cell? ⟨L, 8, none⟩ = some (.slice none 0 0) ∧ wx.frozen? ⟨L, 8, none⟩ = false | 8 => ∀ x0 x1 x2 x3 x4 x5 x6 x7 x8, V 5 = .agg #[x0, x1, x2, x3, x4, x5, x6, x7, x8] → L < H ∧ wx.cell? ⟨L, 0, none⟩ = some x0 ∧ wx.cell? ⟨L, 1, none⟩ = some x1 ∧ wx.cell? ⟨L, 2, none⟩ = some x2 ∧ wx.cell? ⟨L, 3, none⟩ = some x3 ∧ wx.cell? ⟨L, 4, none⟩ = some x4 ∧ wx.cell? ⟨L, 5, none⟩ = some x5 ∧ wx.cell? ⟨L, 6, none⟩ = some x6 ∧ wx.cell? ⟨L, 7, none⟩ = some x7 ∧ wx.cell? ⟨L, 8, none⟩ = some x8 | 9 => V 9 = V 6 | _ => True) (by kernel_rfl) (by kernel_rfl) ?loc ?lasts ?walk
          case loc =>
            intro k V V' L H wx h0 h1 hG
            match k with
            | 0 =>
              try dsimp only at hG ⊢
              rw [← h0]
              exact hG
            | 1 =>
              try dsimp only at hG ⊢
              rw [← h0]
              exact hG
            | 2 =>
              have e1 := h1 1 (by decide)
              try dsimp only at hG ⊢
              rw [← h0]
              exact hG
            | 3 =>
              have e0 := h1 0 (by decide)
              have e2 := h1 2 (by decide)
              try dsimp only at hG ⊢
              rw [← h0]
              exact hG
            | 4 =>
              have e3 := h1 3 (by decide)
              try dsimp only at hG ⊢
              rw [← h0, ← e3]
              exact hG
            | 5 =>
              have e4 := h1 4 (by decide)
              try dsimp only at hG ⊢
              rw [← h0, ← e4]
              exact hG
            | 6 =>
              have e4 := h1 4 (by decide)
              try dsimp only at hG ⊢
              rw [← h0, ← e4]
              exact hG
            | 7 =>
              try dsimp only at hG ⊢
              rw [← h0]
              exact hG
            | 8 =>
              have e7 := h1 7 (by decide)
              have e5 := h1 5 (by decide)
              try dsimp only at hG ⊢
              rw [← e5]
              exact hG
            | 9 =>
              have e6 := h1 6 (by decide)
              try dsimp only at hG ⊢
              rw [← h0, ← e6]
              exact hG
            | n + 10 => trivial
          case lasts =>
            intro i hi V L H wx wy hB hH hk
            match i, hi with
            | 0, _ => exact fun h => h
            | 1, _ => exact fun h => h
            | 2, _ => exact fun h => h
            | 3, _ => exact fun ⟨a6_R_f3, c6_R_f3, a7_R_f3, c7_R_f3, a8_R_f3, c8_R_f3, hv, ho⟩ => ⟨a6_R_f3, c6_R_f3, a7_R_f3, c7_R_f3, a8_R_f3, c8_R_f3, hv, ho.kept (hk.sub fun x hx => .inr hx)⟩
            | 4, _ => exact fun h => h
            | 5, _ => exact fun h => h
            | 6, _ => exact fun h => h
            | 7, _ => exact fun ⟨hv, hl, hc0, hf0, hc1, hf1, hc2, hf2, hc3, hf3, hc4, hf4, hc5, hf5, hc6, hf6, hc7, hf7, hc8, hf8⟩ => ⟨hv, hl, (hk.cell (p := ⟨L, 0, none⟩) (.inr ⟨Nat.le_refl _, hl⟩) (Nat.lt_of_lt_of_le hl hH)).trans hc0, (hk.frozen (p := ⟨L, 0, none⟩) (.inr ⟨Nat.le_refl _, hl⟩) (Nat.lt_of_lt_of_le hl hH)).trans hf0, (hk.cell (p := ⟨L, 1, none⟩) (.inr ⟨Nat.le_refl _, hl⟩) (Nat.lt_of_lt_of_le hl hH)).trans hc1, (hk.frozen (p := ⟨L, 1, none⟩) (.inr ⟨Nat.le_refl _, hl⟩) (Nat.lt_of_lt_of_le hl hH)).trans hf1, (hk.cell (p := ⟨L, 2, none⟩) (.inr ⟨Nat.le_refl _, hl⟩) (Nat.lt_of_lt_of_le hl hH)).trans hc2, (hk.frozen (p := ⟨L, 2, none⟩) (.inr ⟨Nat.le_refl _, hl⟩) (Nat.lt_of_lt_of_le hl hH)).trans hf2, (hk.cell (p := ⟨L, 3, none⟩) (.inr ⟨Nat.le_refl _, hl⟩) (Nat.lt_of_lt_of_le hl hH)).trans hc3, (hk.frozen (p := ⟨L, 3, none⟩) (.inr ⟨Nat.le_refl _, hl⟩) (Nat.lt_of_lt_of_le hl hH)).trans hf3, (hk.cell (p := ⟨L, 4, none⟩) (.inr ⟨Nat.le_refl _, hl⟩) (Nat.lt_of_lt_of_le hl hH)).trans hc4, (hk.frozen (p := ⟨L, 4, none⟩) (.inr ⟨Nat.le_refl _, hl⟩) (Nat.lt_of_lt_of_le hl hH)).trans hf4, (hk.cell (p := ⟨L, 5, none⟩) (.inr ⟨Nat.le_refl _, hl⟩) (Nat.lt_of_lt_of_le hl hH)).trans hc5, (hk.frozen (p := ⟨L, 5, none⟩) (.inr ⟨Nat.le_refl _, hl⟩) (Nat.lt_of_lt_of_le hl hH)).trans hf5, (hk.cell (p := ⟨L, 6, none⟩) (.inr ⟨Nat.le_refl _, hl⟩) (Nat.lt_of_lt_of_le hl hH)).trans hc6, (hk.frozen (p := ⟨L, 6, none⟩) (.inr ⟨Nat.le_refl _, hl⟩) (Nat.lt_of_lt_of_le hl hH)).trans hf6, (hk.cell (p := ⟨L, 7, none⟩) (.inr ⟨Nat.le_refl _, hl⟩) (Nat.lt_of_lt_of_le hl hH)).trans hc7, (hk.frozen (p := ⟨L, 7, none⟩) (.inr ⟨Nat.le_refl _, hl⟩) (Nat.lt_of_lt_of_le hl hH)).trans hf7, (hk.cell (p := ⟨L, 8, none⟩) (.inr ⟨Nat.le_refl _, hl⟩) (Nat.lt_of_lt_of_le hl hH)).trans hc8, (hk.frozen (p := ⟨L, 8, none⟩) (.inr ⟨Nat.le_refl _, hl⟩) (Nat.lt_of_lt_of_le hl hH)).trans hf8⟩
            | 8, _ => exact fun h x0 x1 x2 x3 x4 x5 x6 x7 x8 hv => ⟨(h x0 x1 x2 x3 x4 x5 x6 x7 x8 hv).1, (hk.cell (p := ⟨L, 0, none⟩) (.inr ⟨Nat.le_refl _, (h x0 x1 x2 x3 x4 x5 x6 x7 x8 hv).1⟩) (Nat.lt_of_lt_of_le (h x0 x1 x2 x3 x4 x5 x6 x7 x8 hv).1 hH)).trans (h x0 x1 x2 x3 x4 x5 x6 x7 x8 hv).2.1, (hk.cell (p := ⟨L, 1, none⟩) (.inr ⟨Nat.le_refl _, (h x0 x1 x2 x3 x4 x5 x6 x7 x8 hv).1⟩) (Nat.lt_of_lt_of_le (h x0 x1 x2 x3 x4 x5 x6 x7 x8 hv).1 hH)).trans (h x0 x1 x2 x3 x4 x5 x6 x7 x8 hv).2.2.1, (hk.cell (p := ⟨L, 2, none⟩) (.inr ⟨Nat.le_refl _, (h x0 x1 x2 x3 x4 x5 x6 x7 x8 hv).1⟩) (Nat.lt_of_lt_of_le (h x0 x1 x2 x3 x4 x5 x6 x7 x8 hv).1 hH)).trans (h x0 x1 x2 x3 x4 x5 x6 x7 x8 hv).2.2.2.1, (hk.cell (p := ⟨L, 3, none⟩) (.inr ⟨Nat.le_refl _, (h x0 x1 x2 x3 x4 x5 x6 x7 x8 hv).1⟩) (Nat.lt_of_lt_of_le (h x0 x1 x2 x3 x4 x5 x6 x7 x8 hv).1 hH)).trans (h x0 x1 x2 x3 x4 x5 x6 x7 x8 hv).2.2.2.2.1, (hk.cell (p := ⟨L, 4, none⟩) (.inr ⟨Nat.le_refl _, (h x0 x1 x2 x3 x4 x5 x6 x7 x8 hv).1⟩) (Nat.lt_of_lt_of_le (h x0 x1 x2 x3 x4 x5 x6 x7 x8 hv).1 hH)).trans (h x0 x1 x2 x3 x4 x5 x6 x7 x8 hv).2.2.2.2.2.1, (hk.cell (p := ⟨L, 5, none⟩) (.inr ⟨Nat.le_refl _, (h x0 x1 x2 x3 x4 x5 x6 x7 x8 hv).1⟩) (Nat.lt_of_lt_of_le (h x0 x1 x2 x3 x4 x5 x6 x7 x8 hv).1 hH)).trans (h x0 x1 x2 x3 x4 x5 x6 x7 x8 hv).2.2.2.2.2.2.1, (hk.cell (p := ⟨L, 6, none⟩) (.inr ⟨Nat.le_refl _, (h x0 x1 x2 x3 x4 x5 x6 x7 x8 hv).1⟩) (Nat.lt_of_lt_of_le (h x0 x1 x2 x3 x4 x5 x6 x7 x8 hv).1 hH)).trans (h x0 x1 x2 x3 x4 x5 x6 x7 x8 hv).2.2.2.2.2.2.2.1, (hk.cell (p := ⟨L, 7, none⟩) (.inr ⟨Nat.le_refl _, (h x0 x1 x2 x3 x4 x5 x6 x7 x8 hv).1⟩) (Nat.lt_of_lt_of_le (h x0 x1 x2 x3 x4 x5 x6 x7 x8 hv).1 hH)).trans (h x0 x1 x2 x3 x4 x5 x6 x7 x8 hv).2.2.2.2.2.2.2.2.1, (hk.cell (p := ⟨L, 8, none⟩) (.inr ⟨Nat.le_refl _, (h x0 x1 x2 x3 x4 x5 x6 x7 x8 hv).1⟩) (Nat.lt_of_lt_of_le (h x0 x1 x2 x3 x4 x5 x6 x7 x8 hv).1 hH)).trans (h x0 x1 x2 x3 x4 x5 x6 x7 x8 hv).2.2.2.2.2.2.2.2.2⟩
            | 9, _ => exact fun h => h
            | n + 10, hn => exact absurd hn (by simp)
          case walk =>
            simp only [free, Nat.reduceAdd, Act.put, List.setIfInBounds_toArray, List.set_cons_succ, List.set_cons_zero]
            refine ⟨?_, ?_, ?_, ?_, ?_, ?_, ?_, ?_, ?_, ?_, ?_⟩
            · intro V L H w7 hb7 hd
              clear hd
              have hst7 : Below w6.heap.size w6 w7 := Below.trans (by repeat (first | (with_reducible exact Below.refl _ _) | (with_reducible apply Below.drew) | (with_reducible refine below_drewN ?_ _) | (refine Below.setCell ?_ (by simp <;> omega) _) | (refine Below.alloc ?_ (by simp <;> omega) _)) : Below w6.heap.size w6 _) (hb7.mono (Below.size (by repeat (first | (with_reducible exact Below.refl _ _) | (with_reducible apply Below.drew) | (with_reducible refine below_drewN ?_ _) | (refine Below.setCell ?_ (by simp <;> omega) _) | (refine Below.alloc ?_ (by simp <;> omega) _)) : Below w6.heap.size w6 _)))
              have sz7_paM : w.heap.size < w7.heap.size := Nat.lt_of_lt_of_le sz6_paM hst7.size
              have bx7_paM_0 : w7.cell? ⟨w.heap.size, 0, none⟩ = some (.slice a0_vM vM.fEntries.length c0_vM) := (hst7.cell (p := ⟨w.heap.size, 0, none⟩) sz6_paM).trans bx6_paM_0
              have bx7_paM_1 : w7.cell? ⟨w.heap.size, 1, none⟩ = some (.slice a1_vM vM.fEvaluated.length c1_vM) := (hst7.cell (p := ⟨w.heap.size, 1, none⟩) sz6_paM).trans bx6_paM_1
              have sz7_paX : w.heap.size + 1 < w7.heap.size := Nat.lt_of_lt_of_le sz6_paX hst7.size
              have bx7_paX_0 : w7.cell? ⟨w.heap.size + 1, 0, none⟩ = some (.int .i64 vX.fNode) := (hst7.cell (p := ⟨w.heap.size + 1, 0, none⟩) sz6_paX).trans bx6_paX_0
              have bx7_paX_1 : w7.cell? ⟨w.heap.size + 1, 1, none⟩ = some (.string vX.fName) := (hst7.cell (p := ⟨w.heap.size + 1, 1, none⟩) sz6_paX).trans bx6_paX_1
              have sz7_w0 : bV5 < w7.heap.size := Nat.lt_of_lt_of_le sz6_w0 hst7.size
              have bx7_w0_0 : w7.cell? ⟨bV5, 0, none⟩ = some (.int .i64 (entE vM.fEntries vX).fAt.fNode) := (hst7.cell (p := ⟨bV5, 0, none⟩) sz6_w0).trans bx6_w0_0
              have bx7_w0_1 : w7.cell? ⟨bV5, 1, none⟩ = some (.string (entE vM.fEntries vX).fAt.fName) := (hst7.cell (p := ⟨bV5, 1, none⟩) sz6_w0).trans bx6_w0_1
              have bx7_w0_2 : w7.cell? ⟨bV5, 2, none⟩ = some (.int .i64 (entE vM.fEntries vX).fValue) := (hst7.cell (p := ⟨bV5, 2, none⟩) sz6_w0).trans bx6_w0_2
              have bx7_w0_3 : w7.cell? ⟨bV5, 3, none⟩ = some (.int .i64 (entE vM.fEntries vX).fOwner) := (hst7.cell (p := ⟨bV5, 3, none⟩) sz6_w0).trans bx6_w0_3
              have bx7_w0_4 : w7.cell? ⟨bV5, 4, none⟩ = some (.int .i64 (entE vM.fEntries vX).fLiteral) := (hst7.cell (p := ⟨bV5, 4, none⟩) sz6_w0).trans bx6_w0_4
              have bx7_w0_5 : w7.cell? ⟨bV5, 5, none⟩ = some (.string (entE vM.fEntries vX).fRule) := (hst7.cell (p := ⟨bV5, 5, none⟩) sz6_w0).trans bx6_w0_5
              have bx7_w0_6 : w7.cell? ⟨bV5, 6, none⟩ = some (.slice a6_R_5 (entE vM.fEntries vX).fIds.length c6_R_5) := (hst7.cell (p := ⟨bV5, 6, none⟩) sz6_w0).trans bx6_w0_6
              have bx7_w0_7 : w7.cell? ⟨bV5, 7, none⟩ = some (.slice a7_R_5 (entE vM.fEntries vX).fShape.length c7_R_5) := (hst7.cell (p := ⟨bV5, 7, none⟩) sz6_w0).trans bx6_w0_7
              have bx7_w0_8 : w7.cell? ⟨bV5, 8, none⟩ = some (.slice a8_R_5 (entE vM.fEntries vX).fReads.length c8_R_5) := (hst7.cell (p := ⟨bV5, 8, none⟩) sz6_w0).trans bx6_w0_8
              have sz7_x0 : w6.heap.size < w7.heap.size := Nat.lt_of_lt_of_le (by first | omega | (simp; done) | (simp; omega) | (simp [World.setCell]; omega)) hb7.size
              have bx7_x0_0 : w7.cell? ⟨w6.heap.size, 0, none⟩ = some (.slice a0_vM_6 vM.fEntries.length c0_vM_6) := (hb7.cell (p := ⟨w6.heap.size, 0, none⟩) (by first | omega | (simp; done) | (simp; omega) | (simp [World.setCell]; omega))).trans (by go_simp)
              have bx7_x0_1 : w7.cell? ⟨w6.heap.size, 1, none⟩ = some (.slice a1_vM_6 vM.fEvaluated.length c1_vM_6) := (hb7.cell (p := ⟨w6.heap.size, 1, none⟩) (by first | omega | (simp; done) | (simp; omega) | (simp [World.setCell]; omega))).trans (by go_simp)
              have HO7_6_R_5 := Lib.hid (HO6_6_R_5.out.kept (Kept.of_below_all hst7))
              have HO7_7_R_5 := Lib.hid (HO6_7_R_5.out.kept (Kept.of_below_all hst7))
              have HO7_8_R_5 := Lib.hid (HO6_8_R_5.out.kept (Kept.of_below_all hst7))
              have HO7_0_vM_6 := Lib.hid (HO6_0_vM_6.out.kept (Kept.of_below_all hst7))
              have HO7_1_vM_6 := Lib.hid (HO6_1_vM_6.out.kept (Kept.of_below_all hst7))
              have HB7 := Lib.hid (HB6.out.trans (hst7.mono HB6.out.size))
              clear sz6_paM bx6_paM_0 bx6_paM_1 sz6_paX bx6_paX_0 bx6_paX_1 sz6_w0 bx6_w0_0 bx6_w0_1 bx6_w0_2 bx6_w0_3 bx6_w0_4 bx6_w0_5 bx6_w0_6 bx6_w0_7 bx6_w0_8
              go_wp2_with fail
              exact freePost _ rfl ⟨Below.refl _ _, upd_self⟩
            · intro V L H w7 hb7 hd
              clear hd
              have hst7 : Below w6.heap.size w6 w7 := Below.trans (by repeat (first | (with_reducible exact Below.refl _ _) | (with_reducible apply Below.drew) | (with_reducible refine below_drewN ?_ _) | (refine Below.setCell ?_ (by simp <;> omega) _) | (refine Below.alloc ?_ (by simp <;> omega) _)) : Below w6.heap.size w6 _) (hb7.mono (Below.size (by repeat (first | (with_reducible exact Below.refl _ _) | (with_reducible apply Below.drew) | (with_reducible refine below_drewN ?_ _) | (refine Below.setCell ?_ (by simp <;> omega) _) | (refine Below.alloc ?_ (by simp <;> omega) _)) : Below w6.heap.size w6 _)))
              have sz7_paM : w.heap.size < w7.heap.size := Nat.lt_of_lt_of_le sz6_paM hst7.size
              have bx7_paM_0 : w7.cell? ⟨w.heap.size, 0, none⟩ = some (.slice a0_vM vM.fEntries.length c0_vM) := (hst7.cell (p := ⟨w.heap.size, 0, none⟩) sz6_paM).trans bx6_paM_0
              have bx7_paM_1 : w7.cell? ⟨w.heap.size, 1, none⟩ = some (.slice a1_vM vM.fEvaluated.length c1_vM) := (hst7.cell (p := ⟨w.heap.size, 1, none⟩) sz6_paM).trans bx6_paM_1
              have sz7_paX : w.heap.size + 1 < w7.heap.size := Nat.lt_of_lt_of_le sz6_paX hst7.size
              have bx7_paX_0 : w7.cell? ⟨w.heap.size + 1, 0, none⟩ = some (.int .i64 vX.fNode) := (hst7.cell (p := ⟨w.heap.size + 1, 0, none⟩) sz6_paX).trans bx6_paX_0
              have bx7_paX_1 : w7.cell? ⟨w.heap.size + 1, 1, none⟩ = some (.string vX.fName) := (hst7.cell (p := ⟨w.heap.size + 1, 1, none⟩) sz6_paX).trans bx6_paX_1
              have sz7_w0 : bV5 < w7.heap.size := Nat.lt_of_lt_of_le sz6_w0 hst7.size
              have bx7_w0_0 : w7.cell? ⟨bV5, 0, none⟩ = some (.int .i64 (entE vM.fEntries vX).fAt.fNode) := (hst7.cell (p := ⟨bV5, 0, none⟩) sz6_w0).trans bx6_w0_0
              have bx7_w0_1 : w7.cell? ⟨bV5, 1, none⟩ = some (.string (entE vM.fEntries vX).fAt.fName) := (hst7.cell (p := ⟨bV5, 1, none⟩) sz6_w0).trans bx6_w0_1
              have bx7_w0_2 : w7.cell? ⟨bV5, 2, none⟩ = some (.int .i64 (entE vM.fEntries vX).fValue) := (hst7.cell (p := ⟨bV5, 2, none⟩) sz6_w0).trans bx6_w0_2
              have bx7_w0_3 : w7.cell? ⟨bV5, 3, none⟩ = some (.int .i64 (entE vM.fEntries vX).fOwner) := (hst7.cell (p := ⟨bV5, 3, none⟩) sz6_w0).trans bx6_w0_3
              have bx7_w0_4 : w7.cell? ⟨bV5, 4, none⟩ = some (.int .i64 (entE vM.fEntries vX).fLiteral) := (hst7.cell (p := ⟨bV5, 4, none⟩) sz6_w0).trans bx6_w0_4
              have bx7_w0_5 : w7.cell? ⟨bV5, 5, none⟩ = some (.string (entE vM.fEntries vX).fRule) := (hst7.cell (p := ⟨bV5, 5, none⟩) sz6_w0).trans bx6_w0_5
              have bx7_w0_6 : w7.cell? ⟨bV5, 6, none⟩ = some (.slice a6_R_5 (entE vM.fEntries vX).fIds.length c6_R_5) := (hst7.cell (p := ⟨bV5, 6, none⟩) sz6_w0).trans bx6_w0_6
              have bx7_w0_7 : w7.cell? ⟨bV5, 7, none⟩ = some (.slice a7_R_5 (entE vM.fEntries vX).fShape.length c7_R_5) := (hst7.cell (p := ⟨bV5, 7, none⟩) sz6_w0).trans bx6_w0_7
              have bx7_w0_8 : w7.cell? ⟨bV5, 8, none⟩ = some (.slice a8_R_5 (entE vM.fEntries vX).fReads.length c8_R_5) := (hst7.cell (p := ⟨bV5, 8, none⟩) sz6_w0).trans bx6_w0_8
              have sz7_x0 : w6.heap.size < w7.heap.size := Nat.lt_of_lt_of_le (by first | omega | (simp; done) | (simp; omega) | (simp [World.setCell]; omega)) hb7.size
              have bx7_x0_0 : w7.cell? ⟨w6.heap.size, 0, none⟩ = some (.slice a0_vM_6 vM.fEntries.length c0_vM_6) := (hb7.cell (p := ⟨w6.heap.size, 0, none⟩) (by first | omega | (simp; done) | (simp; omega) | (simp [World.setCell]; omega))).trans (by go_simp)
              have bx7_x0_1 : w7.cell? ⟨w6.heap.size, 1, none⟩ = some (.slice a1_vM_6 vM.fEvaluated.length c1_vM_6) := (hb7.cell (p := ⟨w6.heap.size, 1, none⟩) (by first | omega | (simp; done) | (simp; omega) | (simp [World.setCell]; omega))).trans (by go_simp)
              have HO7_6_R_5 := Lib.hid (HO6_6_R_5.out.kept (Kept.of_below_all hst7))
              have HO7_7_R_5 := Lib.hid (HO6_7_R_5.out.kept (Kept.of_below_all hst7))
              have HO7_8_R_5 := Lib.hid (HO6_8_R_5.out.kept (Kept.of_below_all hst7))
              have HO7_0_vM_6 := Lib.hid (HO6_0_vM_6.out.kept (Kept.of_below_all hst7))
              have HO7_1_vM_6 := Lib.hid (HO6_1_vM_6.out.kept (Kept.of_below_all hst7))
              have HB7 := Lib.hid (HB6.out.trans (hst7.mono HB6.out.size))
              clear sz6_paM bx6_paM_0 bx6_paM_1 sz6_paX bx6_paX_0 bx6_paX_1 sz6_w0 bx6_w0_0 bx6_w0_1 bx6_w0_2 bx6_w0_3 bx6_w0_4 bx6_w0_5 bx6_w0_6 bx6_w0_7 bx6_w0_8
              go_wp2_with fail
              exact freePost _ rfl ⟨Below.refl _ _, upd_self⟩
            · intro V L H w7 hb7 hd
              obtain ⟨⟨hL1, hM1, hH1, hv1⟩, -⟩ := hd
              rw [hv1]
              have HV1 := Lib.hid hv1
              clear hv1
              have hst7 : Below w6.heap.size w6 w7 := Below.trans (by repeat (first | (with_reducible exact Below.refl _ _) | (with_reducible apply Below.drew) | (with_reducible refine below_drewN ?_ _) | (refine Below.setCell ?_ (by simp <;> omega) _) | (refine Below.alloc ?_ (by simp <;> omega) _)) : Below w6.heap.size w6 _) (hb7.mono (Below.size (by repeat (first | (with_reducible exact Below.refl _ _) | (with_reducible apply Below.drew) | (with_reducible refine below_drewN ?_ _) | (refine Below.setCell ?_ (by simp <;> omega) _) | (refine Below.alloc ?_ (by simp <;> omega) _)) : Below w6.heap.size w6 _)))
              have sz7_paM : w.heap.size < w7.heap.size := Nat.lt_of_lt_of_le sz6_paM hst7.size
              have bx7_paM_0 : w7.cell? ⟨w.heap.size, 0, none⟩ = some (.slice a0_vM vM.fEntries.length c0_vM) := (hst7.cell (p := ⟨w.heap.size, 0, none⟩) sz6_paM).trans bx6_paM_0
              have bx7_paM_1 : w7.cell? ⟨w.heap.size, 1, none⟩ = some (.slice a1_vM vM.fEvaluated.length c1_vM) := (hst7.cell (p := ⟨w.heap.size, 1, none⟩) sz6_paM).trans bx6_paM_1
              have sz7_paX : w.heap.size + 1 < w7.heap.size := Nat.lt_of_lt_of_le sz6_paX hst7.size
              have bx7_paX_0 : w7.cell? ⟨w.heap.size + 1, 0, none⟩ = some (.int .i64 vX.fNode) := (hst7.cell (p := ⟨w.heap.size + 1, 0, none⟩) sz6_paX).trans bx6_paX_0
              have bx7_paX_1 : w7.cell? ⟨w.heap.size + 1, 1, none⟩ = some (.string vX.fName) := (hst7.cell (p := ⟨w.heap.size + 1, 1, none⟩) sz6_paX).trans bx6_paX_1
              have sz7_w0 : bV5 < w7.heap.size := Nat.lt_of_lt_of_le sz6_w0 hst7.size
              have bx7_w0_0 : w7.cell? ⟨bV5, 0, none⟩ = some (.int .i64 (entE vM.fEntries vX).fAt.fNode) := (hst7.cell (p := ⟨bV5, 0, none⟩) sz6_w0).trans bx6_w0_0
              have bx7_w0_1 : w7.cell? ⟨bV5, 1, none⟩ = some (.string (entE vM.fEntries vX).fAt.fName) := (hst7.cell (p := ⟨bV5, 1, none⟩) sz6_w0).trans bx6_w0_1
              have bx7_w0_2 : w7.cell? ⟨bV5, 2, none⟩ = some (.int .i64 (entE vM.fEntries vX).fValue) := (hst7.cell (p := ⟨bV5, 2, none⟩) sz6_w0).trans bx6_w0_2
              have bx7_w0_3 : w7.cell? ⟨bV5, 3, none⟩ = some (.int .i64 (entE vM.fEntries vX).fOwner) := (hst7.cell (p := ⟨bV5, 3, none⟩) sz6_w0).trans bx6_w0_3
              have bx7_w0_4 : w7.cell? ⟨bV5, 4, none⟩ = some (.int .i64 (entE vM.fEntries vX).fLiteral) := (hst7.cell (p := ⟨bV5, 4, none⟩) sz6_w0).trans bx6_w0_4
              have bx7_w0_5 : w7.cell? ⟨bV5, 5, none⟩ = some (.string (entE vM.fEntries vX).fRule) := (hst7.cell (p := ⟨bV5, 5, none⟩) sz6_w0).trans bx6_w0_5
              have bx7_w0_6 : w7.cell? ⟨bV5, 6, none⟩ = some (.slice a6_R_5 (entE vM.fEntries vX).fIds.length c6_R_5) := (hst7.cell (p := ⟨bV5, 6, none⟩) sz6_w0).trans bx6_w0_6
              have bx7_w0_7 : w7.cell? ⟨bV5, 7, none⟩ = some (.slice a7_R_5 (entE vM.fEntries vX).fShape.length c7_R_5) := (hst7.cell (p := ⟨bV5, 7, none⟩) sz6_w0).trans bx6_w0_7
              have bx7_w0_8 : w7.cell? ⟨bV5, 8, none⟩ = some (.slice a8_R_5 (entE vM.fEntries vX).fReads.length c8_R_5) := (hst7.cell (p := ⟨bV5, 8, none⟩) sz6_w0).trans bx6_w0_8
              have sz7_x0 : w6.heap.size < w7.heap.size := Nat.lt_of_lt_of_le (by first | omega | (simp; done) | (simp; omega) | (simp [World.setCell]; omega)) hb7.size
              have bx7_x0_0 : w7.cell? ⟨w6.heap.size, 0, none⟩ = some (.slice a0_vM_6 vM.fEntries.length c0_vM_6) := (hb7.cell (p := ⟨w6.heap.size, 0, none⟩) (by first | omega | (simp; done) | (simp; omega) | (simp [World.setCell]; omega))).trans (by go_simp)
              have bx7_x0_1 : w7.cell? ⟨w6.heap.size, 1, none⟩ = some (.slice a1_vM_6 vM.fEvaluated.length c1_vM_6) := (hb7.cell (p := ⟨w6.heap.size, 1, none⟩) (by first | omega | (simp; done) | (simp; omega) | (simp [World.setCell]; omega))).trans (by go_simp)
              have HO7_6_R_5 := Lib.hid (HO6_6_R_5.out.kept (Kept.of_below_all hst7))
              have HO7_7_R_5 := Lib.hid (HO6_7_R_5.out.kept (Kept.of_below_all hst7))
              have HO7_8_R_5 := Lib.hid (HO6_8_R_5.out.kept (Kept.of_below_all hst7))
              have HO7_0_vM_6 := Lib.hid (HO6_0_vM_6.out.kept (Kept.of_below_all hst7))
              have HO7_1_vM_6 := Lib.hid (HO6_1_vM_6.out.kept (Kept.of_below_all hst7))
              have HB7 := Lib.hid (HB6.out.trans (hst7.mono HB6.out.size))
              clear sz6_paM bx6_paM_0 bx6_paM_1 sz6_paX bx6_paX_0 bx6_paX_1 sz6_w0 bx6_w0_0 bx6_w0_1 bx6_w0_2 bx6_w0_3 bx6_w0_4 bx6_w0_5 bx6_w0_6 bx6_w0_7 bx6_w0_8
              go_wp2_with fail
              refine (laws_toInstance vX _).mono ?_
              rintro e w8 ⟨rfl, hb8⟩
              go_wp2_with fail
              exact freePost _ rfl ⟨hb8, upd_self⟩
            · intro V L H w7 hb7 hd
              obtain ⟨⟨hL0, hM0, hH0, hv0⟩, ⟨hL2, hM2, hH2, hv2⟩, -⟩ := hd
              rw [hv0, hv2]
              have HV0 := Lib.hid hv0
              have HV2 := Lib.hid hv2
              clear hv0 hv2
              have hst7 : Below w6.heap.size w6 w7 := Below.trans (by repeat (first | (with_reducible exact Below.refl _ _) | (with_reducible apply Below.drew) | (with_reducible refine below_drewN ?_ _) | (refine Below.setCell ?_ (by simp <;> omega) _) | (refine Below.alloc ?_ (by simp <;> omega) _)) : Below w6.heap.size w6 _) (hb7.mono (Below.size (by repeat (first | (with_reducible exact Below.refl _ _) | (with_reducible apply Below.drew) | (with_reducible refine below_drewN ?_ _) | (refine Below.setCell ?_ (by simp <;> omega) _) | (refine Below.alloc ?_ (by simp <;> omega) _)) : Below w6.heap.size w6 _)))
              have sz7_paM : w.heap.size < w7.heap.size := Nat.lt_of_lt_of_le sz6_paM hst7.size
              have bx7_paM_0 : w7.cell? ⟨w.heap.size, 0, none⟩ = some (.slice a0_vM vM.fEntries.length c0_vM) := (hst7.cell (p := ⟨w.heap.size, 0, none⟩) sz6_paM).trans bx6_paM_0
              have bx7_paM_1 : w7.cell? ⟨w.heap.size, 1, none⟩ = some (.slice a1_vM vM.fEvaluated.length c1_vM) := (hst7.cell (p := ⟨w.heap.size, 1, none⟩) sz6_paM).trans bx6_paM_1
              have sz7_paX : w.heap.size + 1 < w7.heap.size := Nat.lt_of_lt_of_le sz6_paX hst7.size
              have bx7_paX_0 : w7.cell? ⟨w.heap.size + 1, 0, none⟩ = some (.int .i64 vX.fNode) := (hst7.cell (p := ⟨w.heap.size + 1, 0, none⟩) sz6_paX).trans bx6_paX_0
              have bx7_paX_1 : w7.cell? ⟨w.heap.size + 1, 1, none⟩ = some (.string vX.fName) := (hst7.cell (p := ⟨w.heap.size + 1, 1, none⟩) sz6_paX).trans bx6_paX_1
              have sz7_w0 : bV5 < w7.heap.size := Nat.lt_of_lt_of_le sz6_w0 hst7.size
              have bx7_w0_0 : w7.cell? ⟨bV5, 0, none⟩ = some (.int .i64 (entE vM.fEntries vX).fAt.fNode) := (hst7.cell (p := ⟨bV5, 0, none⟩) sz6_w0).trans bx6_w0_0
              have bx7_w0_1 : w7.cell? ⟨bV5, 1, none⟩ = some (.string (entE vM.fEntries vX).fAt.fName) := (hst7.cell (p := ⟨bV5, 1, none⟩) sz6_w0).trans bx6_w0_1
              have bx7_w0_2 : w7.cell? ⟨bV5, 2, none⟩ = some (.int .i64 (entE vM.fEntries vX).fValue) := (hst7.cell (p := ⟨bV5, 2, none⟩) sz6_w0).trans bx6_w0_2
              have bx7_w0_3 : w7.cell? ⟨bV5, 3, none⟩ = some (.int .i64 (entE vM.fEntries vX).fOwner) := (hst7.cell (p := ⟨bV5, 3, none⟩) sz6_w0).trans bx6_w0_3
              have bx7_w0_4 : w7.cell? ⟨bV5, 4, none⟩ = some (.int .i64 (entE vM.fEntries vX).fLiteral) := (hst7.cell (p := ⟨bV5, 4, none⟩) sz6_w0).trans bx6_w0_4
              have bx7_w0_5 : w7.cell? ⟨bV5, 5, none⟩ = some (.string (entE vM.fEntries vX).fRule) := (hst7.cell (p := ⟨bV5, 5, none⟩) sz6_w0).trans bx6_w0_5
              have bx7_w0_6 : w7.cell? ⟨bV5, 6, none⟩ = some (.slice a6_R_5 (entE vM.fEntries vX).fIds.length c6_R_5) := (hst7.cell (p := ⟨bV5, 6, none⟩) sz6_w0).trans bx6_w0_6
              have bx7_w0_7 : w7.cell? ⟨bV5, 7, none⟩ = some (.slice a7_R_5 (entE vM.fEntries vX).fShape.length c7_R_5) := (hst7.cell (p := ⟨bV5, 7, none⟩) sz6_w0).trans bx6_w0_7
              have bx7_w0_8 : w7.cell? ⟨bV5, 8, none⟩ = some (.slice a8_R_5 (entE vM.fEntries vX).fReads.length c8_R_5) := (hst7.cell (p := ⟨bV5, 8, none⟩) sz6_w0).trans bx6_w0_8
              have sz7_x0 : w6.heap.size < w7.heap.size := Nat.lt_of_lt_of_le (by first | omega | (simp; done) | (simp; omega) | (simp [World.setCell]; omega)) hb7.size
              have bx7_x0_0 : w7.cell? ⟨w6.heap.size, 0, none⟩ = some (.slice a0_vM_6 vM.fEntries.length c0_vM_6) := (hb7.cell (p := ⟨w6.heap.size, 0, none⟩) (by first | omega | (simp; done) | (simp; omega) | (simp [World.setCell]; omega))).trans (by go_simp)
              have bx7_x0_1 : w7.cell? ⟨w6.heap.size, 1, none⟩ = some (.slice a1_vM_6 vM.fEvaluated.length c1_vM_6) := (hb7.cell (p := ⟨w6.heap.size, 1, none⟩) (by first | omega | (simp; done) | (simp; omega) | (simp [World.setCell]; omega))).trans (by go_simp)
              have HO7_6_R_5 := Lib.hid (HO6_6_R_5.out.kept (Kept.of_below_all hst7))
              have HO7_7_R_5 := Lib.hid (HO6_7_R_5.out.kept (Kept.of_below_all hst7))
              have HO7_8_R_5 := Lib.hid (HO6_8_R_5.out.kept (Kept.of_below_all hst7))
              have HO7_0_vM_6 := Lib.hid (HO6_0_vM_6.out.kept (Kept.of_below_all hst7))
              have HO7_1_vM_6 := Lib.hid (HO6_1_vM_6.out.kept (Kept.of_below_all hst7))
              have HB7 := Lib.hid (HB6.out.trans (hst7.mono HB6.out.size))
              clear sz6_paM bx6_paM_0 bx6_paM_1 sz6_paX bx6_paX_0 bx6_paX_1 sz6_w0 bx6_w0_0 bx6_w0_1 bx6_w0_2 bx6_w0_3 bx6_w0_4 bx6_w0_5 bx6_w0_6 bx6_w0_7 bx6_w0_8
              go_wp2_with fail
              refine (impl_FindEntryL (c0_0 := c0_vM_6) (c0_1 := c1_vM_6) vM OK_vM.out hq_vM vX OK_vX.out hq_vX _ (Below.size (by repeat (first | (with_reducible exact Below.refl _ _) | (with_reducible apply Below.drew) | (with_reducible refine below_drewN ?_ _) | (refine Below.setCell ?_ (by simp <;> omega) _) | (refine Below.alloc ?_ (by simp <;> omega) _)) : Below w7.heap.size w7 _)) ((Sl.of (HO7_0_vM_6.out.lies (lo := 0) (hi := w7.heap.size) (fun y hy => ⟨Nat.zero_le _, by have := hy.2; omega⟩))).later (by repeat (first | (with_reducible exact Below.refl _ _) | (with_reducible apply Below.drew) | (with_reducible refine below_drewN ?_ _) | (refine Below.setCell ?_ (by simp <;> omega) _) | (refine Below.alloc ?_ (by simp <;> omega) _)) : Below w7.heap.size w7 _) (Nat.le_refl _)) ((Sl.of (HO7_1_vM_6.out.lies (lo := 0) (hi := w7.heap.size) (fun y hy => ⟨Nat.zero_le _, by have := hy.2; omega⟩))).later (by repeat (first | (with_reducible exact Below.refl _ _) | (with_reducible apply Below.drew) | (with_reducible refine below_drewN ?_ _) | (refine Below.setCell ?_ (by simp <;> omega) _) | (refine Below.alloc ?_ (by simp <;> omega) _)) : Below w7.heap.size w7 _) (Nat.le_refl _))).mono ?_
              rintro e w8 ⟨a6_R_f3, c6_R_f3, a7_R_f3, c7_R_f3, a8_R_f3, c8_R_f3, rfl, ho, hb8⟩
              go_wp2_with fail
              exact freePost _ rfl ⟨hb8, Exists.intro a6_R_f3 (Exists.intro c6_R_f3 (Exists.intro a7_R_f3 (Exists.intro c7_R_f3 (Exists.intro a8_R_f3 (Exists.intro c8_R_f3 (And.intro upd_self ho))))))⟩
            · intro V L H w7 hb7 hd
              obtain ⟨⟨hL3, hM3, hH3, a6_R_f3, c6_R_f3, a7_R_f3, c7_R_f3, a8_R_f3, c8_R_f3, hv3, ho3_⟩, -⟩ := hd
              rw [hv3]
              have HV3 := Lib.hid hv3
              clear hv3
              have hst7 : Below w6.heap.size w6 w7 := Below.trans (by repeat (first | (with_reducible exact Below.refl _ _) | (with_reducible apply Below.drew) | (with_reducible refine below_drewN ?_ _) | (refine Below.setCell ?_ (by simp <;> omega) _) | (refine Below.alloc ?_ (by simp <;> omega) _)) : Below w6.heap.size w6 _) (hb7.mono (Below.size (by repeat (first | (with_reducible exact Below.refl _ _) | (with_reducible apply Below.drew) | (with_reducible refine below_drewN ?_ _) | (refine Below.setCell ?_ (by simp <;> omega) _) | (refine Below.alloc ?_ (by simp <;> omega) _)) : Below w6.heap.size w6 _)))
              have HB7 := Lib.hid (HB6.out.trans (hst7.mono HB6.out.size))
              clear sz6_paM bx6_paM_0 bx6_paM_1 sz6_paX bx6_paX_0 bx6_paX_1 sz6_w0 bx6_w0_0 bx6_w0_1 bx6_w0_2 bx6_w0_3 bx6_w0_4 bx6_w0_5 bx6_w0_6 bx6_w0_7 bx6_w0_8
              go_wp2_with fail
              exact freePost _ rfl ⟨Below.refl _ _, And.intro (upd_self.trans (HV3.out.symm.trans (upd_ne (by decide)).symm)) ⟨_, _, _, _, _, _, upd_self⟩⟩
            · intro V L H w7 hb7 hd
              obtain ⟨⟨hL4, hM4, hH4, hv4, a6_R_f3_4, c6_R_f3_4, a7_R_f3_4, c7_R_f3_4, a8_R_f3_4, c8_R_f3_4, hz4⟩, -⟩ := hd
              clear hv4
              rw [hz4]
              have HV4 := Lib.hid hz4
              clear hz4
              have hst7 : Below w6.heap.size w6 w7 := Below.trans (by repeat (first | (with_reducible exact Below.refl _ _) | (with_reducible apply Below.drew) | (with_reducible refine below_drewN ?_ _) | (refine Below.setCell ?_ (by simp <;> omega) _) | (refine Below.alloc ?_ (by simp <;> omega) _)) : Below w6.heap.size w6 _) (hb7.mono (Below.size (by repeat (first | (with_reducible exact Below.refl _ _) | (with_reducible apply Below.drew) | (with_reducible refine below_drewN ?_ _) | (refine Below.setCell ?_ (by simp <;> omega) _) | (refine Below.alloc ?_ (by simp <;> omega) _)) : Below w6.heap.size w6 _)))
              have HB7 := Lib.hid (HB6.out.trans (hst7.mono HB6.out.size))
              clear sz6_paM bx6_paM_0 bx6_paM_1 sz6_paX bx6_paX_0 bx6_paX_1 sz6_w0 bx6_w0_0 bx6_w0_1 bx6_w0_2 bx6_w0_3 bx6_w0_4 bx6_w0_5 bx6_w0_6 bx6_w0_7 bx6_w0_8
              go_wp2_with fail
              exact freePost _ rfl ⟨Below.refl _ _, And.intro (fun x0 x1 h => by cases (HV4.out.symm.trans ((upd_ne (by decide)).symm.trans h)); exact upd_self) ⟨_, _, _, _, _, _, upd_self⟩⟩
            · intro V L H w7 hb7 hd
              obtain ⟨⟨hL4, hM4, hH4, hv4, a6_R_f3_4, c6_R_f3_4, a7_R_f3_4, c7_R_f3_4, a8_R_f3_4, c8_R_f3_4, hz4⟩, -⟩ := hd
              clear hv4
              rw [hz4]
              have HV4 := Lib.hid hz4
              clear hz4
              have hst7 : Below w6.heap.size w6 w7 := Below.trans (by repeat (first | (with_reducible exact Below.refl _ _) | (with_reducible apply Below.drew) | (with_reducible refine below_drewN ?_ _) | (refine Below.setCell ?_ (by simp <;> omega) _) | (refine Below.alloc ?_ (by simp <;> omega) _)) : Below w6.heap.size w6 _) (hb7.mono (Below.size (by repeat (first | (with_reducible exact Below.refl _ _) | (with_reducible apply Below.drew) | (with_reducible refine below_drewN ?_ _) | (refine Below.setCell ?_ (by simp <;> omega) _) | (refine Below.alloc ?_ (by simp <;> omega) _)) : Below w6.heap.size w6 _)))
              have HB7 := Lib.hid (HB6.out.trans (hst7.mono HB6.out.size))
              clear sz6_paM bx6_paM_0 bx6_paM_1 sz6_paX bx6_paX_0 bx6_paX_1 sz6_w0 bx6_w0_0 bx6_w0_1 bx6_w0_2 bx6_w0_3 bx6_w0_4 bx6_w0_5 bx6_w0_6 bx6_w0_7 bx6_w0_8
              go_wp2_with fail
              exact freePost _ rfl ⟨Below.refl _ _, fun x0 x1 h => by cases (HV4.out.symm.trans ((upd_ne (by decide)).symm.trans h)); exact upd_self⟩
            · intro V L H w7 hb7 hd
              clear hd
              have hst7 : Below w6.heap.size w6 w7 := Below.trans (by repeat (first | (with_reducible exact Below.refl _ _) | (with_reducible apply Below.drew) | (with_reducible refine below_drewN ?_ _) | (refine Below.setCell ?_ (by simp <;> omega) _) | (refine Below.alloc ?_ (by simp <;> omega) _)) : Below w6.heap.size w6 _) (hb7.mono (Below.size (by repeat (first | (with_reducible exact Below.refl _ _) | (with_reducible apply Below.drew) | (with_reducible refine below_drewN ?_ _) | (refine Below.setCell ?_ (by simp <;> omega) _) | (refine Below.alloc ?_ (by simp <;> omega) _)) : Below w6.heap.size w6 _)))
              have HB7 := Lib.hid (HB6.out.trans (hst7.mono HB6.out.size))
              clear sz6_paM bx6_paM_0 bx6_paM_1 sz6_paX bx6_paX_0 bx6_paX_1 sz6_w0 bx6_w0_0 bx6_w0_1 bx6_w0_2 bx6_w0_3 bx6_w0_4 bx6_w0_5 bx6_w0_6 bx6_w0_7 bx6_w0_8
              go_wp2_with fail
              refine freePost _ rfl ⟨Below.alloc (Below.refl _ _) (Nat.le_refl _) _, upd_self, ?_, ?_, ?_, ?_, ?_, ?_, ?_, ?_, ?_, ?_, ?_, ?_, ?_, ?_, ?_, ?_, ?_, ?_, ?_⟩
              · simp
              all_goals go_simp
            · intro V L H w7 hb7 hd
              obtain ⟨⟨hL7, hM7, hH7, hv7, hlt7, hc7_0, hf7_0, hc7_1, hf7_1, hc7_2, hf7_2, hc7_3, hf7_3, hc7_4, hf7_4, hc7_5, hf7_5, hc7_6, hf7_6, hc7_7, hf7_7, hc7_8, hf7_8⟩, ⟨hL5, hM5, hH5, hv5, a6_R_f3_5, c6_R_f3_5, a7_R_f3_5, c7_R_f3_5, a8_R_f3_5, c8_R_f3_5, hz5⟩, -⟩ := hd
              clear hv5
              rw [hv7, hz5]
              have HV7 := Lib.hid hv7
              have HV5 := Lib.hid hz5
              clear hv7 hz5
              have hst7 : Below w6.heap.size w6 w7 := Below.trans (by repeat (first | (with_reducible exact Below.refl _ _) | (with_reducible apply Below.drew) | (with_reducible refine below_drewN ?_ _) | (refine Below.setCell ?_ (by simp <;> omega) _) | (refine Below.alloc ?_ (by simp <;> omega) _)) : Below w6.heap.size w6 _) (hb7.mono (Below.size (by repeat (first | (with_reducible exact Below.refl _ _) | (with_reducible apply Below.drew) | (with_reducible refine below_drewN ?_ _) | (refine Below.setCell ?_ (by simp <;> omega) _) | (refine Below.alloc ?_ (by simp <;> omega) _)) : Below w6.heap.size w6 _)))
              have HB7 := Lib.hid (HB6.out.trans (hst7.mono HB6.out.size))
              clear sz6_paM bx6_paM_0 bx6_paM_1 sz6_paX bx6_paX_0 bx6_paX_1 sz6_w0 bx6_w0_0 bx6_w0_1 bx6_w0_2 bx6_w0_3 bx6_w0_4 bx6_w0_5 bx6_w0_6 bx6_w0_7 bx6_w0_8
              go_wp2_with fail
              refine freePost undef rfl ⟨(Touches.put (L := L 7) (H := H 7) (Touches.put (L := L 7) (H := H 7) (Touches.put (L := L 7) (H := H 7) (Touches.put (L := L 7) (H := H 7) (Touches.put (L := L 7) (H := H 7) (Touches.put (L := L 7) (H := H 7) (Touches.put (L := L 7) (H := H 7) (Touches.put (L := L 7) (H := H 7) (Touches.put (L := L 7) (H := H 7) Touches.refl (p := ⟨L 7, 0, none⟩) ⟨Nat.le_refl _, hlt7⟩ _) (p := ⟨L 7, 1, none⟩) ⟨Nat.le_refl _, hlt7⟩ _) (p := ⟨L 7, 2, none⟩) ⟨Nat.le_refl _, hlt7⟩ _) (p := ⟨L 7, 3, none⟩) ⟨Nat.le_refl _, hlt7⟩ _) (p := ⟨L 7, 4, none⟩) ⟨Nat.le_refl _, hlt7⟩ _) (p := ⟨L 7, 5, none⟩) ⟨Nat.le_refl _, hlt7⟩ _) (p := ⟨L 7, 6, none⟩) ⟨Nat.le_refl _, hlt7⟩ _) (p := ⟨L 7, 7, none⟩) ⟨Nat.le_refl _, hlt7⟩ _) (p := ⟨L 7, 8, none⟩) ⟨Nat.le_refl _, hlt7⟩ _), fun x0 x1 x2 x3 x4 x5 x6 x7 x8 h => ?_⟩
              cases (HV5.out.symm.trans ((upd_ne (by decide)).symm.trans h))
              refine ⟨hlt7, ?_, ?_, ?_, ?_, ?_, ?_, ?_, ?_, ?_⟩
              all_goals go_simp
            · intro V L H w7 hb7 hd
              obtain ⟨⟨hL6, hM6, hH6, hv6⟩, -⟩ := hd
              clear hv6
              have hst7 : Below w6.heap.size w6 w7 := Below.trans (by repeat (first | (with_reducible exact Below.refl _ _) | (with_reducible apply Below.drew) | (with_reducible refine below_drewN ?_ _) | (refine Below.setCell ?_ (by simp <;> omega) _) | (refine Below.alloc ?_ (by simp <;> omega) _)) : Below w6.heap.size w6 _) (hb7.mono (Below.size (by repeat (first | (with_reducible exact Below.refl _ _) | (with_reducible apply Below.drew) | (with_reducible refine below_drewN ?_ _) | (refine Below.setCell ?_ (by simp <;> omega) _) | (refine Below.alloc ?_ (by simp <;> omega) _)) : Below w6.heap.size w6 _)))
              have HB7 := Lib.hid (HB6.out.trans (hst7.mono HB6.out.size))
              clear sz6_paM bx6_paM_0 bx6_paM_1 sz6_paX bx6_paX_0 bx6_paX_1 sz6_w0 bx6_w0_0 bx6_w0_1 bx6_w0_2 bx6_w0_3 bx6_w0_4 bx6_w0_5 bx6_w0_6 bx6_w0_7 bx6_w0_8
              go_wp2_with fail
              exact freePost _ rfl ⟨Below.refl _ _, upd_self.trans (upd_ne (by decide)).symm⟩
            · intro V L H w7 hb7 hd hap hdead
              obtain ⟨⟨hL0, hM0, hH0, hv0⟩, ⟨hL1, hM1, hH1, hv1⟩, ⟨hL2, hM2, hH2, hv2⟩, ⟨hL3, hM3, hH3, a6_R_f3, c6_R_f3, a7_R_f3, c7_R_f3, a8_R_f3, c8_R_f3, hv3, ho3_⟩, ⟨hL4, hM4, hH4, hv4, a6_R_f3_4, c6_R_f3_4, a7_R_f3_4, c7_R_f3_4, a8_R_f3_4, c8_R_f3_4, hz4⟩, ⟨hL5, hM5, hH5, hv5, a6_R_f3_5, c6_R_f3_5, a7_R_f3_5, c7_R_f3_5, a8_R_f3_5, c8_R_f3_5, hz5⟩, ⟨hL6, hM6, hH6, hv6⟩, ⟨hL8, hM8, hH8, hst8_⟩, ⟨hL9, hM9, hH9, hv9⟩, -⟩ := hd
              obtain ⟨hLe, hHe, wo, hva, -⟩ := hdead 8 7 (by decide) rfl
              have hv3' := hv3
              have hv4' := hv4.trans hv3'
              have hv5' := hv5 _ _ hv4'
              have hv6' := hv6 _ _ hv4'
              have hv9' := hv9.trans hv6'
              obtain ⟨hlt, hc0, hc1, hc2, hc3, hc4, hc5, hc6, hc7, hc8⟩ := hst8_ _ _ _ _ _ _ _ _ _ hv5'
              rw [hv0, hv1, hv3', hv4', hv5', hv6', hv9', hva, hv2]
              clear hv0 hv1 hv3' hv4' hv5' hv6' hv9' hva hv2 hv3 hv4 hv5 hv6 hv9
              have hdis := hap 8 3 (by decide) (by decide) (by decide)
              clear hap hdead
              have HLe := Lib.hid hLe
              have HHe := Lib.hid hHe
              clear hLe hHe
              go_wp2_with fail
              go_meet
              have hLe := HLe.out
              have hHe := HHe.out
              have hstE : Below w6.heap.size w6 w7 := Below.trans (by repeat (first | (with_reducible exact Below.refl _ _) | (with_reducible apply Below.drew) | (with_reducible refine below_drewN ?_ _) | (refine Below.setCell ?_ (by simp <;> omega) _) | (refine Below.alloc ?_ (by simp <;> omega) _)) : Below w6.heap.size w6 _) (hb7.mono (Below.size (by repeat (first | (with_reducible exact Below.refl _ _) | (with_reducible apply Below.drew) | (with_reducible refine below_drewN ?_ _) | (refine Below.setCell ?_ (by simp <;> omega) _) | (refine Below.alloc ?_ (by simp <;> omega) _)) : Below w6.heap.size w6 _)))
              have hszE8 : w6.heap.size + 1 ≤ L 8 := Nat.le_trans (by first | exact Nat.le_refl _ | (simp; done) | (simp; omega) | (simp [World.setCell]; done) | (simp [World.setCell]; omega)) hL8
              have hszE3 : w6.heap.size + 1 ≤ L 3 := Nat.le_trans (by first | exact Nat.le_refl _ | (simp; done) | (simp; omega) | (simp [World.setCell]; done) | (simp [World.setCell]; omega)) hL3
              refine ⟨L 7, L 3, H 3, a6_R_f3, c6_R_f3, a7_R_f3, c7_R_f3, a8_R_f3, c8_R_f3, rfl, rfl, ?_, ?_, ?_, ?_, ?_, ?_, ?_, ?_, ?_, ho3_, ?_, ?_, ?_, ?_, ?_, hstE, Nat.lt_of_lt_of_le (by first | omega | (simp; done) | (simp; omega) | (simp [World.setCell]; omega)) hb7.size, (hb7.cell (p := ⟨w6.heap.size, 0, none⟩) (by first | omega | (simp; done) | (simp; omega) | (simp [World.setCell]; omega))).trans (by go_simp), (hb7.cell (p := ⟨w6.heap.size, 1, none⟩) (by first | omega | (simp; done) | (simp; omega) | (simp [World.setCell]; omega))).trans (by go_simp)⟩
              · rw [← hLe]; exact hc0
              · rw [← hLe]; exact hc1
              · rw [← hLe]; exact hc2
              · rw [← hLe]; exact hc3
              · rw [← hLe]; exact hc4
              · rw [← hLe]; exact hc5
              · rw [← hLe]; exact hc6
              · rw [← hLe]; exact hc7
              · rw [← hLe]; exact hc8
              · omega
              · omega
              · omega
              · omega
              · omega
        case rest =>
          obtain ⟨bV8, lV8, hV8, a6_R_8, c6_R_8, a7_R_8, c7_R_8, a8_R_8, c8_R_8, rfl, rfl, bx8_g0_0, bx8_g0_1, bx8_g0_2, bx8_g0_3, bx8_g0_4, bx8_g0_5, bx8_g0_6, bx8_g0_7, bx8_g0_8, ho8, sz8_g0, hB8, hL8, hH8, hD8, hb8, sz8_x0, bx8_x0_0, bx8_x0_1⟩ := hcut
          obtain ⟨w8, rfl⟩ : ∃ w_ : World, w_ = wc := ⟨_, rfl⟩
          have hr8 : w6.heap.size ≤ w8.heap.size := hb8.size
          have hK8 : bV8 < w8.heap.size := sz8_g0
          have sz8_paM : w.heap.size < w8.heap.size := Nat.lt_of_lt_of_le sz6_paM hb8.size
          have bx8_paM_0 : w8.cell? ⟨w.heap.size, 0, none⟩ = some (.slice a0_vM vM.fEntries.length c0_vM) := (hb8.cell (p := ⟨w.heap.size, 0, none⟩) sz6_paM).trans bx6_paM_0
          have bx8_paM_1 : w8.cell? ⟨w.heap.size, 1, none⟩ = some (.slice a1_vM vM.fEvaluated.length c1_vM) := (hb8.cell (p := ⟨w.heap.size, 1, none⟩) sz6_paM).trans bx6_paM_1
          have sz8_paX : w.heap.size + 1 < w8.heap.size := Nat.lt_of_lt_of_le sz6_paX hb8.size
          have bx8_paX_0 : w8.cell? ⟨w.heap.size + 1, 0, none⟩ = some (.int .i64 vX.fNode) := (hb8.cell (p := ⟨w.heap.size + 1, 0, none⟩) sz6_paX).trans bx6_paX_0
          have bx8_paX_1 : w8.cell? ⟨w.heap.size + 1, 1, none⟩ = some (.string vX.fName) := (hb8.cell (p := ⟨w.heap.size + 1, 1, none⟩) sz6_paX).trans bx6_paX_1
          have sz8_w0 : bV5 < w8.heap.size := Nat.lt_of_lt_of_le sz6_w0 hb8.size
          have bx8_w0_0 : w8.cell? ⟨bV5, 0, none⟩ = some (.int .i64 (entE vM.fEntries vX).fAt.fNode) := (hb8.cell (p := ⟨bV5, 0, none⟩) sz6_w0).trans bx6_w0_0
          have bx8_w0_1 : w8.cell? ⟨bV5, 1, none⟩ = some (.string (entE vM.fEntries vX).fAt.fName) := (hb8.cell (p := ⟨bV5, 1, none⟩) sz6_w0).trans bx6_w0_1
          have bx8_w0_2 : w8.cell? ⟨bV5, 2, none⟩ = some (.int .i64 (entE vM.fEntries vX).fValue) := (hb8.cell (p := ⟨bV5, 2, none⟩) sz6_w0).trans bx6_w0_2
          have bx8_w0_3 : w8.cell? ⟨bV5, 3, none⟩ = some (.int .i64 (entE vM.fEntries vX).fOwner) := (hb8.cell (p := ⟨bV5, 3, none⟩) sz6_w0).trans bx6_w0_3
          have bx8_w0_4 : w8.cell? ⟨bV5, 4, none⟩ = some (.int .i64 (entE vM.fEntries vX).fLiteral) := (hb8.cell (p := ⟨bV5, 4, none⟩) sz6_w0).trans bx6_w0_4
          have bx8_w0_5 : w8.cell? ⟨bV5, 5, none⟩ = some (.string (entE vM.fEntries vX).fRule) := (hb8.cell (p := ⟨bV5, 5, none⟩) sz6_w0).trans bx6_w0_5
          have bx8_w0_6 : w8.cell? ⟨bV5, 6, none⟩ = some (.slice a6_R_5 (entE vM.fEntries vX).fIds.length c6_R_5) := (hb8.cell (p := ⟨bV5, 6, none⟩) sz6_w0).trans bx6_w0_6
          have bx8_w0_7 : w8.cell? ⟨bV5, 7, none⟩ = some (.slice a7_R_5 (entE vM.fEntries vX).fShape.length c7_R_5) := (hb8.cell (p := ⟨bV5, 7, none⟩) sz6_w0).trans bx6_w0_7
          have bx8_w0_8 : w8.cell? ⟨bV5, 8, none⟩ = some (.slice a8_R_5 (entE vM.fEntries vX).fReads.length c8_R_5) := (hb8.cell (p := ⟨bV5, 8, none⟩) sz6_w0).trans bx6_w0_8
          have HO8_6_R_5 := Lib.hid (HO6_6_R_5.out.kept (Kept.of_below_all hb8))
          have HO8_7_R_5 := Lib.hid (HO6_7_R_5.out.kept (Kept.of_below_all hb8))
          have HO8_8_R_5 := Lib.hid (HO6_8_R_5.out.kept (Kept.of_below_all hb8))
          have HO8_0_vM_6 := Lib.hid (HO6_0_vM_6.out.kept (Kept.of_below_all hb8))
          have HO8_1_vM_6 := Lib.hid (HO6_1_vM_6.out.kept (Kept.of_below_all hb8))
          have HR8_vM_6 := Lib.hid (HR6_vM_6.out.kept (Kept.of_below_all hb8))
          have HO8_6_R_8 := Lib.hid (show Own w8 (fun y => lV8 ≤ y ∧ y < hV8) (.sl 1 (entE vM.fEntries vX).fIds.length (fun k => ictI ((entE vM.fEntries vX).fIds.getD k default))) (.slice a6_R_8 (entE vM.fEntries vX).fIds.length c6_R_8) from OwnR.at ho8 6 (by decide))
          have HO8_7_R_8 := Lib.hid (show Own w8 (fun y => lV8 ≤ y ∧ y < hV8) (.sl 1 (entE vM.fEntries vX).fShape.length (fun k => ictI ((entE vM.fEntries vX).fShape.getD k default))) (.slice a7_R_8 (entE vM.fEntries vX).fShape.length c7_R_8) from OwnR.at ho8 7 (by decide))
          have HO8_8_R_8 := Lib.hid (show Own w8 (fun y => lV8 ≤ y ∧ y < hV8) (.sl 4 (entE vM.fEntries vX).fReads.length (fun k => DReading.ct ((entE vM.fEntries vX).fReads.getD k default))) (.slice a8_R_8 (entE vM.fEntries vX).fReads.length c8_R_8) from OwnR.at ho8 8 (by decide))
          have HR8_R_8 := Lib.hid ho8
          have HB8 := Lib.hid (HB6.out.trans (hb8.mono HB6.out.size))
          clear hb8 ho8 bx6_paM_0 bx6_paM_1 sz6_paM bx6_paX_0 bx6_paX_1 sz6_paX bx6_w0_0 bx6_w0_1 bx6_w0_2 bx6_w0_3 bx6_w0_4 bx6_w0_5 bx6_w0_6 bx6_w0_7 bx6_w0_8 sz6_w0 HO6_6_R_5 HO6_7_R_5 HO6_8_R_5 HO6_0_vM_6 HO6_1_vM_6 HR6_vM_6 HB6
          go_wp2_with fail
          refine (laws_eqEntry (c6 := c6_R_8) (c7 := c7_R_8) (c8 := c8_R_8) (c6q := c6_R_5) (c7q := c7_R_5) (c8q := c8_R_5) (entE vM.fEntries vX) hq_R _ (Below.size (by repeat (first | (with_reducible exact Below.refl _ _) | (with_reducible apply Below.drew) | (with_reducible refine below_drewN ?_ _) | (refine Below.setCell ?_ (by simp <;> omega) _) | (refine Below.alloc ?_ (by simp <;> omega) _)) : Below w8.heap.size w8 _)) (Below.size (by repeat (first | (with_reducible exact Below.refl _ _) | (with_reducible apply Below.drew) | (with_reducible refine below_drewN ?_ _) | (refine Below.setCell ?_ (by simp <;> omega) _) | (refine Below.alloc ?_ (by simp <;> omega) _)) : Below w8.heap.size w8 _)) ((Sl.of (HO8_6_R_8.out.lies (lo := 0) (hi := w8.heap.size) (fun y hy => ⟨Nat.zero_le _, by have := hy.2; omega⟩))).later (by repeat (first | (with_reducible exact Below.refl _ _) | (with_reducible apply Below.drew) | (with_reducible refine below_drewN ?_ _) | (refine Below.setCell ?_ (by simp <;> omega) _) | (refine Below.alloc ?_ (by simp <;> omega) _)) : Below w8.heap.size w8 _) (Nat.le_refl _)) ((Sl.of (HO8_7_R_8.out.lies (lo := 0) (hi := w8.heap.size) (fun y hy => ⟨Nat.zero_le _, by have := hy.2; omega⟩))).later (by repeat (first | (with_reducible exact Below.refl _ _) | (with_reducible apply Below.drew) | (with_reducible refine below_drewN ?_ _) | (refine Below.setCell ?_ (by simp <;> omega) _) | (refine Below.alloc ?_ (by simp <;> omega) _)) : Below w8.heap.size w8 _) (Nat.le_refl _)) ((Sl.of (HO8_8_R_8.out.lies (lo := 0) (hi := w8.heap.size) (fun y hy => ⟨Nat.zero_le _, by have := hy.2; omega⟩))).later (by repeat (first | (with_reducible exact Below.refl _ _) | (with_reducible apply Below.drew) | (with_reducible refine below_drewN ?_ _) | (refine Below.setCell ?_ (by simp <;> omega) _) | (refine Below.alloc ?_ (by simp <;> omega) _)) : Below w8.heap.size w8 _) (Nat.le_refl _)) ((Sl.of (HO8_6_R_5.out.lies (lo := 0) (hi := w8.heap.size) (fun y hy => ⟨Nat.zero_le _, by have := hy.2; omega⟩))).later (by repeat (first | (with_reducible exact Below.refl _ _) | (with_reducible apply Below.drew) | (with_reducible refine below_drewN ?_ _) | (refine Below.setCell ?_ (by simp <;> omega) _) | (refine Below.alloc ?_ (by simp <;> omega) _)) : Below w8.heap.size w8 _) (Nat.le_refl _)) ((Sl.of (HO8_7_R_5.out.lies (lo := 0) (hi := w8.heap.size) (fun y hy => ⟨Nat.zero_le _, by have := hy.2; omega⟩))).later (by repeat (first | (with_reducible exact Below.refl _ _) | (with_reducible apply Below.drew) | (with_reducible refine below_drewN ?_ _) | (refine Below.setCell ?_ (by simp <;> omega) _) | (refine Below.alloc ?_ (by simp <;> omega) _)) : Below w8.heap.size w8 _) (Nat.le_refl _)) ((Sl.of (HO8_8_R_5.out.lies (lo := 0) (hi := w8.heap.size) (fun y hy => ⟨Nat.zero_le _, by have := hy.2; omega⟩))).later (by repeat (first | (with_reducible exact Below.refl _ _) | (with_reducible apply Below.drew) | (with_reducible refine below_drewN ?_ _) | (refine Below.setCell ?_ (by simp <;> omega) _) | (refine Below.alloc ?_ (by simp <;> omega) _)) : Below w8.heap.size w8 _) (Nat.le_refl _))).mono ?_
          rintro e w9 ⟨rfl, hb9⟩
          have hst9 : Below w8.heap.size w8 w9 := Below.trans (by repeat (first | (with_reducible exact Below.refl _ _) | (with_reducible apply Below.drew) | (with_reducible refine below_drewN ?_ _) | (refine Below.setCell ?_ (by simp <;> omega) _) | (refine Below.alloc ?_ (by simp <;> omega) _)) : Below w8.heap.size w8 _) (hb9.mono (Below.size (by repeat (first | (with_reducible exact Below.refl _ _) | (with_reducible apply Below.drew) | (with_reducible refine below_drewN ?_ _) | (refine Below.setCell ?_ (by simp <;> omega) _) | (refine Below.alloc ?_ (by simp <;> omega) _)) : Below w8.heap.size w8 _)))
          have hr9 : w8.heap.size ≤ w9.heap.size := Nat.le_trans (by first | exact Nat.le_refl _ | (simp; done) | (simp; omega) | (simp [World.setCell]; done) | (simp [World.setCell]; omega)) hb9.size
          have sz9_paM : w.heap.size < w9.heap.size := Nat.lt_of_lt_of_le sz8_paM hst9.size
          have bx9_paM_0 : w9.cell? ⟨w.heap.size, 0, none⟩ = some (.slice a0_vM vM.fEntries.length c0_vM) := (hst9.cell (p := ⟨w.heap.size, 0, none⟩) sz8_paM).trans bx8_paM_0
          have bx9_paM_1 : w9.cell? ⟨w.heap.size, 1, none⟩ = some (.slice a1_vM vM.fEvaluated.length c1_vM) := (hst9.cell (p := ⟨w.heap.size, 1, none⟩) sz8_paM).trans bx8_paM_1
          have sz9_paX : w.heap.size + 1 < w9.heap.size := Nat.lt_of_lt_of_le sz8_paX hst9.size
          have bx9_paX_0 : w9.cell? ⟨w.heap.size + 1, 0, none⟩ = some (.int .i64 vX.fNode) := (hst9.cell (p := ⟨w.heap.size + 1, 0, none⟩) sz8_paX).trans bx8_paX_0
          have bx9_paX_1 : w9.cell? ⟨w.heap.size + 1, 1, none⟩ = some (.string vX.fName) := (hst9.cell (p := ⟨w.heap.size + 1, 1, none⟩) sz8_paX).trans bx8_paX_1
          have sz9_w0 : bV5 < w9.heap.size := Nat.lt_of_lt_of_le sz8_w0 hst9.size
          have bx9_w0_0 : w9.cell? ⟨bV5, 0, none⟩ = some (.int .i64 (entE vM.fEntries vX).fAt.fNode) := (hst9.cell (p := ⟨bV5, 0, none⟩) sz8_w0).trans bx8_w0_0
          have bx9_w0_1 : w9.cell? ⟨bV5, 1, none⟩ = some (.string (entE vM.fEntries vX).fAt.fName) := (hst9.cell (p := ⟨bV5, 1, none⟩) sz8_w0).trans bx8_w0_1
          have bx9_w0_2 : w9.cell? ⟨bV5, 2, none⟩ = some (.int .i64 (entE vM.fEntries vX).fValue) := (hst9.cell (p := ⟨bV5, 2, none⟩) sz8_w0).trans bx8_w0_2
          have bx9_w0_3 : w9.cell? ⟨bV5, 3, none⟩ = some (.int .i64 (entE vM.fEntries vX).fOwner) := (hst9.cell (p := ⟨bV5, 3, none⟩) sz8_w0).trans bx8_w0_3
          have bx9_w0_4 : w9.cell? ⟨bV5, 4, none⟩ = some (.int .i64 (entE vM.fEntries vX).fLiteral) := (hst9.cell (p := ⟨bV5, 4, none⟩) sz8_w0).trans bx8_w0_4
          have bx9_w0_5 : w9.cell? ⟨bV5, 5, none⟩ = some (.string (entE vM.fEntries vX).fRule) := (hst9.cell (p := ⟨bV5, 5, none⟩) sz8_w0).trans bx8_w0_5
          have bx9_w0_6 : w9.cell? ⟨bV5, 6, none⟩ = some (.slice a6_R_5 (entE vM.fEntries vX).fIds.length c6_R_5) := (hst9.cell (p := ⟨bV5, 6, none⟩) sz8_w0).trans bx8_w0_6
          have bx9_w0_7 : w9.cell? ⟨bV5, 7, none⟩ = some (.slice a7_R_5 (entE vM.fEntries vX).fShape.length c7_R_5) := (hst9.cell (p := ⟨bV5, 7, none⟩) sz8_w0).trans bx8_w0_7
          have bx9_w0_8 : w9.cell? ⟨bV5, 8, none⟩ = some (.slice a8_R_5 (entE vM.fEntries vX).fReads.length c8_R_5) := (hst9.cell (p := ⟨bV5, 8, none⟩) sz8_w0).trans bx8_w0_8
          have sz9_x0 : w6.heap.size < w9.heap.size := Nat.lt_of_lt_of_le sz8_x0 hst9.size
          have bx9_x0_0 : w9.cell? ⟨w6.heap.size, 0, none⟩ = some (.slice a0_vM_6 vM.fEntries.length c0_vM_6) := (hst9.cell (p := ⟨w6.heap.size, 0, none⟩) sz8_x0).trans bx8_x0_0
          have bx9_x0_1 : w9.cell? ⟨w6.heap.size, 1, none⟩ = some (.slice a1_vM_6 vM.fEvaluated.length c1_vM_6) := (hst9.cell (p := ⟨w6.heap.size, 1, none⟩) sz8_x0).trans bx8_x0_1
          have sz9_g0 : bV8 < w9.heap.size := Nat.lt_of_lt_of_le sz8_g0 hst9.size
          have bx9_g0_0 : w9.cell? ⟨bV8, 0, none⟩ = some (.int .i64 (entE vM.fEntries vX).fAt.fNode) := (hst9.cell (p := ⟨bV8, 0, none⟩) sz8_g0).trans bx8_g0_0
          have bx9_g0_1 : w9.cell? ⟨bV8, 1, none⟩ = some (.string (entE vM.fEntries vX).fAt.fName) := (hst9.cell (p := ⟨bV8, 1, none⟩) sz8_g0).trans bx8_g0_1
          have bx9_g0_2 : w9.cell? ⟨bV8, 2, none⟩ = some (.int .i64 (entE vM.fEntries vX).fValue) := (hst9.cell (p := ⟨bV8, 2, none⟩) sz8_g0).trans bx8_g0_2
          have bx9_g0_3 : w9.cell? ⟨bV8, 3, none⟩ = some (.int .i64 (entE vM.fEntries vX).fOwner) := (hst9.cell (p := ⟨bV8, 3, none⟩) sz8_g0).trans bx8_g0_3
          have bx9_g0_4 : w9.cell? ⟨bV8, 4, none⟩ = some (.int .i64 (entE vM.fEntries vX).fLiteral) := (hst9.cell (p := ⟨bV8, 4, none⟩) sz8_g0).trans bx8_g0_4
          have bx9_g0_5 : w9.cell? ⟨bV8, 5, none⟩ = some (.string (entE vM.fEntries vX).fRule) := (hst9.cell (p := ⟨bV8, 5, none⟩) sz8_g0).trans bx8_g0_5
          have bx9_g0_6 : w9.cell? ⟨bV8, 6, none⟩ = some (.slice a6_R_8 (entE vM.fEntries vX).fIds.length c6_R_8) := (hst9.cell (p := ⟨bV8, 6, none⟩) sz8_g0).trans bx8_g0_6
          have bx9_g0_7 : w9.cell? ⟨bV8, 7, none⟩ = some (.slice a7_R_8 (entE vM.fEntries vX).fShape.length c7_R_8) := (hst9.cell (p := ⟨bV8, 7, none⟩) sz8_g0).trans bx8_g0_7
          have bx9_g0_8 : w9.cell? ⟨bV8, 8, none⟩ = some (.slice a8_R_8 (entE vM.fEntries vX).fReads.length c8_R_8) := (hst9.cell (p := ⟨bV8, 8, none⟩) sz8_g0).trans bx8_g0_8
          have HO9_6_R_5 := Lib.hid (HO8_6_R_5.out.kept (Kept.of_below_all hst9))
          have HO9_7_R_5 := Lib.hid (HO8_7_R_5.out.kept (Kept.of_below_all hst9))
          have HO9_8_R_5 := Lib.hid (HO8_8_R_5.out.kept (Kept.of_below_all hst9))
          have HO9_0_vM_6 := Lib.hid (HO8_0_vM_6.out.kept (Kept.of_below_all hst9))
          have HO9_1_vM_6 := Lib.hid (HO8_1_vM_6.out.kept (Kept.of_below_all hst9))
          have HO9_6_R_8 := Lib.hid (HO8_6_R_8.out.kept (Kept.of_below_all hst9))
          have HO9_7_R_8 := Lib.hid (HO8_7_R_8.out.kept (Kept.of_below_all hst9))
          have HO9_8_R_8 := Lib.hid (HO8_8_R_8.out.kept (Kept.of_below_all hst9))
          have HR9_vM_6 := Lib.hid (HR8_vM_6.out.kept (Kept.of_below_all hst9))
          have HR9_R_8 := Lib.hid (HR8_R_8.out.kept (Kept.of_below_all hst9))
          have HB9 := Lib.hid (HB8.out.trans (hst9.mono HB8.out.size))
          clear bx8_paM_0 bx8_paM_1 sz8_paM bx8_paX_0 bx8_paX_1 sz8_paX bx8_w0_0 bx8_w0_1 bx8_w0_2 bx8_w0_3 bx8_w0_4 bx8_w0_5 bx8_w0_6 bx8_w0_7 bx8_w0_8 sz8_w0 bx8_x0_0 bx8_x0_1 sz8_x0 bx8_g0_0 bx8_g0_1 bx8_g0_2 bx8_g0_3 bx8_g0_4 bx8_g0_5 bx8_g0_6 bx8_g0_7 bx8_g0_8 sz8_g0 HO8_6_R_5 HO8_7_R_5 HO8_8_R_5 HO8_0_vM_6 HO8_1_vM_6 HO8_6_R_8 HO8_7_R_8 HO8_8_R_8 HR8_vM_6 HR8_R_8 hb9 hst9 HB8
          go_wp2_with fail
          go_region_with ((first | (go_at_call 7; refine (laws_toMemo (c0 := c0_vM) (c1 := c1_vM) vM hq_vM _ (Below.size (by repeat (first | (with_reducible exact Below.refl _ _) | (with_reducible apply Below.drew) | (with_reducible refine below_drewN ?_ _) | (refine Below.setCell ?_ (by simp <;> omega) _) | (refine Below.alloc ?_ (by simp <;> omega) _)) : Below w9.heap.size w9 _)) ((HS_0_vM.out.later (HB9.out.trans ((by repeat (first | (with_reducible exact Below.refl _ _) | (with_reducible apply Below.drew) | (with_reducible refine below_drewN ?_ _) | (refine Below.setCell ?_ (by simp <;> omega) _) | (refine Below.alloc ?_ (by simp <;> omega) _)) : Below w9.heap.size w9 _).mono HB9.out.size)) (Nat.le_refl _)).mono (Nat.le_refl _) HB9.out.size) ((HS_1_vM.out.later (HB9.out.trans ((by repeat (first | (with_reducible exact Below.refl _ _) | (with_reducible apply Below.drew) | (with_reducible refine below_drewN ?_ _) | (refine Below.setCell ?_ (by simp <;> omega) _) | (refine Below.alloc ?_ (by simp <;> omega) _)) : Below w9.heap.size w9 _).mono HB9.out.size)) (Nat.le_refl _)).mono (Nat.le_refl _) HB9.out.size)).mono ?_; rintro e w10 ⟨a0_vM_10, c0_vM_10, a1_vM_10, c1_vM_10, rfl, ho10, hb10⟩; have hst10 : Below w9.heap.size w9 w10 := Below.trans (by repeat (first | (with_reducible exact Below.refl _ _) | (with_reducible apply Below.drew) | (with_reducible refine below_drewN ?_ _) | (refine Below.setCell ?_ (by simp <;> omega) _) | (refine Below.alloc ?_ (by simp <;> omega) _)) : Below w9.heap.size w9 _) (hb10.mono (Below.size (by repeat (first | (with_reducible exact Below.refl _ _) | (with_reducible apply Below.drew) | (with_reducible refine below_drewN ?_ _) | (refine Below.setCell ?_ (by simp <;> omega) _) | (refine Below.alloc ?_ (by simp <;> omega) _)) : Below w9.heap.size w9 _))); have hr10 : w9.heap.size ≤ w10.heap.size := Nat.le_trans (by first | exact Nat.le_refl _ | (simp; done) | (simp; omega) | (simp [World.setCell]; done) | (simp [World.setCell]; omega)) hb10.size; have sz10_paM : w.heap.size < w10.heap.size := Nat.lt_of_lt_of_le sz9_paM hst10.size; have bx10_paM_0 : w10.cell? ⟨w.heap.size, 0, none⟩ = some (.slice a0_vM vM.fEntries.length c0_vM) := (hst10.cell (p := ⟨w.heap.size, 0, none⟩) sz9_paM).trans bx9_paM_0; have bx10_paM_1 : w10.cell? ⟨w.heap.size, 1, none⟩ = some (.slice a1_vM vM.fEvaluated.length c1_vM) := (hst10.cell (p := ⟨w.heap.size, 1, none⟩) sz9_paM).trans bx9_paM_1; have sz10_paX : w.heap.size + 1 < w10.heap.size := Nat.lt_of_lt_of_le sz9_paX hst10.size; have bx10_paX_0 : w10.cell? ⟨w.heap.size + 1, 0, none⟩ = some (.int .i64 vX.fNode) := (hst10.cell (p := ⟨w.heap.size + 1, 0, none⟩) sz9_paX).trans bx9_paX_0; have bx10_paX_1 : w10.cell? ⟨w.heap.size + 1, 1, none⟩ = some (.string vX.fName) := (hst10.cell (p := ⟨w.heap.size + 1, 1, none⟩) sz9_paX).trans bx9_paX_1; have sz10_w0 : bV5 < w10.heap.size := Nat.lt_of_lt_of_le sz9_w0 hst10.size; have bx10_w0_0 : w10.cell? ⟨bV5, 0, none⟩ = some (.int .i64 (entE vM.fEntries vX).fAt.fNode) := (hst10.cell (p := ⟨bV5, 0, none⟩) sz9_w0).trans bx9_w0_0; have bx10_w0_1 : w10.cell? ⟨bV5, 1, none⟩ = some (.string (entE vM.fEntries vX).fAt.fName) := (hst10.cell (p := ⟨bV5, 1, none⟩) sz9_w0).trans bx9_w0_1; have bx10_w0_2 : w10.cell? ⟨bV5, 2, none⟩ = some (.int .i64 (entE vM.fEntries vX).fValue) := (hst10.cell (p := ⟨bV5, 2, none⟩) sz9_w0).trans bx9_w0_2; have bx10_w0_3 : w10.cell? ⟨bV5, 3, none⟩ = some (.int .i64 (entE vM.fEntries vX).fOwner) := (hst10.cell (p := ⟨bV5, 3, none⟩) sz9_w0).trans bx9_w0_3; have bx10_w0_4 : w10.cell? ⟨bV5, 4, none⟩ = some (.int .i64 (entE vM.fEntries vX).fLiteral) := (hst10.cell (p := ⟨bV5, 4, none⟩) sz9_w0).trans bx9_w0_4; have bx10_w0_5 : w10.cell? ⟨bV5, 5, none⟩ = some (.string (entE vM.fEntries vX).fRule) := (hst10.cell (p := ⟨bV5, 5, none⟩) sz9_w0).trans bx9_w0_5; have bx10_w0_6 : w10.cell? ⟨bV5, 6, none⟩ = some (.slice a6_R_5 (entE vM.fEntries vX).fIds.length c6_R_5) := (hst10.cell (p := ⟨bV5, 6, none⟩) sz9_w0).trans bx9_w0_6; have bx10_w0_7 : w10.cell? ⟨bV5, 7, none⟩ = some (.slice a7_R_5 (entE vM.fEntries vX).fShape.length c7_R_5) := (hst10.cell (p := ⟨bV5, 7, none⟩) sz9_w0).trans bx9_w0_7; have bx10_w0_8 : w10.cell? ⟨bV5, 8, none⟩ = some (.slice a8_R_5 (entE vM.fEntries vX).fReads.length c8_R_5) := (hst10.cell (p := ⟨bV5, 8, none⟩) sz9_w0).trans bx9_w0_8; have sz10_x0 : w6.heap.size < w10.heap.size := Nat.lt_of_lt_of_le sz9_x0 hst10.size; have bx10_x0_0 : w10.cell? ⟨w6.heap.size, 0, none⟩ = some (.slice a0_vM_6 vM.fEntries.length c0_vM_6) := (hst10.cell (p := ⟨w6.heap.size, 0, none⟩) sz9_x0).trans bx9_x0_0; have bx10_x0_1 : w10.cell? ⟨w6.heap.size, 1, none⟩ = some (.slice a1_vM_6 vM.fEvaluated.length c1_vM_6) := (hst10.cell (p := ⟨w6.heap.size, 1, none⟩) sz9_x0).trans bx9_x0_1; have sz10_g0 : bV8 < w10.heap.size := Nat.lt_of_lt_of_le sz9_g0 hst10.size; have bx10_g0_0 : w10.cell? ⟨bV8, 0, none⟩ = some (.int .i64 (entE vM.fEntries vX).fAt.fNode) := (hst10.cell (p := ⟨bV8, 0, none⟩) sz9_g0).trans bx9_g0_0; have bx10_g0_1 : w10.cell? ⟨bV8, 1, none⟩ = some (.string (entE vM.fEntries vX).fAt.fName) := (hst10.cell (p := ⟨bV8, 1, none⟩) sz9_g0).trans bx9_g0_1; have bx10_g0_2 : w10.cell? ⟨bV8, 2, none⟩ = some (.int .i64 (entE vM.fEntries vX).fValue) := (hst10.cell (p := ⟨bV8, 2, none⟩) sz9_g0).trans bx9_g0_2; have bx10_g0_3 : w10.cell? ⟨bV8, 3, none⟩ = some (.int .i64 (entE vM.fEntries vX).fOwner) := (hst10.cell (p := ⟨bV8, 3, none⟩) sz9_g0).trans bx9_g0_3; have bx10_g0_4 : w10.cell? ⟨bV8, 4, none⟩ = some (.int .i64 (entE vM.fEntries vX).fLiteral) := (hst10.cell (p := ⟨bV8, 4, none⟩) sz9_g0).trans bx9_g0_4; have bx10_g0_5 : w10.cell? ⟨bV8, 5, none⟩ = some (.string (entE vM.fEntries vX).fRule) := (hst10.cell (p := ⟨bV8, 5, none⟩) sz9_g0).trans bx9_g0_5; have bx10_g0_6 : w10.cell? ⟨bV8, 6, none⟩ = some (.slice a6_R_8 (entE vM.fEntries vX).fIds.length c6_R_8) := (hst10.cell (p := ⟨bV8, 6, none⟩) sz9_g0).trans bx9_g0_6; have bx10_g0_7 : w10.cell? ⟨bV8, 7, none⟩ = some (.slice a7_R_8 (entE vM.fEntries vX).fShape.length c7_R_8) := (hst10.cell (p := ⟨bV8, 7, none⟩) sz9_g0).trans bx9_g0_7; have bx10_g0_8 : w10.cell? ⟨bV8, 8, none⟩ = some (.slice a8_R_8 (entE vM.fEntries vX).fReads.length c8_R_8) := (hst10.cell (p := ⟨bV8, 8, none⟩) sz9_g0).trans bx9_g0_8; have HO10_6_R_5 := Lib.hid (HO9_6_R_5.out.kept (Kept.of_below_all hst10)); have HO10_7_R_5 := Lib.hid (HO9_7_R_5.out.kept (Kept.of_below_all hst10)); have HO10_8_R_5 := Lib.hid (HO9_8_R_5.out.kept (Kept.of_below_all hst10)); have HO10_0_vM_6 := Lib.hid (HO9_0_vM_6.out.kept (Kept.of_below_all hst10)); have HO10_1_vM_6 := Lib.hid (HO9_1_vM_6.out.kept (Kept.of_below_all hst10)); have HO10_6_R_8 := Lib.hid (HO9_6_R_8.out.kept (Kept.of_below_all hst10)); have HO10_7_R_8 := Lib.hid (HO9_7_R_8.out.kept (Kept.of_below_all hst10)); have HO10_8_R_8 := Lib.hid (HO9_8_R_8.out.kept (Kept.of_below_all hst10)); have HR10_vM_6 := Lib.hid (HR9_vM_6.out.kept (Kept.of_below_all hst10)); have HR10_R_8 := Lib.hid (HR9_R_8.out.kept (Kept.of_below_all hst10)); have HO10_0_vM_10 := Lib.hid (show Own w10 (fun y => w9.heap.size ≤ y ∧ y < w10.heap.size) (.sl 9 vM.fEntries.length (fun k => DEntry.ct (vM.fEntries.getD k default))) (.slice a0_vM_10 vM.fEntries.length c0_vM_10) from Own.sub (F := fun y => _ ≤ y ∧ y < _) (OwnR.at ho10 0 (by decide)) (fun y hy => ⟨Nat.le_trans (by first | exact Nat.le_refl _ | (simp; done) | (simp; omega) | (simp [World.setCell]; done) | (simp [World.setCell]; omega)) hy.1, hy.2⟩)); have HO10_1_vM_10 := Lib.hid (show Own w10 (fun y => w9.heap.size ≤ y ∧ y < w10.heap.size) (.sl 2 vM.fEvaluated.length (fun k => DInstance.ct (vM.fEvaluated.getD k default))) (.slice a1_vM_10 vM.fEvaluated.length c1_vM_10) from Own.sub (F := fun y => _ ≤ y ∧ y < _) (OwnR.at ho10 1 (by decide)) (fun y hy => ⟨Nat.le_trans (by first | exact Nat.le_refl _ | (simp; done) | (simp; omega) | (simp [World.setCell]; done) | (simp [World.setCell]; omega)) hy.1, hy.2⟩)); have HB10 := Lib.hid (HB9.out.trans (hst10.mono HB9.out.size)); clear bx9_paM_0 bx9_paM_1 sz9_paM bx9_paX_0 bx9_paX_1 sz9_paX bx9_w0_0 bx9_w0_1 bx9_w0_2 bx9_w0_3 bx9_w0_4 bx9_w0_5 bx9_w0_6 bx9_w0_7 bx9_w0_8 sz9_w0 bx9_x0_0 bx9_x0_1 sz9_x0 bx9_g0_0 bx9_g0_1 bx9_g0_2 bx9_g0_3 bx9_g0_4 bx9_g0_5 bx9_g0_6 bx9_g0_7 bx9_g0_8 sz9_g0 HO9_6_R_5 HO9_7_R_5 HO9_8_R_5 HO9_0_vM_6 HO9_1_vM_6 HO9_6_R_8 HO9_7_R_8 HO9_8_R_8 HR9_vM_6 HR9_R_8 ho10 hb10 hst10 HB9) | (go_at_call 11; refine (laws_eqMemo (c0 := c0_vM_6) (c1 := c1_vM_6) (c0q := c0_vM_10) (c1q := c1_vM_10) vM hq_vM _ (Below.size (by repeat (first | (with_reducible exact Below.refl _ _) | (with_reducible apply Below.drew) | (with_reducible refine below_drewN ?_ _) | (refine Below.setCell ?_ (by simp <;> omega) _) | (refine Below.alloc ?_ (by simp <;> omega) _)) : Below w10.heap.size w10 _)) (Below.size (by repeat (first | (with_reducible exact Below.refl _ _) | (with_reducible apply Below.drew) | (with_reducible refine below_drewN ?_ _) | (refine Below.setCell ?_ (by simp <;> omega) _) | (refine Below.alloc ?_ (by simp <;> omega) _)) : Below w10.heap.size w10 _)) ((Sl.of (HO10_0_vM_6.out.lies (lo := 0) (hi := w10.heap.size) (fun y hy => ⟨Nat.zero_le _, by have := hy.2; omega⟩))).later (by repeat (first | (with_reducible exact Below.refl _ _) | (with_reducible apply Below.drew) | (with_reducible refine below_drewN ?_ _) | (refine Below.setCell ?_ (by simp <;> omega) _) | (refine Below.alloc ?_ (by simp <;> omega) _)) : Below w10.heap.size w10 _) (Nat.le_refl _)) ((Sl.of (HO10_1_vM_6.out.lies (lo := 0) (hi := w10.heap.size) (fun y hy => ⟨Nat.zero_le _, by have := hy.2; omega⟩))).later (by repeat (first | (with_reducible exact Below.refl _ _) | (with_reducible apply Below.drew) | (with_reducible refine below_drewN ?_ _) | (refine Below.setCell ?_ (by simp <;> omega) _) | (refine Below.alloc ?_ (by simp <;> omega) _)) : Below w10.heap.size w10 _) (Nat.le_refl _)) ((Sl.of (HO10_0_vM_10.out.lies (lo := 0) (hi := w10.heap.size) (fun y hy => ⟨Nat.zero_le _, by have := hy.2; omega⟩))).later (by repeat (first | (with_reducible exact Below.refl _ _) | (with_reducible apply Below.drew) | (with_reducible refine below_drewN ?_ _) | (refine Below.setCell ?_ (by simp <;> omega) _) | (refine Below.alloc ?_ (by simp <;> omega) _)) : Below w10.heap.size w10 _) (Nat.le_refl _)) ((Sl.of (HO10_1_vM_10.out.lies (lo := 0) (hi := w10.heap.size) (fun y hy => ⟨Nat.zero_le _, by have := hy.2; omega⟩))).later (by repeat (first | (with_reducible exact Below.refl _ _) | (with_reducible apply Below.drew) | (with_reducible refine below_drewN ?_ _) | (refine Below.setCell ?_ (by simp <;> omega) _) | (refine Below.alloc ?_ (by simp <;> omega) _)) : Below w10.heap.size w10 _) (Nat.le_refl _))).mono ?_; rintro e w11 ⟨rfl, hb11⟩; have hst11 : Below w10.heap.size w10 w11 := Below.trans (by repeat (first | (with_reducible exact Below.refl _ _) | (with_reducible apply Below.drew) | (with_reducible refine below_drewN ?_ _) | (refine Below.setCell ?_ (by simp <;> omega) _) | (refine Below.alloc ?_ (by simp <;> omega) _)) : Below w10.heap.size w10 _) (hb11.mono (Below.size (by repeat (first | (with_reducible exact Below.refl _ _) | (with_reducible apply Below.drew) | (with_reducible refine below_drewN ?_ _) | (refine Below.setCell ?_ (by simp <;> omega) _) | (refine Below.alloc ?_ (by simp <;> omega) _)) : Below w10.heap.size w10 _))); have hr11 : w10.heap.size ≤ w11.heap.size := Nat.le_trans (by first | exact Nat.le_refl _ | (simp; done) | (simp; omega) | (simp [World.setCell]; done) | (simp [World.setCell]; omega)) hb11.size; have sz11_paM : w.heap.size < w11.heap.size := Nat.lt_of_lt_of_le sz10_paM hst11.size; have bx11_paM_0 : w11.cell? ⟨w.heap.size, 0, none⟩ = some (.slice a0_vM vM.fEntries.length c0_vM) := (hst11.cell (p := ⟨w.heap.size, 0, none⟩) sz10_paM).trans bx10_paM_0; have bx11_paM_1 : w11.cell? ⟨w.heap.size, 1, none⟩ = some (.slice a1_vM vM.fEvaluated.length c1_vM) := (hst11.cell (p := ⟨w.heap.size, 1, none⟩) sz10_paM).trans bx10_paM_1; have sz11_paX : w.heap.size + 1 < w11.heap.size := Nat.lt_of_lt_of_le sz10_paX hst11.size; have bx11_paX_0 : w11.cell? ⟨w.heap.size + 1, 0, none⟩ = some (.int .i64 vX.fNode) := (hst11.cell (p := ⟨w.heap.size + 1, 0, none⟩) sz10_paX).trans bx10_paX_0; have bx11_paX_1 : w11.cell? ⟨w.heap.size + 1, 1, none⟩ = some (.string vX.fName) := (hst11.cell (p := ⟨w.heap.size + 1, 1, none⟩) sz10_paX).trans bx10_paX_1; have sz11_w0 : bV5 < w11.heap.size := Nat.lt_of_lt_of_le sz10_w0 hst11.size; have bx11_w0_0 : w11.cell? ⟨bV5, 0, none⟩ = some (.int .i64 (entE vM.fEntries vX).fAt.fNode) := (hst11.cell (p := ⟨bV5, 0, none⟩) sz10_w0).trans bx10_w0_0; have bx11_w0_1 : w11.cell? ⟨bV5, 1, none⟩ = some (.string (entE vM.fEntries vX).fAt.fName) := (hst11.cell (p := ⟨bV5, 1, none⟩) sz10_w0).trans bx10_w0_1; have bx11_w0_2 : w11.cell? ⟨bV5, 2, none⟩ = some (.int .i64 (entE vM.fEntries vX).fValue) := (hst11.cell (p := ⟨bV5, 2, none⟩) sz10_w0).trans bx10_w0_2; have bx11_w0_3 : w11.cell? ⟨bV5, 3, none⟩ = some (.int .i64 (entE vM.fEntries vX).fOwner) := (hst11.cell (p := ⟨bV5, 3, none⟩) sz10_w0).trans bx10_w0_3; have bx11_w0_4 : w11.cell? ⟨bV5, 4, none⟩ = some (.int .i64 (entE vM.fEntries vX).fLiteral) := (hst11.cell (p := ⟨bV5, 4, none⟩) sz10_w0).trans bx10_w0_4; have bx11_w0_5 : w11.cell? ⟨bV5, 5, none⟩ = some (.string (entE vM.fEntries vX).fRule) := (hst11.cell (p := ⟨bV5, 5, none⟩) sz10_w0).trans bx10_w0_5; have bx11_w0_6 : w11.cell? ⟨bV5, 6, none⟩ = some (.slice a6_R_5 (entE vM.fEntries vX).fIds.length c6_R_5) := (hst11.cell (p := ⟨bV5, 6, none⟩) sz10_w0).trans bx10_w0_6; have bx11_w0_7 : w11.cell? ⟨bV5, 7, none⟩ = some (.slice a7_R_5 (entE vM.fEntries vX).fShape.length c7_R_5) := (hst11.cell (p := ⟨bV5, 7, none⟩) sz10_w0).trans bx10_w0_7; have bx11_w0_8 : w11.cell? ⟨bV5, 8, none⟩ = some (.slice a8_R_5 (entE vM.fEntries vX).fReads.length c8_R_5) := (hst11.cell (p := ⟨bV5, 8, none⟩) sz10_w0).trans bx10_w0_8; have sz11_x0 : w6.heap.size < w11.heap.size := Nat.lt_of_lt_of_le sz10_x0 hst11.size; have bx11_x0_0 : w11.cell? ⟨w6.heap.size, 0, none⟩ = some (.slice a0_vM_6 vM.fEntries.length c0_vM_6) := (hst11.cell (p := ⟨w6.heap.size, 0, none⟩) sz10_x0).trans bx10_x0_0; have bx11_x0_1 : w11.cell? ⟨w6.heap.size, 1, none⟩ = some (.slice a1_vM_6 vM.fEvaluated.length c1_vM_6) := (hst11.cell (p := ⟨w6.heap.size, 1, none⟩) sz10_x0).trans bx10_x0_1; have sz11_g0 : bV8 < w11.heap.size := Nat.lt_of_lt_of_le sz10_g0 hst11.size; have bx11_g0_0 : w11.cell? ⟨bV8, 0, none⟩ = some (.int .i64 (entE vM.fEntries vX).fAt.fNode) := (hst11.cell (p := ⟨bV8, 0, none⟩) sz10_g0).trans bx10_g0_0; have bx11_g0_1 : w11.cell? ⟨bV8, 1, none⟩ = some (.string (entE vM.fEntries vX).fAt.fName) := (hst11.cell (p := ⟨bV8, 1, none⟩) sz10_g0).trans bx10_g0_1; have bx11_g0_2 : w11.cell? ⟨bV8, 2, none⟩ = some (.int .i64 (entE vM.fEntries vX).fValue) := (hst11.cell (p := ⟨bV8, 2, none⟩) sz10_g0).trans bx10_g0_2; have bx11_g0_3 : w11.cell? ⟨bV8, 3, none⟩ = some (.int .i64 (entE vM.fEntries vX).fOwner) := (hst11.cell (p := ⟨bV8, 3, none⟩) sz10_g0).trans bx10_g0_3; have bx11_g0_4 : w11.cell? ⟨bV8, 4, none⟩ = some (.int .i64 (entE vM.fEntries vX).fLiteral) := (hst11.cell (p := ⟨bV8, 4, none⟩) sz10_g0).trans bx10_g0_4; have bx11_g0_5 : w11.cell? ⟨bV8, 5, none⟩ = some (.string (entE vM.fEntries vX).fRule) := (hst11.cell (p := ⟨bV8, 5, none⟩) sz10_g0).trans bx10_g0_5; have bx11_g0_6 : w11.cell? ⟨bV8, 6, none⟩ = some (.slice a6_R_8 (entE vM.fEntries vX).fIds.length c6_R_8) := (hst11.cell (p := ⟨bV8, 6, none⟩) sz10_g0).trans bx10_g0_6; have bx11_g0_7 : w11.cell? ⟨bV8, 7, none⟩ = some (.slice a7_R_8 (entE vM.fEntries vX).fShape.length c7_R_8) := (hst11.cell (p := ⟨bV8, 7, none⟩) sz10_g0).trans bx10_g0_7; have bx11_g0_8 : w11.cell? ⟨bV8, 8, none⟩ = some (.slice a8_R_8 (entE vM.fEntries vX).fReads.length c8_R_8) := (hst11.cell (p := ⟨bV8, 8, none⟩) sz10_g0).trans bx10_g0_8; have HO11_6_R_5 := Lib.hid (HO10_6_R_5.out.kept (Kept.of_below_all hst11)); have HO11_7_R_5 := Lib.hid (HO10_7_R_5.out.kept (Kept.of_below_all hst11)); have HO11_8_R_5 := Lib.hid (HO10_8_R_5.out.kept (Kept.of_below_all hst11)); have HO11_0_vM_6 := Lib.hid (HO10_0_vM_6.out.kept (Kept.of_below_all hst11)); have HO11_1_vM_6 := Lib.hid (HO10_1_vM_6.out.kept (Kept.of_below_all hst11)); have HO11_6_R_8 := Lib.hid (HO10_6_R_8.out.kept (Kept.of_below_all hst11)); have HO11_7_R_8 := Lib.hid (HO10_7_R_8.out.kept (Kept.of_below_all hst11)); have HO11_8_R_8 := Lib.hid (HO10_8_R_8.out.kept (Kept.of_below_all hst11)); have HO11_0_vM_10 := Lib.hid (HO10_0_vM_10.out.kept (Kept.of_below_all hst11)); have HO11_1_vM_10 := Lib.hid (HO10_1_vM_10.out.kept (Kept.of_below_all hst11)); have HR11_vM_6 := Lib.hid (HR10_vM_6.out.kept (Kept.of_below_all hst11)); have HR11_R_8 := Lib.hid (HR10_R_8.out.kept (Kept.of_below_all hst11)); have HB11 := Lib.hid (HB10.out.trans (hst11.mono HB10.out.size)); clear bx10_paM_0 bx10_paM_1 sz10_paM bx10_paX_0 bx10_paX_1 sz10_paX bx10_w0_0 bx10_w0_1 bx10_w0_2 bx10_w0_3 bx10_w0_4 bx10_w0_5 bx10_w0_6 bx10_w0_7 bx10_w0_8 sz10_w0 bx10_x0_0 bx10_x0_1 sz10_x0 bx10_g0_0 bx10_g0_1 bx10_g0_2 bx10_g0_3 bx10_g0_4 bx10_g0_5 bx10_g0_6 bx10_g0_7 bx10_g0_8 sz10_g0 HO10_6_R_5 HO10_7_R_5 HO10_8_R_5 HO10_0_vM_6 HO10_1_vM_6 HO10_6_R_8 HO10_7_R_8 HO10_8_R_8 HO10_0_vM_10 HO10_1_vM_10 HR10_vM_6 HR10_R_8 hb11 hst11 HB10)))
          all_goals
            go_wp2_with fail
            refine (wmark_Memo (c0 := c0_vM_6) (c1 := c1_vM_6) vM hq_vM 1 (by omega) (by omega) _ (fun y hy => Nat.lt_of_lt_of_le (show y < w11.heap.size by have := hy.2; omega) (Below.size (by repeat (first | (with_reducible exact Below.refl _ _) | (with_reducible apply Below.drew) | (with_reducible refine below_drewN ?_ _) | (refine Below.setCell ?_ (by simp <;> omega) _) | (refine Below.alloc ?_ (by simp <;> omega) _)) : Below w11.heap.size w11 _))) (HR11_vM_6.out.kept (Kept.of_below (by repeat (first | (with_reducible exact Below.refl _ _) | (with_reducible apply Below.drew) | (with_reducible refine below_drewN ?_ _) | (refine Below.setCell ?_ (by simp <;> omega) _) | (refine Below.alloc ?_ (by simp <;> omega) _)) : Below w11.heap.size w11 _) (fun y hy => by have := hy.2; omega)))).mono ?_
            rintro e w12 ⟨k12, rfl, hka12, hkb12, hw12⟩
            have hkz12 : 1 ≤ k12 ∧ k12 ≤ 4294967296 := by omega
            have hst12 : WritesF (fun y => w5.heap.size ≤ y ∧ y < w6.heap.size) w11 w12 := hw12.of_below (by repeat (first | (with_reducible exact Below.refl _ _) | (with_reducible apply Below.drew) | (with_reducible refine below_drewN ?_ _) | (refine Below.setCell ?_ (by simp <;> omega) _) | (refine Below.alloc ?_ (by simp <;> omega) _)) : Below w11.heap.size w11 _)
            have hr12 : w11.heap.size ≤ w12.heap.size := Nat.le_trans (by first | exact Nat.le_refl _ | (simp; done) | (simp; omega) | (simp [World.setCell]; done) | (simp [World.setCell]; omega)) hw12.size
            have sz12_paM : w.heap.size < w12.heap.size := Nat.lt_of_lt_of_le sz11_paM hst12.size
            have bx12_paM_0 : w12.cell? ⟨w.heap.size, 0, none⟩ = some (.slice a0_vM vM.fEntries.length c0_vM) := (World.cell?_of_block (a := ⟨w.heap.size, 0, none⟩) (hst12.block (w.heap.size) sz11_paM (fun hf => by have h1 := hf.1; have h2 := hf.2; omega))).trans bx11_paM_0
            have bx12_paM_1 : w12.cell? ⟨w.heap.size, 1, none⟩ = some (.slice a1_vM vM.fEvaluated.length c1_vM) := (World.cell?_of_block (a := ⟨w.heap.size, 1, none⟩) (hst12.block (w.heap.size) sz11_paM (fun hf => by have h1 := hf.1; have h2 := hf.2; omega))).trans bx11_paM_1
            have sz12_paX : w.heap.size + 1 < w12.heap.size := Nat.lt_of_lt_of_le sz11_paX hst12.size
            have bx12_paX_0 : w12.cell? ⟨w.heap.size + 1, 0, none⟩ = some (.int .i64 vX.fNode) := (World.cell?_of_block (a := ⟨w.heap.size + 1, 0, none⟩) (hst12.block (w.heap.size + 1) sz11_paX (fun hf => by have h1 := hf.1; have h2 := hf.2; omega))).trans bx11_paX_0
            have bx12_paX_1 : w12.cell? ⟨w.heap.size + 1, 1, none⟩ = some (.string vX.fName) := (World.cell?_of_block (a := ⟨w.heap.size + 1, 1, none⟩) (hst12.block (w.heap.size + 1) sz11_paX (fun hf => by have h1 := hf.1; have h2 := hf.2; omega))).trans bx11_paX_1
            have sz12_w0 : bV5 < w12.heap.size := Nat.lt_of_lt_of_le sz11_w0 hst12.size
            have bx12_w0_0 : w12.cell? ⟨bV5, 0, none⟩ = some (.int .i64 (entE vM.fEntries vX).fAt.fNode) := (World.cell?_of_block (a := ⟨bV5, 0, none⟩) (hst12.block (bV5) sz11_w0 (fun hf => by have h1 := hf.1; have h2 := hf.2; omega))).trans bx11_w0_0
            have bx12_w0_1 : w12.cell? ⟨bV5, 1, none⟩ = some (.string (entE vM.fEntries vX).fAt.fName) := (World.cell?_of_block (a := ⟨bV5, 1, none⟩) (hst12.block (bV5) sz11_w0 (fun hf => by have h1 := hf.1; have h2 := hf.2; omega))).trans bx11_w0_1
            have bx12_w0_2 : w12.cell? ⟨bV5, 2, none⟩ = some (.int .i64 (entE vM.fEntries vX).fValue) := (World.cell?_of_block (a := ⟨bV5, 2, none⟩) (hst12.block (bV5) sz11_w0 (fun hf => by have h1 := hf.1; have h2 := hf.2; omega))).trans bx11_w0_2
            have bx12_w0_3 : w12.cell? ⟨bV5, 3, none⟩ = some (.int .i64 (entE vM.fEntries vX).fOwner) := (World.cell?_of_block (a := ⟨bV5, 3, none⟩) (hst12.block (bV5) sz11_w0 (fun hf => by have h1 := hf.1; have h2 := hf.2; omega))).trans bx11_w0_3
            have bx12_w0_4 : w12.cell? ⟨bV5, 4, none⟩ = some (.int .i64 (entE vM.fEntries vX).fLiteral) := (World.cell?_of_block (a := ⟨bV5, 4, none⟩) (hst12.block (bV5) sz11_w0 (fun hf => by have h1 := hf.1; have h2 := hf.2; omega))).trans bx11_w0_4
            have bx12_w0_5 : w12.cell? ⟨bV5, 5, none⟩ = some (.string (entE vM.fEntries vX).fRule) := (World.cell?_of_block (a := ⟨bV5, 5, none⟩) (hst12.block (bV5) sz11_w0 (fun hf => by have h1 := hf.1; have h2 := hf.2; omega))).trans bx11_w0_5
            have bx12_w0_6 : w12.cell? ⟨bV5, 6, none⟩ = some (.slice a6_R_5 (entE vM.fEntries vX).fIds.length c6_R_5) := (World.cell?_of_block (a := ⟨bV5, 6, none⟩) (hst12.block (bV5) sz11_w0 (fun hf => by have h1 := hf.1; have h2 := hf.2; omega))).trans bx11_w0_6
            have bx12_w0_7 : w12.cell? ⟨bV5, 7, none⟩ = some (.slice a7_R_5 (entE vM.fEntries vX).fShape.length c7_R_5) := (World.cell?_of_block (a := ⟨bV5, 7, none⟩) (hst12.block (bV5) sz11_w0 (fun hf => by have h1 := hf.1; have h2 := hf.2; omega))).trans bx11_w0_7
            have bx12_w0_8 : w12.cell? ⟨bV5, 8, none⟩ = some (.slice a8_R_5 (entE vM.fEntries vX).fReads.length c8_R_5) := (World.cell?_of_block (a := ⟨bV5, 8, none⟩) (hst12.block (bV5) sz11_w0 (fun hf => by have h1 := hf.1; have h2 := hf.2; omega))).trans bx11_w0_8
            have sz12_x0 : w6.heap.size < w12.heap.size := Nat.lt_of_lt_of_le sz11_x0 hst12.size
            have bx12_x0_0 : w12.cell? ⟨w6.heap.size, 0, none⟩ = some (.slice a0_vM_6 vM.fEntries.length c0_vM_6) := (World.cell?_of_block (a := ⟨w6.heap.size, 0, none⟩) (hst12.block (w6.heap.size) sz11_x0 (fun hf => by have h1 := hf.1; have h2 := hf.2; omega))).trans bx11_x0_0
            have bx12_x0_1 : w12.cell? ⟨w6.heap.size, 1, none⟩ = some (.slice a1_vM_6 vM.fEvaluated.length c1_vM_6) := (World.cell?_of_block (a := ⟨w6.heap.size, 1, none⟩) (hst12.block (w6.heap.size) sz11_x0 (fun hf => by have h1 := hf.1; have h2 := hf.2; omega))).trans bx11_x0_1
            have sz12_g0 : bV8 < w12.heap.size := Nat.lt_of_lt_of_le sz11_g0 hst12.size
            have bx12_g0_0 : w12.cell? ⟨bV8, 0, none⟩ = some (.int .i64 (entE vM.fEntries vX).fAt.fNode) := (World.cell?_of_block (a := ⟨bV8, 0, none⟩) (hst12.block (bV8) sz11_g0 (fun hf => by have h1 := hf.1; have h2 := hf.2; omega))).trans bx11_g0_0
            have bx12_g0_1 : w12.cell? ⟨bV8, 1, none⟩ = some (.string (entE vM.fEntries vX).fAt.fName) := (World.cell?_of_block (a := ⟨bV8, 1, none⟩) (hst12.block (bV8) sz11_g0 (fun hf => by have h1 := hf.1; have h2 := hf.2; omega))).trans bx11_g0_1
            have bx12_g0_2 : w12.cell? ⟨bV8, 2, none⟩ = some (.int .i64 (entE vM.fEntries vX).fValue) := (World.cell?_of_block (a := ⟨bV8, 2, none⟩) (hst12.block (bV8) sz11_g0 (fun hf => by have h1 := hf.1; have h2 := hf.2; omega))).trans bx11_g0_2
            have bx12_g0_3 : w12.cell? ⟨bV8, 3, none⟩ = some (.int .i64 (entE vM.fEntries vX).fOwner) := (World.cell?_of_block (a := ⟨bV8, 3, none⟩) (hst12.block (bV8) sz11_g0 (fun hf => by have h1 := hf.1; have h2 := hf.2; omega))).trans bx11_g0_3
            have bx12_g0_4 : w12.cell? ⟨bV8, 4, none⟩ = some (.int .i64 (entE vM.fEntries vX).fLiteral) := (World.cell?_of_block (a := ⟨bV8, 4, none⟩) (hst12.block (bV8) sz11_g0 (fun hf => by have h1 := hf.1; have h2 := hf.2; omega))).trans bx11_g0_4
            have bx12_g0_5 : w12.cell? ⟨bV8, 5, none⟩ = some (.string (entE vM.fEntries vX).fRule) := (World.cell?_of_block (a := ⟨bV8, 5, none⟩) (hst12.block (bV8) sz11_g0 (fun hf => by have h1 := hf.1; have h2 := hf.2; omega))).trans bx11_g0_5
            have bx12_g0_6 : w12.cell? ⟨bV8, 6, none⟩ = some (.slice a6_R_8 (entE vM.fEntries vX).fIds.length c6_R_8) := (World.cell?_of_block (a := ⟨bV8, 6, none⟩) (hst12.block (bV8) sz11_g0 (fun hf => by have h1 := hf.1; have h2 := hf.2; omega))).trans bx11_g0_6
            have bx12_g0_7 : w12.cell? ⟨bV8, 7, none⟩ = some (.slice a7_R_8 (entE vM.fEntries vX).fShape.length c7_R_8) := (World.cell?_of_block (a := ⟨bV8, 7, none⟩) (hst12.block (bV8) sz11_g0 (fun hf => by have h1 := hf.1; have h2 := hf.2; omega))).trans bx11_g0_7
            have bx12_g0_8 : w12.cell? ⟨bV8, 8, none⟩ = some (.slice a8_R_8 (entE vM.fEntries vX).fReads.length c8_R_8) := (World.cell?_of_block (a := ⟨bV8, 8, none⟩) (hst12.block (bV8) sz11_g0 (fun hf => by have h1 := hf.1; have h2 := hf.2; omega))).trans bx11_g0_8
            have HO12_6_R_5 := Lib.hid (HO11_6_R_5.out.kept (hst12.kept (fun y hy hf => by have h1 := hy.1; have h2 := hy.2; have h3 := hf.1; have h4 := hf.2; omega)))
            have HO12_7_R_5 := Lib.hid (HO11_7_R_5.out.kept (hst12.kept (fun y hy hf => by have h1 := hy.1; have h2 := hy.2; have h3 := hf.1; have h4 := hf.2; omega)))
            have HO12_8_R_5 := Lib.hid (HO11_8_R_5.out.kept (hst12.kept (fun y hy hf => by have h1 := hy.1; have h2 := hy.2; have h3 := hf.1; have h4 := hf.2; omega)))
            have HO12_6_R_8 := Lib.hid (HO11_6_R_8.out.kept (hst12.kept (fun y hy hf => by have h1 := hy.1; have h2 := hy.2; have h3 := hf.1; have h4 := hf.2; omega)))
            have HO12_7_R_8 := Lib.hid (HO11_7_R_8.out.kept (hst12.kept (fun y hy hf => by have h1 := hy.1; have h2 := hy.2; have h3 := hf.1; have h4 := hf.2; omega)))
            have HO12_8_R_8 := Lib.hid (HO11_8_R_8.out.kept (hst12.kept (fun y hy hf => by have h1 := hy.1; have h2 := hy.2; have h3 := hf.1; have h4 := hf.2; omega)))
            have HO12_0_vM_10 := Lib.hid (HO11_0_vM_10.out.kept (hst12.kept (fun y hy hf => by have h1 := hy.1; have h2 := hy.2; have h3 := hf.1; have h4 := hf.2; omega)))
            have HO12_1_vM_10 := Lib.hid (HO11_1_vM_10.out.kept (hst12.kept (fun y hy hf => by have h1 := hy.1; have h2 := hy.2; have h3 := hf.1; have h4 := hf.2; omega)))
            have HR12_R_8 := Lib.hid (HR11_R_8.out.kept (hst12.kept (fun y hy hf => by have h1 := hy.1; have h2 := hy.2; have h3 := hf.1; have h4 := hf.2; omega)))
            have HB12 := Lib.hid (HB11.out.trans (hst12.below (fun y hy => by have := hy.1; omega) HB11.out.size))
            clear bx11_paM_0 bx11_paM_1 sz11_paM bx11_paX_0 bx11_paX_1 sz11_paX bx11_w0_0 bx11_w0_1 bx11_w0_2 bx11_w0_3 bx11_w0_4 bx11_w0_5 bx11_w0_6 bx11_w0_7 bx11_w0_8 sz11_w0 bx11_x0_0 bx11_x0_1 sz11_x0 bx11_g0_0 bx11_g0_1 bx11_g0_2 bx11_g0_3 bx11_g0_4 bx11_g0_5 bx11_g0_6 bx11_g0_7 bx11_g0_8 sz11_g0 HO11_0_vM_6 HO11_1_vM_6 HO11_6_R_5 HO11_7_R_5 HO11_8_R_5 HO11_6_R_8 HO11_7_R_8 HO11_8_R_8 HO11_0_vM_10 HO11_1_vM_10 HR11_vM_6 HR11_R_8 hw12 hst12 HB11
            go_wp2_with fail
            refine (laws_eqEntry (c6 := c6_R_8) (c7 := c7_R_8) (c8 := c8_R_8) (c6q := c6_R_5) (c7q := c7_R_5) (c8q := c8_R_5) (entE vM.fEntries vX) hq_R _ (Below.size (by repeat (first | (with_reducible exact Below.refl _ _) | (with_reducible apply Below.drew) | (with_reducible refine below_drewN ?_ _) | (refine Below.setCell ?_ (by simp <;> omega) _) | (refine Below.alloc ?_ (by simp <;> omega) _)) : Below w12.heap.size w12 _)) (Below.size (by repeat (first | (with_reducible exact Below.refl _ _) | (with_reducible apply Below.drew) | (with_reducible refine below_drewN ?_ _) | (refine Below.setCell ?_ (by simp <;> omega) _) | (refine Below.alloc ?_ (by simp <;> omega) _)) : Below w12.heap.size w12 _)) ((Sl.of (HO12_6_R_8.out.lies (lo := 0) (hi := w12.heap.size) (fun y hy => ⟨Nat.zero_le _, by have := hy.2; omega⟩))).later (by repeat (first | (with_reducible exact Below.refl _ _) | (with_reducible apply Below.drew) | (with_reducible refine below_drewN ?_ _) | (refine Below.setCell ?_ (by simp <;> omega) _) | (refine Below.alloc ?_ (by simp <;> omega) _)) : Below w12.heap.size w12 _) (Nat.le_refl _)) ((Sl.of (HO12_7_R_8.out.lies (lo := 0) (hi := w12.heap.size) (fun y hy => ⟨Nat.zero_le _, by have := hy.2; omega⟩))).later (by repeat (first | (with_reducible exact Below.refl _ _) | (with_reducible apply Below.drew) | (with_reducible refine below_drewN ?_ _) | (refine Below.setCell ?_ (by simp <;> omega) _) | (refine Below.alloc ?_ (by simp <;> omega) _)) : Below w12.heap.size w12 _) (Nat.le_refl _)) ((Sl.of (HO12_8_R_8.out.lies (lo := 0) (hi := w12.heap.size) (fun y hy => ⟨Nat.zero_le _, by have := hy.2; omega⟩))).later (by repeat (first | (with_reducible exact Below.refl _ _) | (with_reducible apply Below.drew) | (with_reducible refine below_drewN ?_ _) | (refine Below.setCell ?_ (by simp <;> omega) _) | (refine Below.alloc ?_ (by simp <;> omega) _)) : Below w12.heap.size w12 _) (Nat.le_refl _)) ((Sl.of (HO12_6_R_5.out.lies (lo := 0) (hi := w12.heap.size) (fun y hy => ⟨Nat.zero_le _, by have := hy.2; omega⟩))).later (by repeat (first | (with_reducible exact Below.refl _ _) | (with_reducible apply Below.drew) | (with_reducible refine below_drewN ?_ _) | (refine Below.setCell ?_ (by simp <;> omega) _) | (refine Below.alloc ?_ (by simp <;> omega) _)) : Below w12.heap.size w12 _) (Nat.le_refl _)) ((Sl.of (HO12_7_R_5.out.lies (lo := 0) (hi := w12.heap.size) (fun y hy => ⟨Nat.zero_le _, by have := hy.2; omega⟩))).later (by repeat (first | (with_reducible exact Below.refl _ _) | (with_reducible apply Below.drew) | (with_reducible refine below_drewN ?_ _) | (refine Below.setCell ?_ (by simp <;> omega) _) | (refine Below.alloc ?_ (by simp <;> omega) _)) : Below w12.heap.size w12 _) (Nat.le_refl _)) ((Sl.of (HO12_8_R_5.out.lies (lo := 0) (hi := w12.heap.size) (fun y hy => ⟨Nat.zero_le _, by have := hy.2; omega⟩))).later (by repeat (first | (with_reducible exact Below.refl _ _) | (with_reducible apply Below.drew) | (with_reducible refine below_drewN ?_ _) | (refine Below.setCell ?_ (by simp <;> omega) _) | (refine Below.alloc ?_ (by simp <;> omega) _)) : Below w12.heap.size w12 _) (Nat.le_refl _))).mono ?_
            rintro e w13 ⟨rfl, hb13⟩
            have hst13 : Below w12.heap.size w12 w13 := Below.trans (by repeat (first | (with_reducible exact Below.refl _ _) | (with_reducible apply Below.drew) | (with_reducible refine below_drewN ?_ _) | (refine Below.setCell ?_ (by simp <;> omega) _) | (refine Below.alloc ?_ (by simp <;> omega) _)) : Below w12.heap.size w12 _) (hb13.mono (Below.size (by repeat (first | (with_reducible exact Below.refl _ _) | (with_reducible apply Below.drew) | (with_reducible refine below_drewN ?_ _) | (refine Below.setCell ?_ (by simp <;> omega) _) | (refine Below.alloc ?_ (by simp <;> omega) _)) : Below w12.heap.size w12 _)))
            have hr13 : w12.heap.size ≤ w13.heap.size := Nat.le_trans (by first | exact Nat.le_refl _ | (simp; done) | (simp; omega) | (simp [World.setCell]; done) | (simp [World.setCell]; omega)) hb13.size
            have sz13_paM : w.heap.size < w13.heap.size := Nat.lt_of_lt_of_le sz12_paM hst13.size
            have bx13_paM_0 : w13.cell? ⟨w.heap.size, 0, none⟩ = some (.slice a0_vM vM.fEntries.length c0_vM) := (hst13.cell (p := ⟨w.heap.size, 0, none⟩) sz12_paM).trans bx12_paM_0
            have bx13_paM_1 : w13.cell? ⟨w.heap.size, 1, none⟩ = some (.slice a1_vM vM.fEvaluated.length c1_vM) := (hst13.cell (p := ⟨w.heap.size, 1, none⟩) sz12_paM).trans bx12_paM_1
            have sz13_paX : w.heap.size + 1 < w13.heap.size := Nat.lt_of_lt_of_le sz12_paX hst13.size
            have bx13_paX_0 : w13.cell? ⟨w.heap.size + 1, 0, none⟩ = some (.int .i64 vX.fNode) := (hst13.cell (p := ⟨w.heap.size + 1, 0, none⟩) sz12_paX).trans bx12_paX_0
            have bx13_paX_1 : w13.cell? ⟨w.heap.size + 1, 1, none⟩ = some (.string vX.fName) := (hst13.cell (p := ⟨w.heap.size + 1, 1, none⟩) sz12_paX).trans bx12_paX_1
            have sz13_w0 : bV5 < w13.heap.size := Nat.lt_of_lt_of_le sz12_w0 hst13.size
            have bx13_w0_0 : w13.cell? ⟨bV5, 0, none⟩ = some (.int .i64 (entE vM.fEntries vX).fAt.fNode) := (hst13.cell (p := ⟨bV5, 0, none⟩) sz12_w0).trans bx12_w0_0
            have bx13_w0_1 : w13.cell? ⟨bV5, 1, none⟩ = some (.string (entE vM.fEntries vX).fAt.fName) := (hst13.cell (p := ⟨bV5, 1, none⟩) sz12_w0).trans bx12_w0_1
            have bx13_w0_2 : w13.cell? ⟨bV5, 2, none⟩ = some (.int .i64 (entE vM.fEntries vX).fValue) := (hst13.cell (p := ⟨bV5, 2, none⟩) sz12_w0).trans bx12_w0_2
            have bx13_w0_3 : w13.cell? ⟨bV5, 3, none⟩ = some (.int .i64 (entE vM.fEntries vX).fOwner) := (hst13.cell (p := ⟨bV5, 3, none⟩) sz12_w0).trans bx12_w0_3
            have bx13_w0_4 : w13.cell? ⟨bV5, 4, none⟩ = some (.int .i64 (entE vM.fEntries vX).fLiteral) := (hst13.cell (p := ⟨bV5, 4, none⟩) sz12_w0).trans bx12_w0_4
            have bx13_w0_5 : w13.cell? ⟨bV5, 5, none⟩ = some (.string (entE vM.fEntries vX).fRule) := (hst13.cell (p := ⟨bV5, 5, none⟩) sz12_w0).trans bx12_w0_5
            have bx13_w0_6 : w13.cell? ⟨bV5, 6, none⟩ = some (.slice a6_R_5 (entE vM.fEntries vX).fIds.length c6_R_5) := (hst13.cell (p := ⟨bV5, 6, none⟩) sz12_w0).trans bx12_w0_6
            have bx13_w0_7 : w13.cell? ⟨bV5, 7, none⟩ = some (.slice a7_R_5 (entE vM.fEntries vX).fShape.length c7_R_5) := (hst13.cell (p := ⟨bV5, 7, none⟩) sz12_w0).trans bx12_w0_7
            have bx13_w0_8 : w13.cell? ⟨bV5, 8, none⟩ = some (.slice a8_R_5 (entE vM.fEntries vX).fReads.length c8_R_5) := (hst13.cell (p := ⟨bV5, 8, none⟩) sz12_w0).trans bx12_w0_8
            have sz13_x0 : w6.heap.size < w13.heap.size := Nat.lt_of_lt_of_le sz12_x0 hst13.size
            have bx13_x0_0 : w13.cell? ⟨w6.heap.size, 0, none⟩ = some (.slice a0_vM_6 vM.fEntries.length c0_vM_6) := (hst13.cell (p := ⟨w6.heap.size, 0, none⟩) sz12_x0).trans bx12_x0_0
            have bx13_x0_1 : w13.cell? ⟨w6.heap.size, 1, none⟩ = some (.slice a1_vM_6 vM.fEvaluated.length c1_vM_6) := (hst13.cell (p := ⟨w6.heap.size, 1, none⟩) sz12_x0).trans bx12_x0_1
            have sz13_g0 : bV8 < w13.heap.size := Nat.lt_of_lt_of_le sz12_g0 hst13.size
            have bx13_g0_0 : w13.cell? ⟨bV8, 0, none⟩ = some (.int .i64 (entE vM.fEntries vX).fAt.fNode) := (hst13.cell (p := ⟨bV8, 0, none⟩) sz12_g0).trans bx12_g0_0
            have bx13_g0_1 : w13.cell? ⟨bV8, 1, none⟩ = some (.string (entE vM.fEntries vX).fAt.fName) := (hst13.cell (p := ⟨bV8, 1, none⟩) sz12_g0).trans bx12_g0_1
            have bx13_g0_2 : w13.cell? ⟨bV8, 2, none⟩ = some (.int .i64 (entE vM.fEntries vX).fValue) := (hst13.cell (p := ⟨bV8, 2, none⟩) sz12_g0).trans bx12_g0_2
            have bx13_g0_3 : w13.cell? ⟨bV8, 3, none⟩ = some (.int .i64 (entE vM.fEntries vX).fOwner) := (hst13.cell (p := ⟨bV8, 3, none⟩) sz12_g0).trans bx12_g0_3
            have bx13_g0_4 : w13.cell? ⟨bV8, 4, none⟩ = some (.int .i64 (entE vM.fEntries vX).fLiteral) := (hst13.cell (p := ⟨bV8, 4, none⟩) sz12_g0).trans bx12_g0_4
            have bx13_g0_5 : w13.cell? ⟨bV8, 5, none⟩ = some (.string (entE vM.fEntries vX).fRule) := (hst13.cell (p := ⟨bV8, 5, none⟩) sz12_g0).trans bx12_g0_5
            have bx13_g0_6 : w13.cell? ⟨bV8, 6, none⟩ = some (.slice a6_R_8 (entE vM.fEntries vX).fIds.length c6_R_8) := (hst13.cell (p := ⟨bV8, 6, none⟩) sz12_g0).trans bx12_g0_6
            have bx13_g0_7 : w13.cell? ⟨bV8, 7, none⟩ = some (.slice a7_R_8 (entE vM.fEntries vX).fShape.length c7_R_8) := (hst13.cell (p := ⟨bV8, 7, none⟩) sz12_g0).trans bx12_g0_7
            have bx13_g0_8 : w13.cell? ⟨bV8, 8, none⟩ = some (.slice a8_R_8 (entE vM.fEntries vX).fReads.length c8_R_8) := (hst13.cell (p := ⟨bV8, 8, none⟩) sz12_g0).trans bx12_g0_8
            have HO13_6_R_5 := Lib.hid (HO12_6_R_5.out.kept (Kept.of_below_all hst13))
            have HO13_7_R_5 := Lib.hid (HO12_7_R_5.out.kept (Kept.of_below_all hst13))
            have HO13_8_R_5 := Lib.hid (HO12_8_R_5.out.kept (Kept.of_below_all hst13))
            have HO13_6_R_8 := Lib.hid (HO12_6_R_8.out.kept (Kept.of_below_all hst13))
            have HO13_7_R_8 := Lib.hid (HO12_7_R_8.out.kept (Kept.of_below_all hst13))
            have HO13_8_R_8 := Lib.hid (HO12_8_R_8.out.kept (Kept.of_below_all hst13))
            have HO13_0_vM_10 := Lib.hid (HO12_0_vM_10.out.kept (Kept.of_below_all hst13))
            have HO13_1_vM_10 := Lib.hid (HO12_1_vM_10.out.kept (Kept.of_below_all hst13))
            have HR13_R_8 := Lib.hid (HR12_R_8.out.kept (Kept.of_below_all hst13))
            have HB13 := Lib.hid (HB12.out.trans (hst13.mono HB12.out.size))
            clear bx12_paM_0 bx12_paM_1 sz12_paM bx12_paX_0 bx12_paX_1 sz12_paX bx12_w0_0 bx12_w0_1 bx12_w0_2 bx12_w0_3 bx12_w0_4 bx12_w0_5 bx12_w0_6 bx12_w0_7 bx12_w0_8 sz12_w0 bx12_x0_0 bx12_x0_1 sz12_x0 bx12_g0_0 bx12_g0_1 bx12_g0_2 bx12_g0_3 bx12_g0_4 bx12_g0_5 bx12_g0_6 bx12_g0_7 bx12_g0_8 sz12_g0 HO12_6_R_5 HO12_7_R_5 HO12_8_R_5 HO12_6_R_8 HO12_7_R_8 HO12_8_R_8 HO12_0_vM_10 HO12_1_vM_10 HR12_R_8 hb13 hst13 HB12
            go_wp2_with fail
            refine (laws_markEntry (a6 := a6_R_8) (c6 := c6_R_8) (a7 := a7_R_8) (c7 := c7_R_8) (a8 := a8_R_8) (c8 := c8_R_8) (entE vM.fEntries vX) (by have h1 := entM_lens hq_vM vX; omega) (by have h1 := entM_lens hq_vM vX; omega) (by have h1 := entM_lens hq_vM vX; omega) 1 (by omega) (by omega) _ (fun y hy => Nat.lt_of_lt_of_le (show y < w13.heap.size by have := hy.2; omega) (Below.size (by repeat (first | (with_reducible exact Below.refl _ _) | (with_reducible apply Below.drew) | (with_reducible refine below_drewN ?_ _) | (refine Below.setCell ?_ (by simp <;> omega) _) | (refine Below.alloc ?_ (by simp <;> omega) _)) : Below w13.heap.size w13 _))) (HR13_R_8.out.kept (Kept.of_below (by repeat (first | (with_reducible exact Below.refl _ _) | (with_reducible apply Below.drew) | (with_reducible refine below_drewN ?_ _) | (refine Below.setCell ?_ (by simp <;> omega) _) | (refine Below.alloc ?_ (by simp <;> omega) _)) : Below w13.heap.size w13 _) (fun y hy => by have := hy.2; omega)))).mono ?_
            rintro e w14 ⟨rfl, ho14, hw14⟩
            have hst14 : WritesF (fun y => lV8 ≤ y ∧ y < hV8) w13 w14 := hw14.of_below (by repeat (first | (with_reducible exact Below.refl _ _) | (with_reducible apply Below.drew) | (with_reducible refine below_drewN ?_ _) | (refine Below.setCell ?_ (by simp <;> omega) _) | (refine Below.alloc ?_ (by simp <;> omega) _)) : Below w13.heap.size w13 _)
            have hr14 : w13.heap.size ≤ w14.heap.size := Nat.le_trans (by first | exact Nat.le_refl _ | (simp; done) | (simp; omega) | (simp [World.setCell]; done) | (simp [World.setCell]; omega)) hw14.size
            have sz14_paM : w.heap.size < w14.heap.size := Nat.lt_of_lt_of_le sz13_paM hst14.size
            have bx14_paM_0 : w14.cell? ⟨w.heap.size, 0, none⟩ = some (.slice a0_vM vM.fEntries.length c0_vM) := (World.cell?_of_block (a := ⟨w.heap.size, 0, none⟩) (hst14.block (w.heap.size) sz13_paM (fun hf => by have h1 := hf.1; have h2 := hf.2; omega))).trans bx13_paM_0
            have bx14_paM_1 : w14.cell? ⟨w.heap.size, 1, none⟩ = some (.slice a1_vM vM.fEvaluated.length c1_vM) := (World.cell?_of_block (a := ⟨w.heap.size, 1, none⟩) (hst14.block (w.heap.size) sz13_paM (fun hf => by have h1 := hf.1; have h2 := hf.2; omega))).trans bx13_paM_1
            have sz14_paX : w.heap.size + 1 < w14.heap.size := Nat.lt_of_lt_of_le sz13_paX hst14.size
            have bx14_paX_0 : w14.cell? ⟨w.heap.size + 1, 0, none⟩ = some (.int .i64 vX.fNode) := (World.cell?_of_block (a := ⟨w.heap.size + 1, 0, none⟩) (hst14.block (w.heap.size + 1) sz13_paX (fun hf => by have h1 := hf.1; have h2 := hf.2; omega))).trans bx13_paX_0
            have bx14_paX_1 : w14.cell? ⟨w.heap.size + 1, 1, none⟩ = some (.string vX.fName) := (World.cell?_of_block (a := ⟨w.heap.size + 1, 1, none⟩) (hst14.block (w.heap.size + 1) sz13_paX (fun hf => by have h1 := hf.1; have h2 := hf.2; omega))).trans bx13_paX_1
            have sz14_w0 : bV5 < w14.heap.size := Nat.lt_of_lt_of_le sz13_w0 hst14.size
            have bx14_w0_0 : w14.cell? ⟨bV5, 0, none⟩ = some (.int .i64 (entE vM.fEntries vX).fAt.fNode) := (World.cell?_of_block (a := ⟨bV5, 0, none⟩) (hst14.block (bV5) sz13_w0 (fun hf => by have h1 := hf.1; have h2 := hf.2; omega))).trans bx13_w0_0
            have bx14_w0_1 : w14.cell? ⟨bV5, 1, none⟩ = some (.string (entE vM.fEntries vX).fAt.fName) := (World.cell?_of_block (a := ⟨bV5, 1, none⟩) (hst14.block (bV5) sz13_w0 (fun hf => by have h1 := hf.1; have h2 := hf.2; omega))).trans bx13_w0_1
            have bx14_w0_2 : w14.cell? ⟨bV5, 2, none⟩ = some (.int .i64 (entE vM.fEntries vX).fValue) := (World.cell?_of_block (a := ⟨bV5, 2, none⟩) (hst14.block (bV5) sz13_w0 (fun hf => by have h1 := hf.1; have h2 := hf.2; omega))).trans bx13_w0_2
            have bx14_w0_3 : w14.cell? ⟨bV5, 3, none⟩ = some (.int .i64 (entE vM.fEntries vX).fOwner) := (World.cell?_of_block (a := ⟨bV5, 3, none⟩) (hst14.block (bV5) sz13_w0 (fun hf => by have h1 := hf.1; have h2 := hf.2; omega))).trans bx13_w0_3
            have bx14_w0_4 : w14.cell? ⟨bV5, 4, none⟩ = some (.int .i64 (entE vM.fEntries vX).fLiteral) := (World.cell?_of_block (a := ⟨bV5, 4, none⟩) (hst14.block (bV5) sz13_w0 (fun hf => by have h1 := hf.1; have h2 := hf.2; omega))).trans bx13_w0_4
            have bx14_w0_5 : w14.cell? ⟨bV5, 5, none⟩ = some (.string (entE vM.fEntries vX).fRule) := (World.cell?_of_block (a := ⟨bV5, 5, none⟩) (hst14.block (bV5) sz13_w0 (fun hf => by have h1 := hf.1; have h2 := hf.2; omega))).trans bx13_w0_5
            have bx14_w0_6 : w14.cell? ⟨bV5, 6, none⟩ = some (.slice a6_R_5 (entE vM.fEntries vX).fIds.length c6_R_5) := (World.cell?_of_block (a := ⟨bV5, 6, none⟩) (hst14.block (bV5) sz13_w0 (fun hf => by have h1 := hf.1; have h2 := hf.2; omega))).trans bx13_w0_6
            have bx14_w0_7 : w14.cell? ⟨bV5, 7, none⟩ = some (.slice a7_R_5 (entE vM.fEntries vX).fShape.length c7_R_5) := (World.cell?_of_block (a := ⟨bV5, 7, none⟩) (hst14.block (bV5) sz13_w0 (fun hf => by have h1 := hf.1; have h2 := hf.2; omega))).trans bx13_w0_7
            have bx14_w0_8 : w14.cell? ⟨bV5, 8, none⟩ = some (.slice a8_R_5 (entE vM.fEntries vX).fReads.length c8_R_5) := (World.cell?_of_block (a := ⟨bV5, 8, none⟩) (hst14.block (bV5) sz13_w0 (fun hf => by have h1 := hf.1; have h2 := hf.2; omega))).trans bx13_w0_8
            have sz14_x0 : w6.heap.size < w14.heap.size := Nat.lt_of_lt_of_le sz13_x0 hst14.size
            have bx14_x0_0 : w14.cell? ⟨w6.heap.size, 0, none⟩ = some (.slice a0_vM_6 vM.fEntries.length c0_vM_6) := (World.cell?_of_block (a := ⟨w6.heap.size, 0, none⟩) (hst14.block (w6.heap.size) sz13_x0 (fun hf => by have h1 := hf.1; have h2 := hf.2; omega))).trans bx13_x0_0
            have bx14_x0_1 : w14.cell? ⟨w6.heap.size, 1, none⟩ = some (.slice a1_vM_6 vM.fEvaluated.length c1_vM_6) := (World.cell?_of_block (a := ⟨w6.heap.size, 1, none⟩) (hst14.block (w6.heap.size) sz13_x0 (fun hf => by have h1 := hf.1; have h2 := hf.2; omega))).trans bx13_x0_1
            have sz14_g0 : bV8 < w14.heap.size := Nat.lt_of_lt_of_le sz13_g0 hst14.size
            have bx14_g0_0 : w14.cell? ⟨bV8, 0, none⟩ = some (.int .i64 (entE vM.fEntries vX).fAt.fNode) := (World.cell?_of_block (a := ⟨bV8, 0, none⟩) (hst14.block (bV8) sz13_g0 (fun hf => by have h1 := hf.1; have h2 := hf.2; omega))).trans bx13_g0_0
            have bx14_g0_1 : w14.cell? ⟨bV8, 1, none⟩ = some (.string (entE vM.fEntries vX).fAt.fName) := (World.cell?_of_block (a := ⟨bV8, 1, none⟩) (hst14.block (bV8) sz13_g0 (fun hf => by have h1 := hf.1; have h2 := hf.2; omega))).trans bx13_g0_1
            have bx14_g0_2 : w14.cell? ⟨bV8, 2, none⟩ = some (.int .i64 (entE vM.fEntries vX).fValue) := (World.cell?_of_block (a := ⟨bV8, 2, none⟩) (hst14.block (bV8) sz13_g0 (fun hf => by have h1 := hf.1; have h2 := hf.2; omega))).trans bx13_g0_2
            have bx14_g0_3 : w14.cell? ⟨bV8, 3, none⟩ = some (.int .i64 (entE vM.fEntries vX).fOwner) := (World.cell?_of_block (a := ⟨bV8, 3, none⟩) (hst14.block (bV8) sz13_g0 (fun hf => by have h1 := hf.1; have h2 := hf.2; omega))).trans bx13_g0_3
            have bx14_g0_4 : w14.cell? ⟨bV8, 4, none⟩ = some (.int .i64 (entE vM.fEntries vX).fLiteral) := (World.cell?_of_block (a := ⟨bV8, 4, none⟩) (hst14.block (bV8) sz13_g0 (fun hf => by have h1 := hf.1; have h2 := hf.2; omega))).trans bx13_g0_4
            have bx14_g0_5 : w14.cell? ⟨bV8, 5, none⟩ = some (.string (entE vM.fEntries vX).fRule) := (World.cell?_of_block (a := ⟨bV8, 5, none⟩) (hst14.block (bV8) sz13_g0 (fun hf => by have h1 := hf.1; have h2 := hf.2; omega))).trans bx13_g0_5
            have bx14_g0_6 : w14.cell? ⟨bV8, 6, none⟩ = some (.slice a6_R_8 (entE vM.fEntries vX).fIds.length c6_R_8) := (World.cell?_of_block (a := ⟨bV8, 6, none⟩) (hst14.block (bV8) sz13_g0 (fun hf => by have h1 := hf.1; have h2 := hf.2; omega))).trans bx13_g0_6
            have bx14_g0_7 : w14.cell? ⟨bV8, 7, none⟩ = some (.slice a7_R_8 (entE vM.fEntries vX).fShape.length c7_R_8) := (World.cell?_of_block (a := ⟨bV8, 7, none⟩) (hst14.block (bV8) sz13_g0 (fun hf => by have h1 := hf.1; have h2 := hf.2; omega))).trans bx13_g0_7
            have bx14_g0_8 : w14.cell? ⟨bV8, 8, none⟩ = some (.slice a8_R_8 (entE vM.fEntries vX).fReads.length c8_R_8) := (World.cell?_of_block (a := ⟨bV8, 8, none⟩) (hst14.block (bV8) sz13_g0 (fun hf => by have h1 := hf.1; have h2 := hf.2; omega))).trans bx13_g0_8
            have HO14_6_R_5 := Lib.hid (HO13_6_R_5.out.kept (hst14.kept (fun y hy hf => by have h1 := hy.1; have h2 := hy.2; have h3 := hf.1; have h4 := hf.2; omega)))
            have HO14_7_R_5 := Lib.hid (HO13_7_R_5.out.kept (hst14.kept (fun y hy hf => by have h1 := hy.1; have h2 := hy.2; have h3 := hf.1; have h4 := hf.2; omega)))
            have HO14_8_R_5 := Lib.hid (HO13_8_R_5.out.kept (hst14.kept (fun y hy hf => by have h1 := hy.1; have h2 := hy.2; have h3 := hf.1; have h4 := hf.2; omega)))
            have HO14_0_vM_10 := Lib.hid (HO13_0_vM_10.out.kept (hst14.kept (fun y hy hf => by have h1 := hy.1; have h2 := hy.2; have h3 := hf.1; have h4 := hf.2; omega)))
            have HO14_1_vM_10 := Lib.hid (HO13_1_vM_10.out.kept (hst14.kept (fun y hy hf => by have h1 := hy.1; have h2 := hy.2; have h3 := hf.1; have h4 := hf.2; omega)))
            have HR14_R_8 := Lib.hid ho14
            have HB14 := Lib.hid (HB13.out.trans (hst14.below (fun y hy => by have := hy.1; omega) HB13.out.size))
            clear bx13_paM_0 bx13_paM_1 sz13_paM bx13_paX_0 bx13_paX_1 sz13_paX bx13_w0_0 bx13_w0_1 bx13_w0_2 bx13_w0_3 bx13_w0_4 bx13_w0_5 bx13_w0_6 bx13_w0_7 bx13_w0_8 sz13_w0 bx13_x0_0 bx13_x0_1 sz13_x0 bx13_g0_0 bx13_g0_1 bx13_g0_2 bx13_g0_3 bx13_g0_4 bx13_g0_5 bx13_g0_6 bx13_g0_7 bx13_g0_8 sz13_g0 HO13_6_R_8 HO13_7_R_8 HO13_8_R_8 HO13_6_R_5 HO13_7_R_5 HO13_8_R_5 HO13_0_vM_10 HO13_1_vM_10 ho14 HR13_R_8 hw14 hst14 HB13
            go_wp2_with fail
            refine (laws_heldEntry (a6 := a6_R_8) (c6 := c6_R_8) (a7 := a7_R_8) (c7 := c7_R_8) (a8 := a8_R_8) (c8 := c8_R_8) (entE vM.fEntries vX) (by have h1 := entM_lens hq_vM vX; omega) (by have h1 := entM_lens hq_vM vX; omega) (by have h1 := entM_lens hq_vM vX; omega) 1 (by omega) (by omega) _ (fun y hy => Nat.lt_of_lt_of_le (show y < w14.heap.size by have := hy.2; omega) (Below.size (by repeat (first | (with_reducible exact Below.refl _ _) | (with_reducible apply Below.drew) | (with_reducible refine below_drewN ?_ _) | (refine Below.setCell ?_ (by simp <;> omega) _) | (refine Below.alloc ?_ (by simp <;> omega) _)) : Below w14.heap.size w14 _))) (HR14_R_8.out.kept (Kept.of_below (by repeat (first | (with_reducible exact Below.refl _ _) | (with_reducible apply Below.drew) | (with_reducible refine below_drewN ?_ _) | (refine Below.setCell ?_ (by simp <;> omega) _) | (refine Below.alloc ?_ (by simp <;> omega) _)) : Below w14.heap.size w14 _) (fun y hy => by have := hy.2; omega)))).mono ?_
            rintro e w15 ⟨rfl, hb15⟩
            have hst15 : Below w14.heap.size w14 w15 := Below.trans (by repeat (first | (with_reducible exact Below.refl _ _) | (with_reducible apply Below.drew) | (with_reducible refine below_drewN ?_ _) | (refine Below.setCell ?_ (by simp <;> omega) _) | (refine Below.alloc ?_ (by simp <;> omega) _)) : Below w14.heap.size w14 _) (hb15.mono (Below.size (by repeat (first | (with_reducible exact Below.refl _ _) | (with_reducible apply Below.drew) | (with_reducible refine below_drewN ?_ _) | (refine Below.setCell ?_ (by simp <;> omega) _) | (refine Below.alloc ?_ (by simp <;> omega) _)) : Below w14.heap.size w14 _)))
            have hr15 : w14.heap.size ≤ w15.heap.size := Nat.le_trans (by first | exact Nat.le_refl _ | (simp; done) | (simp; omega) | (simp [World.setCell]; done) | (simp [World.setCell]; omega)) hb15.size
            have sz15_paM : w.heap.size < w15.heap.size := Nat.lt_of_lt_of_le sz14_paM hst15.size
            have bx15_paM_0 : w15.cell? ⟨w.heap.size, 0, none⟩ = some (.slice a0_vM vM.fEntries.length c0_vM) := (hst15.cell (p := ⟨w.heap.size, 0, none⟩) sz14_paM).trans bx14_paM_0
            have bx15_paM_1 : w15.cell? ⟨w.heap.size, 1, none⟩ = some (.slice a1_vM vM.fEvaluated.length c1_vM) := (hst15.cell (p := ⟨w.heap.size, 1, none⟩) sz14_paM).trans bx14_paM_1
            have sz15_paX : w.heap.size + 1 < w15.heap.size := Nat.lt_of_lt_of_le sz14_paX hst15.size
            have bx15_paX_0 : w15.cell? ⟨w.heap.size + 1, 0, none⟩ = some (.int .i64 vX.fNode) := (hst15.cell (p := ⟨w.heap.size + 1, 0, none⟩) sz14_paX).trans bx14_paX_0
            have bx15_paX_1 : w15.cell? ⟨w.heap.size + 1, 1, none⟩ = some (.string vX.fName) := (hst15.cell (p := ⟨w.heap.size + 1, 1, none⟩) sz14_paX).trans bx14_paX_1
            have sz15_w0 : bV5 < w15.heap.size := Nat.lt_of_lt_of_le sz14_w0 hst15.size
            have bx15_w0_0 : w15.cell? ⟨bV5, 0, none⟩ = some (.int .i64 (entE vM.fEntries vX).fAt.fNode) := (hst15.cell (p := ⟨bV5, 0, none⟩) sz14_w0).trans bx14_w0_0
            have bx15_w0_1 : w15.cell? ⟨bV5, 1, none⟩ = some (.string (entE vM.fEntries vX).fAt.fName) := (hst15.cell (p := ⟨bV5, 1, none⟩) sz14_w0).trans bx14_w0_1
            have bx15_w0_2 : w15.cell? ⟨bV5, 2, none⟩ = some (.int .i64 (entE vM.fEntries vX).fValue) := (hst15.cell (p := ⟨bV5, 2, none⟩) sz14_w0).trans bx14_w0_2
            have bx15_w0_3 : w15.cell? ⟨bV5, 3, none⟩ = some (.int .i64 (entE vM.fEntries vX).fOwner) := (hst15.cell (p := ⟨bV5, 3, none⟩) sz14_w0).trans bx14_w0_3
            have bx15_w0_4 : w15.cell? ⟨bV5, 4, none⟩ = some (.int .i64 (entE vM.fEntries vX).fLiteral) := (hst15.cell (p := ⟨bV5, 4, none⟩) sz14_w0).trans bx14_w0_4
            have bx15_w0_5 : w15.cell? ⟨bV5, 5, none⟩ = some (.string (entE vM.fEntries vX).fRule) := (hst15.cell (p := ⟨bV5, 5, none⟩) sz14_w0).trans bx14_w0_5
            have bx15_w0_6 : w15.cell? ⟨bV5, 6, none⟩ = some (.slice a6_R_5 (entE vM.fEntries vX).fIds.length c6_R_5) := (hst15.cell (p := ⟨bV5, 6, none⟩) sz14_w0).trans bx14_w0_6
            have bx15_w0_7 : w15.cell? ⟨bV5, 7, none⟩ = some (.slice a7_R_5 (entE vM.fEntries vX).fShape.length c7_R_5) := (hst15.cell (p := ⟨bV5, 7, none⟩) sz14_w0).trans bx14_w0_7
            have bx15_w0_8 : w15.cell? ⟨bV5, 8, none⟩ = some (.slice a8_R_5 (entE vM.fEntries vX).fReads.length c8_R_5) := (hst15.cell (p := ⟨bV5, 8, none⟩) sz14_w0).trans bx14_w0_8
            have sz15_x0 : w6.heap.size < w15.heap.size := Nat.lt_of_lt_of_le sz14_x0 hst15.size
            have bx15_x0_0 : w15.cell? ⟨w6.heap.size, 0, none⟩ = some (.slice a0_vM_6 vM.fEntries.length c0_vM_6) := (hst15.cell (p := ⟨w6.heap.size, 0, none⟩) sz14_x0).trans bx14_x0_0
            have bx15_x0_1 : w15.cell? ⟨w6.heap.size, 1, none⟩ = some (.slice a1_vM_6 vM.fEvaluated.length c1_vM_6) := (hst15.cell (p := ⟨w6.heap.size, 1, none⟩) sz14_x0).trans bx14_x0_1
            have sz15_g0 : bV8 < w15.heap.size := Nat.lt_of_lt_of_le sz14_g0 hst15.size
            have bx15_g0_0 : w15.cell? ⟨bV8, 0, none⟩ = some (.int .i64 (entE vM.fEntries vX).fAt.fNode) := (hst15.cell (p := ⟨bV8, 0, none⟩) sz14_g0).trans bx14_g0_0
            have bx15_g0_1 : w15.cell? ⟨bV8, 1, none⟩ = some (.string (entE vM.fEntries vX).fAt.fName) := (hst15.cell (p := ⟨bV8, 1, none⟩) sz14_g0).trans bx14_g0_1
            have bx15_g0_2 : w15.cell? ⟨bV8, 2, none⟩ = some (.int .i64 (entE vM.fEntries vX).fValue) := (hst15.cell (p := ⟨bV8, 2, none⟩) sz14_g0).trans bx14_g0_2
            have bx15_g0_3 : w15.cell? ⟨bV8, 3, none⟩ = some (.int .i64 (entE vM.fEntries vX).fOwner) := (hst15.cell (p := ⟨bV8, 3, none⟩) sz14_g0).trans bx14_g0_3
            have bx15_g0_4 : w15.cell? ⟨bV8, 4, none⟩ = some (.int .i64 (entE vM.fEntries vX).fLiteral) := (hst15.cell (p := ⟨bV8, 4, none⟩) sz14_g0).trans bx14_g0_4
            have bx15_g0_5 : w15.cell? ⟨bV8, 5, none⟩ = some (.string (entE vM.fEntries vX).fRule) := (hst15.cell (p := ⟨bV8, 5, none⟩) sz14_g0).trans bx14_g0_5
            have bx15_g0_6 : w15.cell? ⟨bV8, 6, none⟩ = some (.slice a6_R_8 (entE vM.fEntries vX).fIds.length c6_R_8) := (hst15.cell (p := ⟨bV8, 6, none⟩) sz14_g0).trans bx14_g0_6
            have bx15_g0_7 : w15.cell? ⟨bV8, 7, none⟩ = some (.slice a7_R_8 (entE vM.fEntries vX).fShape.length c7_R_8) := (hst15.cell (p := ⟨bV8, 7, none⟩) sz14_g0).trans bx14_g0_7
            have bx15_g0_8 : w15.cell? ⟨bV8, 8, none⟩ = some (.slice a8_R_8 (entE vM.fEntries vX).fReads.length c8_R_8) := (hst15.cell (p := ⟨bV8, 8, none⟩) sz14_g0).trans bx14_g0_8
            have HO15_6_R_5 := Lib.hid (HO14_6_R_5.out.kept (Kept.of_below_all hst15))
            have HO15_7_R_5 := Lib.hid (HO14_7_R_5.out.kept (Kept.of_below_all hst15))
            have HO15_8_R_5 := Lib.hid (HO14_8_R_5.out.kept (Kept.of_below_all hst15))
            have HO15_0_vM_10 := Lib.hid (HO14_0_vM_10.out.kept (Kept.of_below_all hst15))
            have HO15_1_vM_10 := Lib.hid (HO14_1_vM_10.out.kept (Kept.of_below_all hst15))
            have HR15_R_8 := Lib.hid (HR14_R_8.out.kept (Kept.of_below_all hst15))
            have HB15 := Lib.hid (HB14.out.trans (hst15.mono HB14.out.size))
            clear bx14_paM_0 bx14_paM_1 sz14_paM bx14_paX_0 bx14_paX_1 sz14_paX bx14_w0_0 bx14_w0_1 bx14_w0_2 bx14_w0_3 bx14_w0_4 bx14_w0_5 bx14_w0_6 bx14_w0_7 bx14_w0_8 sz14_w0 bx14_x0_0 bx14_x0_1 sz14_x0 bx14_g0_0 bx14_g0_1 bx14_g0_2 bx14_g0_3 bx14_g0_4 bx14_g0_5 bx14_g0_6 bx14_g0_7 bx14_g0_8 sz14_g0 HO14_6_R_5 HO14_7_R_5 HO14_8_R_5 HO14_0_vM_10 HO14_1_vM_10 HR14_R_8 hb15 hst15 HB14
            go_upto_region 27 with fail
            go_cut [14, 15] from 84 to 91 (fun sW tW wx => ∃ (bW lW hW : Nat) (aW0 : Option Addr) (cW0 : Nat) (aW1 : Option Addr) (cW1 : Nat) (aW2 : Option Addr) (cW2 : Nat), sW = .pointer (some ⟨bW, 0, none⟩) ∧ tW = .bool (entB vM.fEntries vX) ∧ wx.cell? ⟨bW, 0, none⟩ = some (.int .i64 (entE vM.fEntries vX).fAt.fNode) ∧ wx.cell? ⟨bW, 1, none⟩ = some (.string (entE vM.fEntries vX).fAt.fName) ∧ wx.cell? ⟨bW, 2, none⟩ = some (.int .i64 (entE vM.fEntries vX).fValue) ∧ wx.cell? ⟨bW, 3, none⟩ = some (.int .i64 (entE vM.fEntries vX).fOwner) ∧ wx.cell? ⟨bW, 4, none⟩ = some (.int .i64 (entE vM.fEntries vX).fLiteral) ∧ wx.cell? ⟨bW, 5, none⟩ = some (.string (entE vM.fEntries vX).fRule) ∧ wx.cell? ⟨bW, 6, none⟩ = some (.slice aW0 (entE vM.fEntries vX).fIds.length cW0) ∧ wx.cell? ⟨bW, 7, none⟩ = some (.slice aW1 (entE vM.fEntries vX).fShape.length cW1) ∧ wx.cell? ⟨bW, 8, none⟩ = some (.slice aW2 (entE vM.fEntries vX).fReads.length cW2) ∧ OwnR wx (fun y => lW ≤ y ∧ y < hW) 9 ((entE vM.fEntries vX)).ct (fun j => [.int .i64 (entE vM.fEntries vX).fAt.fNode, .string (entE vM.fEntries vX).fAt.fName, .int .i64 (entE vM.fEntries vX).fValue, .int .i64 (entE vM.fEntries vX).fOwner, .int .i64 (entE vM.fEntries vX).fLiteral, .string (entE vM.fEntries vX).fRule, .slice aW0 (entE vM.fEntries vX).fIds.length cW0, .slice aW1 (entE vM.fEntries vX).fShape.length cW1, .slice aW2 (entE vM.fEntries vX).fReads.length cW2].getD j .nilFunc) ∧ bW < wx.heap.size ∧ w15.heap.size ≤ bW ∧ w15.heap.size ≤ lW ∧ hW ≤ wx.heap.size ∧ (bW < lW ∨ hW ≤ bW) ∧ Below w15.heap.size w15 wx)
            case first =>
              refine wp_region_free [([], none), ([0], none), ([], none), ([2], none), ([1, 3], none), ([4], none), ([5], none), ([5], none), ([], none), ([8, 6], some 8), ([7], none)] [0, 1, 2, 3, 4, 5, 6, 7, 9, 10] (fun jq9 V L H wx => match jq9 with | 0 => V 0 = .agg #[.slice a0_vM vM.fEntries.length c0_vM, .slice a1_vM vM.fEvaluated.length c1_vM] | 1 => ∃ a0_vM_f1 c0_vM_f1 a1_vM_f1 c1_vM_f1, V 1 = .agg #[.slice a0_vM_f1 vM.fEntries.length c0_vM_f1, .slice a1_vM_f1 vM.fEvaluated.length c1_vM_f1] ∧ OwnR wx (fun y => L ≤ y ∧ y < H) 2 vM.ct (fun j => [.slice a0_vM_f1 vM.fEntries.length c0_vM_f1, .slice a1_vM_f1 vM.fEvaluated.length c1_vM_f1].getD j .nilFunc) | 2 => V 2 = .agg #[.int .i64 vX.fNode, .string vX.fName] | 3 => V 3 = .agg #[.int .i64 vX.fNode, .string vX.fName] | 4 => ∃ a6_R_f4 c6_R_f4 a7_R_f4 c7_R_f4 a8_R_f4 c8_R_f4, V 4 = .tuple #[.agg #[.int .i64 (entE vM.fEntries vX).fAt.fNode, .string (entE vM.fEntries vX).fAt.fName, .int .i64 (entE vM.fEntries vX).fValue, .int .i64 (entE vM.fEntries vX).fOwner, .int .i64 (entE vM.fEntries vX).fLiteral, .string (entE vM.fEntries vX).fRule, .slice a6_R_f4 (entE vM.fEntries vX).fIds.length c6_R_f4, .slice a7_R_f4 (entE vM.fEntries vX).fShape.length c7_R_f4, .slice a8_R_f4 (entE vM.fEntries vX).fReads.length c8_R_f4], .bool (entB vM.fEntries vX)] ∧ OwnR wx (fun y => L ≤ y ∧ y < H) 9 ((entE vM.fEntries vX)).ct (fun j => [.int .i64 (entE vM.fEntries vX).fAt.fNode, .string (entE vM.fEntries vX).fAt.fName, .int .i64 (entE vM.fEntries vX).fValue, .int .i64 (entE vM.fEntries vX).fOwner, .int .i64 (entE vM.fEntries vX).fLiteral, .string (entE vM.fEntries vX).fRule, .slice a6_R_f4 (entE vM.fEntries vX).fIds.length c6_R_f4, .slice a7_R_f4 (entE vM.fEntries vX).fShape.length c7_R_f4, .slice a8_R_f4 (entE vM.fEntries vX).fReads.length c8_R_f4].getD j .nilFunc) | 5 => V 5 = V 4 ∧ ∃ a6_R_f4_5 c6_R_f4_5 a7_R_f4_5 c7_R_f4_5 a8_R_f4_5 c8_R_f4_5, V 5 = .tuple #[.agg #[.int .i64 (entE vM.fEntries vX).fAt.fNode, .string (entE vM.fEntries vX).fAt.fName, .int .i64 (entE vM.fEntries vX).fValue, .int .i64 (entE vM.fEntries vX).fOwner, .int .i64 (entE vM.fEntries vX).fLiteral, .string (entE vM.fEntries vX).fRule, .slice a6_R_f4_5 (entE vM.fEntries vX).fIds.length c6_R_f4_5, .slice a7_R_f4_5 (entE vM.fEntries vX).fShape.length c7_R_f4_5, .slice a8_R_f4_5 (entE vM.fEntries vX).fReads.length c8_R_f4_5], .bool (entB vM.fEntries vX)] | 6 => (∀ x0 x1, V 5 = .tuple #[x0, x1] → V 6 = x0) ∧ ∃ a6_R_f4_6 c6_R_f4_6 a7_R_f4_6 c7_R_f4_6 a8_R_f4_6 c8_R_f4_6, V 6 = .agg #[.int .i64 (entE vM.fEntries vX).fAt.fNode, .string (entE vM.fEntries vX).fAt.fName, .int .i64 (entE vM.fEntries vX).fValue, .int .i64 (entE vM.fEntries vX).fOwner, .int .i64 (entE vM.fEntries vX).fLiteral, .string (entE vM.fEntries vX).fRule, .slice a6_R_f4_6 (entE vM.fEntries vX).fIds.length c6_R_f4_6, .slice a7_R_f4_6 (entE vM.fEntries vX).fShape.length c7_R_f4_6, .slice a8_R_f4_6 (entE vM.fEntries vX).fReads.length c8_R_f4_6] | 7 => (∀ x0 x1, V 5 = .tuple #[x0, x1] → V 7 = x1) | 8 => V 8 = .pointer (some ⟨L, 0, none⟩) ∧ L < H ∧ wx.cell? ⟨L, 0, none⟩ = some (.int .i64 0) ∧ wx.frozen? ⟨L, 0, none⟩ = false ∧ wx.cell? ⟨L, 1, none⟩ = some (.string ⟨#[]⟩) ∧ wx.frozen? ⟨L, 1, none⟩ = false ∧ wx.cell? ⟨L, 2, none⟩ = some (.int .i64 0) ∧ wx.frozen? ⟨L, 2, none⟩ = false ∧ wx.cell? ⟨L, 3, none⟩ = some (.int .i64 0) ∧ wx.frozen? ⟨L, 3, none⟩ = false ∧ wx.cell? ⟨L, 4, none⟩ = some (.int .i64 0) ∧ wx.frozen? ⟨L, 4, none⟩ = false ∧ wx.cell? ⟨L, 5, none⟩ = some (.string ⟨#[]⟩) ∧ wx.frozen? ⟨L, 5, none⟩ = false ∧ wx.cell? ⟨L, 6, none⟩ = some (.slice none 0 0) ∧ wx.frozen? ⟨L, 6, none⟩ = false ∧ wx.cell? ⟨L, 7, none⟩ = some (.slice none 0 0) ∧ wx.frozen? ⟨L, 7, none⟩ = false ∧ wx.cell? ⟨L, 8, none⟩ = some (.slice none 0 0) ∧ wx.frozen? ⟨L, 8, none⟩ = false | 9 => ∀ x0 x1 x2 x3 x4 x5 x6 x7 x8, V 6 = .agg #[x0, x1, x2, x3, x4, x5, x6, x7, x8] → L < H ∧ wx.cell? ⟨L, 0, none⟩ = some x0 ∧ wx.cell? ⟨L, 1, none⟩ = some x1 ∧ wx.cell? ⟨L, 2, none⟩ = some x2 ∧ wx.cell? ⟨L, 3, none⟩ = some x3 ∧ wx.cell? ⟨L, 4, none⟩ = some x4 ∧ wx.cell? ⟨L, 5, none⟩ = some x5 ∧ wx.cell? ⟨L, 6, none⟩ = some x6 ∧ wx.cell? ⟨L, 7, none⟩ = some x7 ∧ wx.cell? ⟨L, 8, none⟩ = some x8 | 10 => V 10 = V 7 | _ => True) (by kernel_rfl) (by kernel_rfl) ?loc ?lasts ?walk
              case loc =>
                intro k V V' L H wx h0 h1 hG
                match k with
                | 0 =>
                  try dsimp only at hG ⊢
                  rw [← h0]
                  exact hG
                | 1 =>
                  have e0 := h1 0 (by decide)
                  try dsimp only at hG ⊢
                  rw [← h0]
                  exact hG
                | 2 =>
                  try dsimp only at hG ⊢
                  rw [← h0]
                  exact hG
                | 3 =>
                  have e2 := h1 2 (by decide)
                  try dsimp only at hG ⊢
                  rw [← h0]
                  exact hG
                | 4 =>
                  have e1 := h1 1 (by decide)
                  have e3 := h1 3 (by decide)
                  try dsimp only at hG ⊢
                  rw [← h0]
                  exact hG
                | 5 =>
                  have e4 := h1 4 (by decide)
                  try dsimp only at hG ⊢
                  rw [← h0, ← e4]
                  exact hG
                | 6 =>
                  have e5 := h1 5 (by decide)
                  try dsimp only at hG ⊢
                  rw [← h0, ← e5]
                  exact hG
                | 7 =>
                  have e5 := h1 5 (by decide)
                  try dsimp only at hG ⊢
                  rw [← h0, ← e5]
                  exact hG
                | 8 =>
                  try dsimp only at hG ⊢
                  rw [← h0]
                  exact hG
                | 9 =>
                  have e8 := h1 8 (by decide)
                  have e6 := h1 6 (by decide)
                  try dsimp only at hG ⊢
                  rw [← e6]
                  exact hG
                | 10 =>
                  have e7 := h1 7 (by decide)
                  try dsimp only at hG ⊢
                  rw [← h0, ← e7]
                  exact hG
                | n + 11 => trivial
              case lasts =>
                intro i hi V L H wx wy hB hH hk
                match i, hi with
                | 0, _ => exact fun h => h
                | 1, _ => exact fun ⟨a0_vM_f1, c0_vM_f1, a1_vM_f1, c1_vM_f1, hv, ho⟩ => ⟨a0_vM_f1, c0_vM_f1, a1_vM_f1, c1_vM_f1, hv, ho.kept (hk.sub fun x hx => .inr hx)⟩
                | 2, _ => exact fun h => h
                | 3, _ => exact fun h => h
                | 4, _ => exact fun ⟨a6_R_f4, c6_R_f4, a7_R_f4, c7_R_f4, a8_R_f4, c8_R_f4, hv, ho⟩ => ⟨a6_R_f4, c6_R_f4, a7_R_f4, c7_R_f4, a8_R_f4, c8_R_f4, hv, ho.kept (hk.sub fun x hx => .inr hx)⟩
                | 5, _ => exact fun h => h
                | 6, _ => exact fun h => h
                | 7, _ => exact fun h => h
                | 8, _ => exact fun ⟨hv, hl, hc0, hf0, hc1, hf1, hc2, hf2, hc3, hf3, hc4, hf4, hc5, hf5, hc6, hf6, hc7, hf7, hc8, hf8⟩ => ⟨hv, hl, (hk.cell (p := ⟨L, 0, none⟩) (.inr ⟨Nat.le_refl _, hl⟩) (Nat.lt_of_lt_of_le hl hH)).trans hc0, (hk.frozen (p := ⟨L, 0, none⟩) (.inr ⟨Nat.le_refl _, hl⟩) (Nat.lt_of_lt_of_le hl hH)).trans hf0, (hk.cell (p := ⟨L, 1, none⟩) (.inr ⟨Nat.le_refl _, hl⟩) (Nat.lt_of_lt_of_le hl hH)).trans hc1, (hk.frozen (p := ⟨L, 1, none⟩) (.inr ⟨Nat.le_refl _, hl⟩) (Nat.lt_of_lt_of_le hl hH)).trans hf1, (hk.cell (p := ⟨L, 2, none⟩) (.inr ⟨Nat.le_refl _, hl⟩) (Nat.lt_of_lt_of_le hl hH)).trans hc2, (hk.frozen (p := ⟨L, 2, none⟩) (.inr ⟨Nat.le_refl _, hl⟩) (Nat.lt_of_lt_of_le hl hH)).trans hf2, (hk.cell (p := ⟨L, 3, none⟩) (.inr ⟨Nat.le_refl _, hl⟩) (Nat.lt_of_lt_of_le hl hH)).trans hc3, (hk.frozen (p := ⟨L, 3, none⟩) (.inr ⟨Nat.le_refl _, hl⟩) (Nat.lt_of_lt_of_le hl hH)).trans hf3, (hk.cell (p := ⟨L, 4, none⟩) (.inr ⟨Nat.le_refl _, hl⟩) (Nat.lt_of_lt_of_le hl hH)).trans hc4, (hk.frozen (p := ⟨L, 4, none⟩) (.inr ⟨Nat.le_refl _, hl⟩) (Nat.lt_of_lt_of_le hl hH)).trans hf4, (hk.cell (p := ⟨L, 5, none⟩) (.inr ⟨Nat.le_refl _, hl⟩) (Nat.lt_of_lt_of_le hl hH)).trans hc5, (hk.frozen (p := ⟨L, 5, none⟩) (.inr ⟨Nat.le_refl _, hl⟩) (Nat.lt_of_lt_of_le hl hH)).trans hf5, (hk.cell (p := ⟨L, 6, none⟩) (.inr ⟨Nat.le_refl _, hl⟩) (Nat.lt_of_lt_of_le hl hH)).trans hc6, (hk.frozen (p := ⟨L, 6, none⟩) (.inr ⟨Nat.le_refl _, hl⟩) (Nat.lt_of_lt_of_le hl hH)).trans hf6, (hk.cell (p := ⟨L, 7, none⟩) (.inr ⟨Nat.le_refl _, hl⟩) (Nat.lt_of_lt_of_le hl hH)).trans hc7, (hk.frozen (p := ⟨L, 7, none⟩) (.inr ⟨Nat.le_refl _, hl⟩) (Nat.lt_of_lt_of_le hl hH)).trans hf7, (hk.cell (p := ⟨L, 8, none⟩) (.inr ⟨Nat.le_refl _, hl⟩) (Nat.lt_of_lt_of_le hl hH)).trans hc8, (hk.frozen (p := ⟨L, 8, none⟩) (.inr ⟨Nat.le_refl _, hl⟩) (Nat.lt_of_lt_of_le hl hH)).trans hf8⟩
                | 9, _ => exact fun h x0 x1 x2 x3 x4 x5 x6 x7 x8 hv => ⟨(h x0 x1 x2 x3 x4 x5 x6 x7 x8 hv).1, (hk.cell (p := ⟨L, 0, none⟩) (.inr ⟨Nat.le_refl _, (h x0 x1 x2 x3 x4 x5 x6 x7 x8 hv).1⟩) (Nat.lt_of_lt_of_le (h x0 x1 x2 x3 x4 x5 x6 x7 x8 hv).1 hH)).trans (h x0 x1 x2 x3 x4 x5 x6 x7 x8 hv).2.1, (hk.cell (p := ⟨L, 1, none⟩) (.inr ⟨Nat.le_refl _, (h x0 x1 x2 x3 x4 x5 x6 x7 x8 hv).1⟩) (Nat.lt_of_lt_of_le (h x0 x1 x2 x3 x4 x5 x6 x7 x8 hv).1 hH)).trans (h x0 x1 x2 x3 x4 x5 x6 x7 x8 hv).2.2.1, (hk.cell (p := ⟨L, 2, none⟩) (.inr ⟨Nat.le_refl _, (h x0 x1 x2 x3 x4 x5 x6 x7 x8 hv).1⟩) (Nat.lt_of_lt_of_le (h x0 x1 x2 x3 x4 x5 x6 x7 x8 hv).1 hH)).trans (h x0 x1 x2 x3 x4 x5 x6 x7 x8 hv).2.2.2.1, (hk.cell (p := ⟨L, 3, none⟩) (.inr ⟨Nat.le_refl _, (h x0 x1 x2 x3 x4 x5 x6 x7 x8 hv).1⟩) (Nat.lt_of_lt_of_le (h x0 x1 x2 x3 x4 x5 x6 x7 x8 hv).1 hH)).trans (h x0 x1 x2 x3 x4 x5 x6 x7 x8 hv).2.2.2.2.1, (hk.cell (p := ⟨L, 4, none⟩) (.inr ⟨Nat.le_refl _, (h x0 x1 x2 x3 x4 x5 x6 x7 x8 hv).1⟩) (Nat.lt_of_lt_of_le (h x0 x1 x2 x3 x4 x5 x6 x7 x8 hv).1 hH)).trans (h x0 x1 x2 x3 x4 x5 x6 x7 x8 hv).2.2.2.2.2.1, (hk.cell (p := ⟨L, 5, none⟩) (.inr ⟨Nat.le_refl _, (h x0 x1 x2 x3 x4 x5 x6 x7 x8 hv).1⟩) (Nat.lt_of_lt_of_le (h x0 x1 x2 x3 x4 x5 x6 x7 x8 hv).1 hH)).trans (h x0 x1 x2 x3 x4 x5 x6 x7 x8 hv).2.2.2.2.2.2.1, (hk.cell (p := ⟨L, 6, none⟩) (.inr ⟨Nat.le_refl _, (h x0 x1 x2 x3 x4 x5 x6 x7 x8 hv).1⟩) (Nat.lt_of_lt_of_le (h x0 x1 x2 x3 x4 x5 x6 x7 x8 hv).1 hH)).trans (h x0 x1 x2 x3 x4 x5 x6 x7 x8 hv).2.2.2.2.2.2.2.1, (hk.cell (p := ⟨L, 7, none⟩) (.inr ⟨Nat.le_refl _, (h x0 x1 x2 x3 x4 x5 x6 x7 x8 hv).1⟩) (Nat.lt_of_lt_of_le (h x0 x1 x2 x3 x4 x5 x6 x7 x8 hv).1 hH)).trans (h x0 x1 x2 x3 x4 x5 x6 x7 x8 hv).2.2.2.2.2.2.2.2.1, (hk.cell (p := ⟨L, 8, none⟩) (.inr ⟨Nat.le_refl _, (h x0 x1 x2 x3 x4 x5 x6 x7 x8 hv).1⟩) (Nat.lt_of_lt_of_le (h x0 x1 x2 x3 x4 x5 x6 x7 x8 hv).1 hH)).trans (h x0 x1 x2 x3 x4 x5 x6 x7 x8 hv).2.2.2.2.2.2.2.2.2⟩
                | 10, _ => exact fun h => h
                | n + 11, hn => exact absurd hn (by simp)
              case walk =>
                simp only [free, Nat.reduceAdd, Act.put, List.setIfInBounds_toArray, List.set_cons_succ, List.set_cons_zero]
                refine ⟨?_, ?_, ?_, ?_, ?_, ?_, ?_, ?_, ?_, ?_, ?_, ?_⟩
                · intro V L H w16 hb16 hd
                  clear hd
                  have sz16_paM : w.heap.size < w16.heap.size := Nat.lt_of_lt_of_le sz15_paM hb16.size
                  have bx16_paM_0 : w16.cell? ⟨w.heap.size, 0, none⟩ = some (.slice a0_vM vM.fEntries.length c0_vM) := (hb16.cell (p := ⟨w.heap.size, 0, none⟩) sz15_paM).trans bx15_paM_0
                  have bx16_paM_1 : w16.cell? ⟨w.heap.size, 1, none⟩ = some (.slice a1_vM vM.fEvaluated.length c1_vM) := (hb16.cell (p := ⟨w.heap.size, 1, none⟩) sz15_paM).trans bx15_paM_1
                  have sz16_paX : w.heap.size + 1 < w16.heap.size := Nat.lt_of_lt_of_le sz15_paX hb16.size
                  have bx16_paX_0 : w16.cell? ⟨w.heap.size + 1, 0, none⟩ = some (.int .i64 vX.fNode) := (hb16.cell (p := ⟨w.heap.size + 1, 0, none⟩) sz15_paX).trans bx15_paX_0
                  have bx16_paX_1 : w16.cell? ⟨w.heap.size + 1, 1, none⟩ = some (.string vX.fName) := (hb16.cell (p := ⟨w.heap.size + 1, 1, none⟩) sz15_paX).trans bx15_paX_1
                  have sz16_w0 : bV5 < w16.heap.size := Nat.lt_of_lt_of_le sz15_w0 hb16.size
                  have bx16_w0_0 : w16.cell? ⟨bV5, 0, none⟩ = some (.int .i64 (entE vM.fEntries vX).fAt.fNode) := (hb16.cell (p := ⟨bV5, 0, none⟩) sz15_w0).trans bx15_w0_0
                  have bx16_w0_1 : w16.cell? ⟨bV5, 1, none⟩ = some (.string (entE vM.fEntries vX).fAt.fName) := (hb16.cell (p := ⟨bV5, 1, none⟩) sz15_w0).trans bx15_w0_1
                  have bx16_w0_2 : w16.cell? ⟨bV5, 2, none⟩ = some (.int .i64 (entE vM.fEntries vX).fValue) := (hb16.cell (p := ⟨bV5, 2, none⟩) sz15_w0).trans bx15_w0_2
                  have bx16_w0_3 : w16.cell? ⟨bV5, 3, none⟩ = some (.int .i64 (entE vM.fEntries vX).fOwner) := (hb16.cell (p := ⟨bV5, 3, none⟩) sz15_w0).trans bx15_w0_3
                  have bx16_w0_4 : w16.cell? ⟨bV5, 4, none⟩ = some (.int .i64 (entE vM.fEntries vX).fLiteral) := (hb16.cell (p := ⟨bV5, 4, none⟩) sz15_w0).trans bx15_w0_4
                  have bx16_w0_5 : w16.cell? ⟨bV5, 5, none⟩ = some (.string (entE vM.fEntries vX).fRule) := (hb16.cell (p := ⟨bV5, 5, none⟩) sz15_w0).trans bx15_w0_5
                  have bx16_w0_6 : w16.cell? ⟨bV5, 6, none⟩ = some (.slice a6_R_5 (entE vM.fEntries vX).fIds.length c6_R_5) := (hb16.cell (p := ⟨bV5, 6, none⟩) sz15_w0).trans bx15_w0_6
                  have bx16_w0_7 : w16.cell? ⟨bV5, 7, none⟩ = some (.slice a7_R_5 (entE vM.fEntries vX).fShape.length c7_R_5) := (hb16.cell (p := ⟨bV5, 7, none⟩) sz15_w0).trans bx15_w0_7
                  have bx16_w0_8 : w16.cell? ⟨bV5, 8, none⟩ = some (.slice a8_R_5 (entE vM.fEntries vX).fReads.length c8_R_5) := (hb16.cell (p := ⟨bV5, 8, none⟩) sz15_w0).trans bx15_w0_8
                  have sz16_x0 : w6.heap.size < w16.heap.size := Nat.lt_of_lt_of_le sz15_x0 hb16.size
                  have bx16_x0_0 : w16.cell? ⟨w6.heap.size, 0, none⟩ = some (.slice a0_vM_6 vM.fEntries.length c0_vM_6) := (hb16.cell (p := ⟨w6.heap.size, 0, none⟩) sz15_x0).trans bx15_x0_0
                  have bx16_x0_1 : w16.cell? ⟨w6.heap.size, 1, none⟩ = some (.slice a1_vM_6 vM.fEvaluated.length c1_vM_6) := (hb16.cell (p := ⟨w6.heap.size, 1, none⟩) sz15_x0).trans bx15_x0_1
                  have sz16_g0 : bV8 < w16.heap.size := Nat.lt_of_lt_of_le sz15_g0 hb16.size
                  have bx16_g0_0 : w16.cell? ⟨bV8, 0, none⟩ = some (.int .i64 (entE vM.fEntries vX).fAt.fNode) := (hb16.cell (p := ⟨bV8, 0, none⟩) sz15_g0).trans bx15_g0_0
                  have bx16_g0_1 : w16.cell? ⟨bV8, 1, none⟩ = some (.string (entE vM.fEntries vX).fAt.fName) := (hb16.cell (p := ⟨bV8, 1, none⟩) sz15_g0).trans bx15_g0_1
                  have bx16_g0_2 : w16.cell? ⟨bV8, 2, none⟩ = some (.int .i64 (entE vM.fEntries vX).fValue) := (hb16.cell (p := ⟨bV8, 2, none⟩) sz15_g0).trans bx15_g0_2
                  have bx16_g0_3 : w16.cell? ⟨bV8, 3, none⟩ = some (.int .i64 (entE vM.fEntries vX).fOwner) := (hb16.cell (p := ⟨bV8, 3, none⟩) sz15_g0).trans bx15_g0_3
                  have bx16_g0_4 : w16.cell? ⟨bV8, 4, none⟩ = some (.int .i64 (entE vM.fEntries vX).fLiteral) := (hb16.cell (p := ⟨bV8, 4, none⟩) sz15_g0).trans bx15_g0_4
                  have bx16_g0_5 : w16.cell? ⟨bV8, 5, none⟩ = some (.string (entE vM.fEntries vX).fRule) := (hb16.cell (p := ⟨bV8, 5, none⟩) sz15_g0).trans bx15_g0_5
                  have bx16_g0_6 : w16.cell? ⟨bV8, 6, none⟩ = some (.slice a6_R_8 (entE vM.fEntries vX).fIds.length c6_R_8) := (hb16.cell (p := ⟨bV8, 6, none⟩) sz15_g0).trans bx15_g0_6
                  have bx16_g0_7 : w16.cell? ⟨bV8, 7, none⟩ = some (.slice a7_R_8 (entE vM.fEntries vX).fShape.length c7_R_8) := (hb16.cell (p := ⟨bV8, 7, none⟩) sz15_g0).trans bx15_g0_7
                  have bx16_g0_8 : w16.cell? ⟨bV8, 8, none⟩ = some (.slice a8_R_8 (entE vM.fEntries vX).fReads.length c8_R_8) := (hb16.cell (p := ⟨bV8, 8, none⟩) sz15_g0).trans bx15_g0_8
                  have HO16_6_R_5 := Lib.hid (HO15_6_R_5.out.kept (Kept.of_below_all hb16))
                  have HO16_7_R_5 := Lib.hid (HO15_7_R_5.out.kept (Kept.of_below_all hb16))
                  have HO16_8_R_5 := Lib.hid (HO15_8_R_5.out.kept (Kept.of_below_all hb16))
                  have HO16_0_vM_10 := Lib.hid (HO15_0_vM_10.out.kept (Kept.of_below_all hb16))
                  have HO16_1_vM_10 := Lib.hid (HO15_1_vM_10.out.kept (Kept.of_below_all hb16))
                  have HB16 := Lib.hid (HB15.out.trans (hb16.mono HB15.out.size))
                  clear sz15_paM bx15_paM_0 bx15_paM_1 sz15_paX bx15_paX_0 bx15_paX_1 sz15_w0 bx15_w0_0 bx15_w0_1 bx15_w0_2 bx15_w0_3 bx15_w0_4 bx15_w0_5 bx15_w0_6 bx15_w0_7 bx15_w0_8 sz15_x0 bx15_x0_0 bx15_x0_1 sz15_g0 bx15_g0_0 bx15_g0_1 bx15_g0_2 bx15_g0_3 bx15_g0_4 bx15_g0_5 bx15_g0_6 bx15_g0_7 bx15_g0_8
                  go_wp2_with fail
                  exact freePost _ rfl ⟨Below.refl _ _, upd_self⟩
                · intro V L H w16 hb16 hd
                  obtain ⟨⟨hL0, hM0, hH0, hv0⟩, -⟩ := hd
                  rw [hv0]
                  have HV0 := Lib.hid hv0
                  clear hv0
                  have sz16_paM : w.heap.size < w16.heap.size := Nat.lt_of_lt_of_le sz15_paM hb16.size
                  have bx16_paM_0 : w16.cell? ⟨w.heap.size, 0, none⟩ = some (.slice a0_vM vM.fEntries.length c0_vM) := (hb16.cell (p := ⟨w.heap.size, 0, none⟩) sz15_paM).trans bx15_paM_0
                  have bx16_paM_1 : w16.cell? ⟨w.heap.size, 1, none⟩ = some (.slice a1_vM vM.fEvaluated.length c1_vM) := (hb16.cell (p := ⟨w.heap.size, 1, none⟩) sz15_paM).trans bx15_paM_1
                  have sz16_paX : w.heap.size + 1 < w16.heap.size := Nat.lt_of_lt_of_le sz15_paX hb16.size
                  have bx16_paX_0 : w16.cell? ⟨w.heap.size + 1, 0, none⟩ = some (.int .i64 vX.fNode) := (hb16.cell (p := ⟨w.heap.size + 1, 0, none⟩) sz15_paX).trans bx15_paX_0
                  have bx16_paX_1 : w16.cell? ⟨w.heap.size + 1, 1, none⟩ = some (.string vX.fName) := (hb16.cell (p := ⟨w.heap.size + 1, 1, none⟩) sz15_paX).trans bx15_paX_1
                  have sz16_w0 : bV5 < w16.heap.size := Nat.lt_of_lt_of_le sz15_w0 hb16.size
                  have bx16_w0_0 : w16.cell? ⟨bV5, 0, none⟩ = some (.int .i64 (entE vM.fEntries vX).fAt.fNode) := (hb16.cell (p := ⟨bV5, 0, none⟩) sz15_w0).trans bx15_w0_0
                  have bx16_w0_1 : w16.cell? ⟨bV5, 1, none⟩ = some (.string (entE vM.fEntries vX).fAt.fName) := (hb16.cell (p := ⟨bV5, 1, none⟩) sz15_w0).trans bx15_w0_1
                  have bx16_w0_2 : w16.cell? ⟨bV5, 2, none⟩ = some (.int .i64 (entE vM.fEntries vX).fValue) := (hb16.cell (p := ⟨bV5, 2, none⟩) sz15_w0).trans bx15_w0_2
                  have bx16_w0_3 : w16.cell? ⟨bV5, 3, none⟩ = some (.int .i64 (entE vM.fEntries vX).fOwner) := (hb16.cell (p := ⟨bV5, 3, none⟩) sz15_w0).trans bx15_w0_3
                  have bx16_w0_4 : w16.cell? ⟨bV5, 4, none⟩ = some (.int .i64 (entE vM.fEntries vX).fLiteral) := (hb16.cell (p := ⟨bV5, 4, none⟩) sz15_w0).trans bx15_w0_4
                  have bx16_w0_5 : w16.cell? ⟨bV5, 5, none⟩ = some (.string (entE vM.fEntries vX).fRule) := (hb16.cell (p := ⟨bV5, 5, none⟩) sz15_w0).trans bx15_w0_5
                  have bx16_w0_6 : w16.cell? ⟨bV5, 6, none⟩ = some (.slice a6_R_5 (entE vM.fEntries vX).fIds.length c6_R_5) := (hb16.cell (p := ⟨bV5, 6, none⟩) sz15_w0).trans bx15_w0_6
                  have bx16_w0_7 : w16.cell? ⟨bV5, 7, none⟩ = some (.slice a7_R_5 (entE vM.fEntries vX).fShape.length c7_R_5) := (hb16.cell (p := ⟨bV5, 7, none⟩) sz15_w0).trans bx15_w0_7
                  have bx16_w0_8 : w16.cell? ⟨bV5, 8, none⟩ = some (.slice a8_R_5 (entE vM.fEntries vX).fReads.length c8_R_5) := (hb16.cell (p := ⟨bV5, 8, none⟩) sz15_w0).trans bx15_w0_8
                  have sz16_x0 : w6.heap.size < w16.heap.size := Nat.lt_of_lt_of_le sz15_x0 hb16.size
                  have bx16_x0_0 : w16.cell? ⟨w6.heap.size, 0, none⟩ = some (.slice a0_vM_6 vM.fEntries.length c0_vM_6) := (hb16.cell (p := ⟨w6.heap.size, 0, none⟩) sz15_x0).trans bx15_x0_0
                  have bx16_x0_1 : w16.cell? ⟨w6.heap.size, 1, none⟩ = some (.slice a1_vM_6 vM.fEvaluated.length c1_vM_6) := (hb16.cell (p := ⟨w6.heap.size, 1, none⟩) sz15_x0).trans bx15_x0_1
                  have sz16_g0 : bV8 < w16.heap.size := Nat.lt_of_lt_of_le sz15_g0 hb16.size
                  have bx16_g0_0 : w16.cell? ⟨bV8, 0, none⟩ = some (.int .i64 (entE vM.fEntries vX).fAt.fNode) := (hb16.cell (p := ⟨bV8, 0, none⟩) sz15_g0).trans bx15_g0_0
                  have bx16_g0_1 : w16.cell? ⟨bV8, 1, none⟩ = some (.string (entE vM.fEntries vX).fAt.fName) := (hb16.cell (p := ⟨bV8, 1, none⟩) sz15_g0).trans bx15_g0_1
                  have bx16_g0_2 : w16.cell? ⟨bV8, 2, none⟩ = some (.int .i64 (entE vM.fEntries vX).fValue) := (hb16.cell (p := ⟨bV8, 2, none⟩) sz15_g0).trans bx15_g0_2
                  have bx16_g0_3 : w16.cell? ⟨bV8, 3, none⟩ = some (.int .i64 (entE vM.fEntries vX).fOwner) := (hb16.cell (p := ⟨bV8, 3, none⟩) sz15_g0).trans bx15_g0_3
                  have bx16_g0_4 : w16.cell? ⟨bV8, 4, none⟩ = some (.int .i64 (entE vM.fEntries vX).fLiteral) := (hb16.cell (p := ⟨bV8, 4, none⟩) sz15_g0).trans bx15_g0_4
                  have bx16_g0_5 : w16.cell? ⟨bV8, 5, none⟩ = some (.string (entE vM.fEntries vX).fRule) := (hb16.cell (p := ⟨bV8, 5, none⟩) sz15_g0).trans bx15_g0_5
                  have bx16_g0_6 : w16.cell? ⟨bV8, 6, none⟩ = some (.slice a6_R_8 (entE vM.fEntries vX).fIds.length c6_R_8) := (hb16.cell (p := ⟨bV8, 6, none⟩) sz15_g0).trans bx15_g0_6
                  have bx16_g0_7 : w16.cell? ⟨bV8, 7, none⟩ = some (.slice a7_R_8 (entE vM.fEntries vX).fShape.length c7_R_8) := (hb16.cell (p := ⟨bV8, 7, none⟩) sz15_g0).trans bx15_g0_7
                  have bx16_g0_8 : w16.cell? ⟨bV8, 8, none⟩ = some (.slice a8_R_8 (entE vM.fEntries vX).fReads.length c8_R_8) := (hb16.cell (p := ⟨bV8, 8, none⟩) sz15_g0).trans bx15_g0_8
                  have HO16_6_R_5 := Lib.hid (HO15_6_R_5.out.kept (Kept.of_below_all hb16))
                  have HO16_7_R_5 := Lib.hid (HO15_7_R_5.out.kept (Kept.of_below_all hb16))
                  have HO16_8_R_5 := Lib.hid (HO15_8_R_5.out.kept (Kept.of_below_all hb16))
                  have HO16_0_vM_10 := Lib.hid (HO15_0_vM_10.out.kept (Kept.of_below_all hb16))
                  have HO16_1_vM_10 := Lib.hid (HO15_1_vM_10.out.kept (Kept.of_below_all hb16))
                  have HB16 := Lib.hid (HB15.out.trans (hb16.mono HB15.out.size))
                  clear sz15_paM bx15_paM_0 bx15_paM_1 sz15_paX bx15_paX_0 bx15_paX_1 sz15_w0 bx15_w0_0 bx15_w0_1 bx15_w0_2 bx15_w0_3 bx15_w0_4 bx15_w0_5 bx15_w0_6 bx15_w0_7 bx15_w0_8 sz15_x0 bx15_x0_0 bx15_x0_1 sz15_g0 bx15_g0_0 bx15_g0_1 bx15_g0_2 bx15_g0_3 bx15_g0_4 bx15_g0_5 bx15_g0_6 bx15_g0_7 bx15_g0_8
                  go_wp2_with fail
                  refine (laws_toMemo (c0 := c0_vM) (c1 := c1_vM) vM hq_vM _ (Below.size (by repeat (first | (with_reducible exact Below.refl _ _) | (with_reducible apply Below.drew) | (with_reducible refine below_drewN ?_ _) | (refine Below.setCell ?_ (by simp <;> omega) _) | (refine Below.alloc ?_ (by simp <;> omega) _)) : Below w16.heap.size w16 _)) ((HS_0_vM.out.later (HB16.out.trans ((by repeat (first | (with_reducible exact Below.refl _ _) | (with_reducible apply Below.drew) | (with_reducible refine below_drewN ?_ _) | (refine Below.setCell ?_ (by simp <;> omega) _) | (refine Below.alloc ?_ (by simp <;> omega) _)) : Below w16.heap.size w16 _).mono HB16.out.size)) (Nat.le_refl _)).mono (Nat.le_refl _) HB16.out.size) ((HS_1_vM.out.later (HB16.out.trans ((by repeat (first | (with_reducible exact Below.refl _ _) | (with_reducible apply Below.drew) | (with_reducible refine below_drewN ?_ _) | (refine Below.setCell ?_ (by simp <;> omega) _) | (refine Below.alloc ?_ (by simp <;> omega) _)) : Below w16.heap.size w16 _).mono HB16.out.size)) (Nat.le_refl _)).mono (Nat.le_refl _) HB16.out.size)).mono ?_
                  rintro e w17 ⟨a0_vM_f1, c0_vM_f1, a1_vM_f1, c1_vM_f1, rfl, ho, hb17⟩
                  go_wp2_with fail
                  exact freePost _ rfl ⟨hb17, Exists.intro a0_vM_f1 (Exists.intro c0_vM_f1 (Exists.intro a1_vM_f1 (Exists.intro c1_vM_f1 (And.intro upd_self ho))))⟩
                · intro V L H w16 hb16 hd
                  clear hd
                  have sz16_paM : w.heap.size < w16.heap.size := Nat.lt_of_lt_of_le sz15_paM hb16.size
                  have bx16_paM_0 : w16.cell? ⟨w.heap.size, 0, none⟩ = some (.slice a0_vM vM.fEntries.length c0_vM) := (hb16.cell (p := ⟨w.heap.size, 0, none⟩) sz15_paM).trans bx15_paM_0
                  have bx16_paM_1 : w16.cell? ⟨w.heap.size, 1, none⟩ = some (.slice a1_vM vM.fEvaluated.length c1_vM) := (hb16.cell (p := ⟨w.heap.size, 1, none⟩) sz15_paM).trans bx15_paM_1
                  have sz16_paX : w.heap.size + 1 < w16.heap.size := Nat.lt_of_lt_of_le sz15_paX hb16.size
                  have bx16_paX_0 : w16.cell? ⟨w.heap.size + 1, 0, none⟩ = some (.int .i64 vX.fNode) := (hb16.cell (p := ⟨w.heap.size + 1, 0, none⟩) sz15_paX).trans bx15_paX_0
                  have bx16_paX_1 : w16.cell? ⟨w.heap.size + 1, 1, none⟩ = some (.string vX.fName) := (hb16.cell (p := ⟨w.heap.size + 1, 1, none⟩) sz15_paX).trans bx15_paX_1
                  have sz16_w0 : bV5 < w16.heap.size := Nat.lt_of_lt_of_le sz15_w0 hb16.size
                  have bx16_w0_0 : w16.cell? ⟨bV5, 0, none⟩ = some (.int .i64 (entE vM.fEntries vX).fAt.fNode) := (hb16.cell (p := ⟨bV5, 0, none⟩) sz15_w0).trans bx15_w0_0
                  have bx16_w0_1 : w16.cell? ⟨bV5, 1, none⟩ = some (.string (entE vM.fEntries vX).fAt.fName) := (hb16.cell (p := ⟨bV5, 1, none⟩) sz15_w0).trans bx15_w0_1
                  have bx16_w0_2 : w16.cell? ⟨bV5, 2, none⟩ = some (.int .i64 (entE vM.fEntries vX).fValue) := (hb16.cell (p := ⟨bV5, 2, none⟩) sz15_w0).trans bx15_w0_2
                  have bx16_w0_3 : w16.cell? ⟨bV5, 3, none⟩ = some (.int .i64 (entE vM.fEntries vX).fOwner) := (hb16.cell (p := ⟨bV5, 3, none⟩) sz15_w0).trans bx15_w0_3
                  have bx16_w0_4 : w16.cell? ⟨bV5, 4, none⟩ = some (.int .i64 (entE vM.fEntries vX).fLiteral) := (hb16.cell (p := ⟨bV5, 4, none⟩) sz15_w0).trans bx15_w0_4
                  have bx16_w0_5 : w16.cell? ⟨bV5, 5, none⟩ = some (.string (entE vM.fEntries vX).fRule) := (hb16.cell (p := ⟨bV5, 5, none⟩) sz15_w0).trans bx15_w0_5
                  have bx16_w0_6 : w16.cell? ⟨bV5, 6, none⟩ = some (.slice a6_R_5 (entE vM.fEntries vX).fIds.length c6_R_5) := (hb16.cell (p := ⟨bV5, 6, none⟩) sz15_w0).trans bx15_w0_6
                  have bx16_w0_7 : w16.cell? ⟨bV5, 7, none⟩ = some (.slice a7_R_5 (entE vM.fEntries vX).fShape.length c7_R_5) := (hb16.cell (p := ⟨bV5, 7, none⟩) sz15_w0).trans bx15_w0_7
                  have bx16_w0_8 : w16.cell? ⟨bV5, 8, none⟩ = some (.slice a8_R_5 (entE vM.fEntries vX).fReads.length c8_R_5) := (hb16.cell (p := ⟨bV5, 8, none⟩) sz15_w0).trans bx15_w0_8
                  have sz16_x0 : w6.heap.size < w16.heap.size := Nat.lt_of_lt_of_le sz15_x0 hb16.size
                  have bx16_x0_0 : w16.cell? ⟨w6.heap.size, 0, none⟩ = some (.slice a0_vM_6 vM.fEntries.length c0_vM_6) := (hb16.cell (p := ⟨w6.heap.size, 0, none⟩) sz15_x0).trans bx15_x0_0
                  have bx16_x0_1 : w16.cell? ⟨w6.heap.size, 1, none⟩ = some (.slice a1_vM_6 vM.fEvaluated.length c1_vM_6) := (hb16.cell (p := ⟨w6.heap.size, 1, none⟩) sz15_x0).trans bx15_x0_1
                  have sz16_g0 : bV8 < w16.heap.size := Nat.lt_of_lt_of_le sz15_g0 hb16.size
                  have bx16_g0_0 : w16.cell? ⟨bV8, 0, none⟩ = some (.int .i64 (entE vM.fEntries vX).fAt.fNode) := (hb16.cell (p := ⟨bV8, 0, none⟩) sz15_g0).trans bx15_g0_0
                  have bx16_g0_1 : w16.cell? ⟨bV8, 1, none⟩ = some (.string (entE vM.fEntries vX).fAt.fName) := (hb16.cell (p := ⟨bV8, 1, none⟩) sz15_g0).trans bx15_g0_1
                  have bx16_g0_2 : w16.cell? ⟨bV8, 2, none⟩ = some (.int .i64 (entE vM.fEntries vX).fValue) := (hb16.cell (p := ⟨bV8, 2, none⟩) sz15_g0).trans bx15_g0_2
                  have bx16_g0_3 : w16.cell? ⟨bV8, 3, none⟩ = some (.int .i64 (entE vM.fEntries vX).fOwner) := (hb16.cell (p := ⟨bV8, 3, none⟩) sz15_g0).trans bx15_g0_3
                  have bx16_g0_4 : w16.cell? ⟨bV8, 4, none⟩ = some (.int .i64 (entE vM.fEntries vX).fLiteral) := (hb16.cell (p := ⟨bV8, 4, none⟩) sz15_g0).trans bx15_g0_4
                  have bx16_g0_5 : w16.cell? ⟨bV8, 5, none⟩ = some (.string (entE vM.fEntries vX).fRule) := (hb16.cell (p := ⟨bV8, 5, none⟩) sz15_g0).trans bx15_g0_5
                  have bx16_g0_6 : w16.cell? ⟨bV8, 6, none⟩ = some (.slice a6_R_8 (entE vM.fEntries vX).fIds.length c6_R_8) := (hb16.cell (p := ⟨bV8, 6, none⟩) sz15_g0).trans bx15_g0_6
                  have bx16_g0_7 : w16.cell? ⟨bV8, 7, none⟩ = some (.slice a7_R_8 (entE vM.fEntries vX).fShape.length c7_R_8) := (hb16.cell (p := ⟨bV8, 7, none⟩) sz15_g0).trans bx15_g0_7
                  have bx16_g0_8 : w16.cell? ⟨bV8, 8, none⟩ = some (.slice a8_R_8 (entE vM.fEntries vX).fReads.length c8_R_8) := (hb16.cell (p := ⟨bV8, 8, none⟩) sz15_g0).trans bx15_g0_8
                  have HO16_6_R_5 := Lib.hid (HO15_6_R_5.out.kept (Kept.of_below_all hb16))
                  have HO16_7_R_5 := Lib.hid (HO15_7_R_5.out.kept (Kept.of_below_all hb16))
                  have HO16_8_R_5 := Lib.hid (HO15_8_R_5.out.kept (Kept.of_below_all hb16))
                  have HO16_0_vM_10 := Lib.hid (HO15_0_vM_10.out.kept (Kept.of_below_all hb16))
                  have HO16_1_vM_10 := Lib.hid (HO15_1_vM_10.out.kept (Kept.of_below_all hb16))
                  have HB16 := Lib.hid (HB15.out.trans (hb16.mono HB15.out.size))
                  clear sz15_paM bx15_paM_0 bx15_paM_1 sz15_paX bx15_paX_0 bx15_paX_1 sz15_w0 bx15_w0_0 bx15_w0_1 bx15_w0_2 bx15_w0_3 bx15_w0_4 bx15_w0_5 bx15_w0_6 bx15_w0_7 bx15_w0_8 sz15_x0 bx15_x0_0 bx15_x0_1 sz15_g0 bx15_g0_0 bx15_g0_1 bx15_g0_2 bx15_g0_3 bx15_g0_4 bx15_g0_5 bx15_g0_6 bx15_g0_7 bx15_g0_8
                  go_wp2_with fail
                  exact freePost _ rfl ⟨Below.refl _ _, upd_self⟩
                · intro V L H w16 hb16 hd
                  obtain ⟨⟨hL2, hM2, hH2, hv2⟩, -⟩ := hd
                  rw [hv2]
                  have HV2 := Lib.hid hv2
                  clear hv2
                  have sz16_paM : w.heap.size < w16.heap.size := Nat.lt_of_lt_of_le sz15_paM hb16.size
                  have bx16_paM_0 : w16.cell? ⟨w.heap.size, 0, none⟩ = some (.slice a0_vM vM.fEntries.length c0_vM) := (hb16.cell (p := ⟨w.heap.size, 0, none⟩) sz15_paM).trans bx15_paM_0
                  have bx16_paM_1 : w16.cell? ⟨w.heap.size, 1, none⟩ = some (.slice a1_vM vM.fEvaluated.length c1_vM) := (hb16.cell (p := ⟨w.heap.size, 1, none⟩) sz15_paM).trans bx15_paM_1
                  have sz16_paX : w.heap.size + 1 < w16.heap.size := Nat.lt_of_lt_of_le sz15_paX hb16.size
                  have bx16_paX_0 : w16.cell? ⟨w.heap.size + 1, 0, none⟩ = some (.int .i64 vX.fNode) := (hb16.cell (p := ⟨w.heap.size + 1, 0, none⟩) sz15_paX).trans bx15_paX_0
                  have bx16_paX_1 : w16.cell? ⟨w.heap.size + 1, 1, none⟩ = some (.string vX.fName) := (hb16.cell (p := ⟨w.heap.size + 1, 1, none⟩) sz15_paX).trans bx15_paX_1
                  have sz16_w0 : bV5 < w16.heap.size := Nat.lt_of_lt_of_le sz15_w0 hb16.size
                  have bx16_w0_0 : w16.cell? ⟨bV5, 0, none⟩ = some (.int .i64 (entE vM.fEntries vX).fAt.fNode) := (hb16.cell (p := ⟨bV5, 0, none⟩) sz15_w0).trans bx15_w0_0
                  have bx16_w0_1 : w16.cell? ⟨bV5, 1, none⟩ = some (.string (entE vM.fEntries vX).fAt.fName) := (hb16.cell (p := ⟨bV5, 1, none⟩) sz15_w0).trans bx15_w0_1
                  have bx16_w0_2 : w16.cell? ⟨bV5, 2, none⟩ = some (.int .i64 (entE vM.fEntries vX).fValue) := (hb16.cell (p := ⟨bV5, 2, none⟩) sz15_w0).trans bx15_w0_2
                  have bx16_w0_3 : w16.cell? ⟨bV5, 3, none⟩ = some (.int .i64 (entE vM.fEntries vX).fOwner) := (hb16.cell (p := ⟨bV5, 3, none⟩) sz15_w0).trans bx15_w0_3
                  have bx16_w0_4 : w16.cell? ⟨bV5, 4, none⟩ = some (.int .i64 (entE vM.fEntries vX).fLiteral) := (hb16.cell (p := ⟨bV5, 4, none⟩) sz15_w0).trans bx15_w0_4
                  have bx16_w0_5 : w16.cell? ⟨bV5, 5, none⟩ = some (.string (entE vM.fEntries vX).fRule) := (hb16.cell (p := ⟨bV5, 5, none⟩) sz15_w0).trans bx15_w0_5
                  have bx16_w0_6 : w16.cell? ⟨bV5, 6, none⟩ = some (.slice a6_R_5 (entE vM.fEntries vX).fIds.length c6_R_5) := (hb16.cell (p := ⟨bV5, 6, none⟩) sz15_w0).trans bx15_w0_6
                  have bx16_w0_7 : w16.cell? ⟨bV5, 7, none⟩ = some (.slice a7_R_5 (entE vM.fEntries vX).fShape.length c7_R_5) := (hb16.cell (p := ⟨bV5, 7, none⟩) sz15_w0).trans bx15_w0_7
                  have bx16_w0_8 : w16.cell? ⟨bV5, 8, none⟩ = some (.slice a8_R_5 (entE vM.fEntries vX).fReads.length c8_R_5) := (hb16.cell (p := ⟨bV5, 8, none⟩) sz15_w0).trans bx15_w0_8
                  have sz16_x0 : w6.heap.size < w16.heap.size := Nat.lt_of_lt_of_le sz15_x0 hb16.size
                  have bx16_x0_0 : w16.cell? ⟨w6.heap.size, 0, none⟩ = some (.slice a0_vM_6 vM.fEntries.length c0_vM_6) := (hb16.cell (p := ⟨w6.heap.size, 0, none⟩) sz15_x0).trans bx15_x0_0
                  have bx16_x0_1 : w16.cell? ⟨w6.heap.size, 1, none⟩ = some (.slice a1_vM_6 vM.fEvaluated.length c1_vM_6) := (hb16.cell (p := ⟨w6.heap.size, 1, none⟩) sz15_x0).trans bx15_x0_1
                  have sz16_g0 : bV8 < w16.heap.size := Nat.lt_of_lt_of_le sz15_g0 hb16.size
                  have bx16_g0_0 : w16.cell? ⟨bV8, 0, none⟩ = some (.int .i64 (entE vM.fEntries vX).fAt.fNode) := (hb16.cell (p := ⟨bV8, 0, none⟩) sz15_g0).trans bx15_g0_0
                  have bx16_g0_1 : w16.cell? ⟨bV8, 1, none⟩ = some (.string (entE vM.fEntries vX).fAt.fName) := (hb16.cell (p := ⟨bV8, 1, none⟩) sz15_g0).trans bx15_g0_1
                  have bx16_g0_2 : w16.cell? ⟨bV8, 2, none⟩ = some (.int .i64 (entE vM.fEntries vX).fValue) := (hb16.cell (p := ⟨bV8, 2, none⟩) sz15_g0).trans bx15_g0_2
                  have bx16_g0_3 : w16.cell? ⟨bV8, 3, none⟩ = some (.int .i64 (entE vM.fEntries vX).fOwner) := (hb16.cell (p := ⟨bV8, 3, none⟩) sz15_g0).trans bx15_g0_3
                  have bx16_g0_4 : w16.cell? ⟨bV8, 4, none⟩ = some (.int .i64 (entE vM.fEntries vX).fLiteral) := (hb16.cell (p := ⟨bV8, 4, none⟩) sz15_g0).trans bx15_g0_4
                  have bx16_g0_5 : w16.cell? ⟨bV8, 5, none⟩ = some (.string (entE vM.fEntries vX).fRule) := (hb16.cell (p := ⟨bV8, 5, none⟩) sz15_g0).trans bx15_g0_5
                  have bx16_g0_6 : w16.cell? ⟨bV8, 6, none⟩ = some (.slice a6_R_8 (entE vM.fEntries vX).fIds.length c6_R_8) := (hb16.cell (p := ⟨bV8, 6, none⟩) sz15_g0).trans bx15_g0_6
                  have bx16_g0_7 : w16.cell? ⟨bV8, 7, none⟩ = some (.slice a7_R_8 (entE vM.fEntries vX).fShape.length c7_R_8) := (hb16.cell (p := ⟨bV8, 7, none⟩) sz15_g0).trans bx15_g0_7
                  have bx16_g0_8 : w16.cell? ⟨bV8, 8, none⟩ = some (.slice a8_R_8 (entE vM.fEntries vX).fReads.length c8_R_8) := (hb16.cell (p := ⟨bV8, 8, none⟩) sz15_g0).trans bx15_g0_8
                  have HO16_6_R_5 := Lib.hid (HO15_6_R_5.out.kept (Kept.of_below_all hb16))
                  have HO16_7_R_5 := Lib.hid (HO15_7_R_5.out.kept (Kept.of_below_all hb16))
                  have HO16_8_R_5 := Lib.hid (HO15_8_R_5.out.kept (Kept.of_below_all hb16))
                  have HO16_0_vM_10 := Lib.hid (HO15_0_vM_10.out.kept (Kept.of_below_all hb16))
                  have HO16_1_vM_10 := Lib.hid (HO15_1_vM_10.out.kept (Kept.of_below_all hb16))
                  have HB16 := Lib.hid (HB15.out.trans (hb16.mono HB15.out.size))
                  clear sz15_paM bx15_paM_0 bx15_paM_1 sz15_paX bx15_paX_0 bx15_paX_1 sz15_w0 bx15_w0_0 bx15_w0_1 bx15_w0_2 bx15_w0_3 bx15_w0_4 bx15_w0_5 bx15_w0_6 bx15_w0_7 bx15_w0_8 sz15_x0 bx15_x0_0 bx15_x0_1 sz15_g0 bx15_g0_0 bx15_g0_1 bx15_g0_2 bx15_g0_3 bx15_g0_4 bx15_g0_5 bx15_g0_6 bx15_g0_7 bx15_g0_8
                  go_wp2_with fail
                  refine (laws_toInstance vX _).mono ?_
                  rintro e w17 ⟨rfl, hb17⟩
                  go_wp2_with fail
                  exact freePost _ rfl ⟨hb17, upd_self⟩
                · intro V L H w16 hb16 hd
                  obtain ⟨⟨hL1, hM1, hH1, a0_vM_f1, c0_vM_f1, a1_vM_f1, c1_vM_f1, hv1, ho1_⟩, ⟨hL3, hM3, hH3, hv3⟩, -⟩ := hd
                  rw [hv1, hv3]
                  have HV1 := Lib.hid hv1
                  have HV3 := Lib.hid hv3
                  clear hv1 hv3
                  have sz16_paM : w.heap.size < w16.heap.size := Nat.lt_of_lt_of_le sz15_paM hb16.size
                  have bx16_paM_0 : w16.cell? ⟨w.heap.size, 0, none⟩ = some (.slice a0_vM vM.fEntries.length c0_vM) := (hb16.cell (p := ⟨w.heap.size, 0, none⟩) sz15_paM).trans bx15_paM_0
                  have bx16_paM_1 : w16.cell? ⟨w.heap.size, 1, none⟩ = some (.slice a1_vM vM.fEvaluated.length c1_vM) := (hb16.cell (p := ⟨w.heap.size, 1, none⟩) sz15_paM).trans bx15_paM_1
                  have sz16_paX : w.heap.size + 1 < w16.heap.size := Nat.lt_of_lt_of_le sz15_paX hb16.size
                  have bx16_paX_0 : w16.cell? ⟨w.heap.size + 1, 0, none⟩ = some (.int .i64 vX.fNode) := (hb16.cell (p := ⟨w.heap.size + 1, 0, none⟩) sz15_paX).trans bx15_paX_0
                  have bx16_paX_1 : w16.cell? ⟨w.heap.size + 1, 1, none⟩ = some (.string vX.fName) := (hb16.cell (p := ⟨w.heap.size + 1, 1, none⟩) sz15_paX).trans bx15_paX_1
                  have sz16_w0 : bV5 < w16.heap.size := Nat.lt_of_lt_of_le sz15_w0 hb16.size
                  have bx16_w0_0 : w16.cell? ⟨bV5, 0, none⟩ = some (.int .i64 (entE vM.fEntries vX).fAt.fNode) := (hb16.cell (p := ⟨bV5, 0, none⟩) sz15_w0).trans bx15_w0_0
                  have bx16_w0_1 : w16.cell? ⟨bV5, 1, none⟩ = some (.string (entE vM.fEntries vX).fAt.fName) := (hb16.cell (p := ⟨bV5, 1, none⟩) sz15_w0).trans bx15_w0_1
                  have bx16_w0_2 : w16.cell? ⟨bV5, 2, none⟩ = some (.int .i64 (entE vM.fEntries vX).fValue) := (hb16.cell (p := ⟨bV5, 2, none⟩) sz15_w0).trans bx15_w0_2
                  have bx16_w0_3 : w16.cell? ⟨bV5, 3, none⟩ = some (.int .i64 (entE vM.fEntries vX).fOwner) := (hb16.cell (p := ⟨bV5, 3, none⟩) sz15_w0).trans bx15_w0_3
                  have bx16_w0_4 : w16.cell? ⟨bV5, 4, none⟩ = some (.int .i64 (entE vM.fEntries vX).fLiteral) := (hb16.cell (p := ⟨bV5, 4, none⟩) sz15_w0).trans bx15_w0_4
                  have bx16_w0_5 : w16.cell? ⟨bV5, 5, none⟩ = some (.string (entE vM.fEntries vX).fRule) := (hb16.cell (p := ⟨bV5, 5, none⟩) sz15_w0).trans bx15_w0_5
                  have bx16_w0_6 : w16.cell? ⟨bV5, 6, none⟩ = some (.slice a6_R_5 (entE vM.fEntries vX).fIds.length c6_R_5) := (hb16.cell (p := ⟨bV5, 6, none⟩) sz15_w0).trans bx15_w0_6
                  have bx16_w0_7 : w16.cell? ⟨bV5, 7, none⟩ = some (.slice a7_R_5 (entE vM.fEntries vX).fShape.length c7_R_5) := (hb16.cell (p := ⟨bV5, 7, none⟩) sz15_w0).trans bx15_w0_7
                  have bx16_w0_8 : w16.cell? ⟨bV5, 8, none⟩ = some (.slice a8_R_5 (entE vM.fEntries vX).fReads.length c8_R_5) := (hb16.cell (p := ⟨bV5, 8, none⟩) sz15_w0).trans bx15_w0_8
                  have sz16_x0 : w6.heap.size < w16.heap.size := Nat.lt_of_lt_of_le sz15_x0 hb16.size
                  have bx16_x0_0 : w16.cell? ⟨w6.heap.size, 0, none⟩ = some (.slice a0_vM_6 vM.fEntries.length c0_vM_6) := (hb16.cell (p := ⟨w6.heap.size, 0, none⟩) sz15_x0).trans bx15_x0_0
                  have bx16_x0_1 : w16.cell? ⟨w6.heap.size, 1, none⟩ = some (.slice a1_vM_6 vM.fEvaluated.length c1_vM_6) := (hb16.cell (p := ⟨w6.heap.size, 1, none⟩) sz15_x0).trans bx15_x0_1
                  have sz16_g0 : bV8 < w16.heap.size := Nat.lt_of_lt_of_le sz15_g0 hb16.size
                  have bx16_g0_0 : w16.cell? ⟨bV8, 0, none⟩ = some (.int .i64 (entE vM.fEntries vX).fAt.fNode) := (hb16.cell (p := ⟨bV8, 0, none⟩) sz15_g0).trans bx15_g0_0
                  have bx16_g0_1 : w16.cell? ⟨bV8, 1, none⟩ = some (.string (entE vM.fEntries vX).fAt.fName) := (hb16.cell (p := ⟨bV8, 1, none⟩) sz15_g0).trans bx15_g0_1
                  have bx16_g0_2 : w16.cell? ⟨bV8, 2, none⟩ = some (.int .i64 (entE vM.fEntries vX).fValue) := (hb16.cell (p := ⟨bV8, 2, none⟩) sz15_g0).trans bx15_g0_2
                  have bx16_g0_3 : w16.cell? ⟨bV8, 3, none⟩ = some (.int .i64 (entE vM.fEntries vX).fOwner) := (hb16.cell (p := ⟨bV8, 3, none⟩) sz15_g0).trans bx15_g0_3
                  have bx16_g0_4 : w16.cell? ⟨bV8, 4, none⟩ = some (.int .i64 (entE vM.fEntries vX).fLiteral) := (hb16.cell (p := ⟨bV8, 4, none⟩) sz15_g0).trans bx15_g0_4
                  have bx16_g0_5 : w16.cell? ⟨bV8, 5, none⟩ = some (.string (entE vM.fEntries vX).fRule) := (hb16.cell (p := ⟨bV8, 5, none⟩) sz15_g0).trans bx15_g0_5
                  have bx16_g0_6 : w16.cell? ⟨bV8, 6, none⟩ = some (.slice a6_R_8 (entE vM.fEntries vX).fIds.length c6_R_8) := (hb16.cell (p := ⟨bV8, 6, none⟩) sz15_g0).trans bx15_g0_6
                  have bx16_g0_7 : w16.cell? ⟨bV8, 7, none⟩ = some (.slice a7_R_8 (entE vM.fEntries vX).fShape.length c7_R_8) := (hb16.cell (p := ⟨bV8, 7, none⟩) sz15_g0).trans bx15_g0_7
                  have bx16_g0_8 : w16.cell? ⟨bV8, 8, none⟩ = some (.slice a8_R_8 (entE vM.fEntries vX).fReads.length c8_R_8) := (hb16.cell (p := ⟨bV8, 8, none⟩) sz15_g0).trans bx15_g0_8
                  have HO16_6_R_5 := Lib.hid (HO15_6_R_5.out.kept (Kept.of_below_all hb16))
                  have HO16_7_R_5 := Lib.hid (HO15_7_R_5.out.kept (Kept.of_below_all hb16))
                  have HO16_8_R_5 := Lib.hid (HO15_8_R_5.out.kept (Kept.of_below_all hb16))
                  have HO16_0_vM_10 := Lib.hid (HO15_0_vM_10.out.kept (Kept.of_below_all hb16))
                  have HO16_1_vM_10 := Lib.hid (HO15_1_vM_10.out.kept (Kept.of_below_all hb16))
                  have HB16 := Lib.hid (HB15.out.trans (hb16.mono HB15.out.size))
                  clear sz15_paM bx15_paM_0 bx15_paM_1 sz15_paX bx15_paX_0 bx15_paX_1 sz15_w0 bx15_w0_0 bx15_w0_1 bx15_w0_2 bx15_w0_3 bx15_w0_4 bx15_w0_5 bx15_w0_6 bx15_w0_7 bx15_w0_8 sz15_x0 bx15_x0_0 bx15_x0_1 sz15_g0 bx15_g0_0 bx15_g0_1 bx15_g0_2 bx15_g0_3 bx15_g0_4 bx15_g0_5 bx15_g0_6 bx15_g0_7 bx15_g0_8
                  have HO_0_vM_f1 := Lib.hid (show Own w16 (fun y => L 1 ≤ y ∧ y < H 1) (.sl 9 vM.fEntries.length (fun k => DEntry.ct (vM.fEntries.getD k default))) (.slice a0_vM_f1 vM.fEntries.length c0_vM_f1) from OwnR.at ho1_ 0 (by decide))
                  have HO_1_vM_f1 := Lib.hid (show Own w16 (fun y => L 1 ≤ y ∧ y < H 1) (.sl 2 vM.fEvaluated.length (fun k => DInstance.ct (vM.fEvaluated.getD k default))) (.slice a1_vM_f1 vM.fEvaluated.length c1_vM_f1) from OwnR.at ho1_ 1 (by decide))
                  clear ho1_
                  go_wp2_with fail
                  refine (impl_FindEntryL (c0_0 := c0_vM_f1) (c0_1 := c1_vM_f1) vM OK_vM.out hq_vM vX OK_vX.out hq_vX _ (Below.size (by repeat (first | (with_reducible exact Below.refl _ _) | (with_reducible apply Below.drew) | (with_reducible refine below_drewN ?_ _) | (refine Below.setCell ?_ (by simp <;> omega) _) | (refine Below.alloc ?_ (by simp <;> omega) _)) : Below w16.heap.size w16 _)) ((Sl.of (HO_0_vM_f1.out.lies (lo := 0) (hi := w16.heap.size) (fun y hy => ⟨Nat.zero_le _, by have := hy.2; omega⟩))).later (by repeat (first | (with_reducible exact Below.refl _ _) | (with_reducible apply Below.drew) | (with_reducible refine below_drewN ?_ _) | (refine Below.setCell ?_ (by simp <;> omega) _) | (refine Below.alloc ?_ (by simp <;> omega) _)) : Below w16.heap.size w16 _) (Nat.le_refl _)) ((Sl.of (HO_1_vM_f1.out.lies (lo := 0) (hi := w16.heap.size) (fun y hy => ⟨Nat.zero_le _, by have := hy.2; omega⟩))).later (by repeat (first | (with_reducible exact Below.refl _ _) | (with_reducible apply Below.drew) | (with_reducible refine below_drewN ?_ _) | (refine Below.setCell ?_ (by simp <;> omega) _) | (refine Below.alloc ?_ (by simp <;> omega) _)) : Below w16.heap.size w16 _) (Nat.le_refl _))).mono ?_
                  rintro e w17 ⟨a6_R_f4, c6_R_f4, a7_R_f4, c7_R_f4, a8_R_f4, c8_R_f4, rfl, ho, hb17⟩
                  go_wp2_with fail
                  exact freePost _ rfl ⟨hb17, Exists.intro a6_R_f4 (Exists.intro c6_R_f4 (Exists.intro a7_R_f4 (Exists.intro c7_R_f4 (Exists.intro a8_R_f4 (Exists.intro c8_R_f4 (And.intro upd_self ho))))))⟩
                · intro V L H w16 hb16 hd
                  obtain ⟨⟨hL4, hM4, hH4, a6_R_f4, c6_R_f4, a7_R_f4, c7_R_f4, a8_R_f4, c8_R_f4, hv4, ho4_⟩, -⟩ := hd
                  rw [hv4]
                  have HV4 := Lib.hid hv4
                  clear hv4
                  have HB16 := Lib.hid (HB15.out.trans (hb16.mono HB15.out.size))
                  clear sz15_paM bx15_paM_0 bx15_paM_1 sz15_paX bx15_paX_0 bx15_paX_1 sz15_w0 bx15_w0_0 bx15_w0_1 bx15_w0_2 bx15_w0_3 bx15_w0_4 bx15_w0_5 bx15_w0_6 bx15_w0_7 bx15_w0_8 sz15_x0 bx15_x0_0 bx15_x0_1 sz15_g0 bx15_g0_0 bx15_g0_1 bx15_g0_2 bx15_g0_3 bx15_g0_4 bx15_g0_5 bx15_g0_6 bx15_g0_7 bx15_g0_8
                  go_wp2_with fail
                  exact freePost _ rfl ⟨Below.refl _ _, And.intro (upd_self.trans (HV4.out.symm.trans (upd_ne (by decide)).symm)) ⟨_, _, _, _, _, _, upd_self⟩⟩
                · intro V L H w16 hb16 hd
                  obtain ⟨⟨hL5, hM5, hH5, hv5, a6_R_f4_5, c6_R_f4_5, a7_R_f4_5, c7_R_f4_5, a8_R_f4_5, c8_R_f4_5, hz5⟩, -⟩ := hd
                  clear hv5
                  rw [hz5]
                  have HV5 := Lib.hid hz5
                  clear hz5
                  have HB16 := Lib.hid (HB15.out.trans (hb16.mono HB15.out.size))
                  clear sz15_paM bx15_paM_0 bx15_paM_1 sz15_paX bx15_paX_0 bx15_paX_1 sz15_w0 bx15_w0_0 bx15_w0_1 bx15_w0_2 bx15_w0_3 bx15_w0_4 bx15_w0_5 bx15_w0_6 bx15_w0_7 bx15_w0_8 sz15_x0 bx15_x0_0 bx15_x0_1 sz15_g0 bx15_g0_0 bx15_g0_1 bx15_g0_2 bx15_g0_3 bx15_g0_4 bx15_g0_5 bx15_g0_6 bx15_g0_7 bx15_g0_8
                  go_wp2_with fail
                  exact freePost _ rfl ⟨Below.refl _ _, And.intro (fun x0 x1 h => by cases (HV5.out.symm.trans ((upd_ne (by decide)).symm.trans h)); exact upd_self) ⟨_, _, _, _, _, _, upd_self⟩⟩
                · intro V L H w16 hb16 hd
                  obtain ⟨⟨hL5, hM5, hH5, hv5, a6_R_f4_5, c6_R_f4_5, a7_R_f4_5, c7_R_f4_5, a8_R_f4_5, c8_R_f4_5, hz5⟩, -⟩ := hd
                  clear hv5
                  rw [hz5]
                  have HV5 := Lib.hid hz5
                  clear hz5
                  have HB16 := Lib.hid (HB15.out.trans (hb16.mono HB15.out.size))
                  clear sz15_paM bx15_paM_0 bx15_paM_1 sz15_paX bx15_paX_0 bx15_paX_1 sz15_w0 bx15_w0_0 bx15_w0_1 bx15_w0_2 bx15_w0_3 bx15_w0_4 bx15_w0_5 bx15_w0_6 bx15_w0_7 bx15_w0_8 sz15_x0 bx15_x0_0 bx15_x0_1 sz15_g0 bx15_g0_0 bx15_g0_1 bx15_g0_2 bx15_g0_3 bx15_g0_4 bx15_g0_5 bx15_g0_6 bx15_g0_7 bx15_g0_8
                  go_wp2_with fail
                  exact freePost _ rfl ⟨Below.refl _ _, fun x0 x1 h => by cases (HV5.out.symm.trans ((upd_ne (by decide)).symm.trans h)); exact upd_self⟩
                · intro V L H w16 hb16 hd
                  clear hd
                  have HB16 := Lib.hid (HB15.out.trans (hb16.mono HB15.out.size))
                  clear sz15_paM bx15_paM_0 bx15_paM_1 sz15_paX bx15_paX_0 bx15_paX_1 sz15_w0 bx15_w0_0 bx15_w0_1 bx15_w0_2 bx15_w0_3 bx15_w0_4 bx15_w0_5 bx15_w0_6 bx15_w0_7 bx15_w0_8 sz15_x0 bx15_x0_0 bx15_x0_1 sz15_g0 bx15_g0_0 bx15_g0_1 bx15_g0_2 bx15_g0_3 bx15_g0_4 bx15_g0_5 bx15_g0_6 bx15_g0_7 bx15_g0_8
                  go_wp2_with fail
                  refine freePost _ rfl ⟨Below.alloc (Below.refl _ _) (Nat.le_refl _) _, upd_self, ?_, ?_, ?_, ?_, ?_, ?_, ?_, ?_, ?_, ?_, ?_, ?_, ?_, ?_, ?_, ?_, ?_, ?_, ?_⟩
                  · simp
                  all_goals go_simp
                · intro V L H w16 hb16 hd
                  obtain ⟨⟨hL8, hM8, hH8, hv8, hlt8, hc8_0, hf8_0, hc8_1, hf8_1, hc8_2, hf8_2, hc8_3, hf8_3, hc8_4, hf8_4, hc8_5, hf8_5, hc8_6, hf8_6, hc8_7, hf8_7, hc8_8, hf8_8⟩, ⟨hL6, hM6, hH6, hv6, a6_R_f4_6, c6_R_f4_6, a7_R_f4_6, c7_R_f4_6, a8_R_f4_6, c8_R_f4_6, hz6⟩, -⟩ := hd
                  clear hv6
                  rw [hv8, hz6]
                  have HV8 := Lib.hid hv8
                  have HV6 := Lib.hid hz6
                  clear hv8 hz6
                  have HB16 := Lib.hid (HB15.out.trans (hb16.mono HB15.out.size))
                  clear sz15_paM bx15_paM_0 bx15_paM_1 sz15_paX bx15_paX_0 bx15_paX_1 sz15_w0 bx15_w0_0 bx15_w0_1 bx15_w0_2 bx15_w0_3 bx15_w0_4 bx15_w0_5 bx15_w0_6 bx15_w0_7 bx15_w0_8 sz15_x0 bx15_x0_0 bx15_x0_1 sz15_g0 bx15_g0_0 bx15_g0_1 bx15_g0_2 bx15_g0_3 bx15_g0_4 bx15_g0_5 bx15_g0_6 bx15_g0_7 bx15_g0_8
                  go_wp2_with fail
                  refine freePost undef rfl ⟨(Touches.put (L := L 8) (H := H 8) (Touches.put (L := L 8) (H := H 8) (Touches.put (L := L 8) (H := H 8) (Touches.put (L := L 8) (H := H 8) (Touches.put (L := L 8) (H := H 8) (Touches.put (L := L 8) (H := H 8) (Touches.put (L := L 8) (H := H 8) (Touches.put (L := L 8) (H := H 8) (Touches.put (L := L 8) (H := H 8) Touches.refl (p := ⟨L 8, 0, none⟩) ⟨Nat.le_refl _, hlt8⟩ _) (p := ⟨L 8, 1, none⟩) ⟨Nat.le_refl _, hlt8⟩ _) (p := ⟨L 8, 2, none⟩) ⟨Nat.le_refl _, hlt8⟩ _) (p := ⟨L 8, 3, none⟩) ⟨Nat.le_refl _, hlt8⟩ _) (p := ⟨L 8, 4, none⟩) ⟨Nat.le_refl _, hlt8⟩ _) (p := ⟨L 8, 5, none⟩) ⟨Nat.le_refl _, hlt8⟩ _) (p := ⟨L 8, 6, none⟩) ⟨Nat.le_refl _, hlt8⟩ _) (p := ⟨L 8, 7, none⟩) ⟨Nat.le_refl _, hlt8⟩ _) (p := ⟨L 8, 8, none⟩) ⟨Nat.le_refl _, hlt8⟩ _), fun x0 x1 x2 x3 x4 x5 x6 x7 x8 h => ?_⟩
                  cases (HV6.out.symm.trans ((upd_ne (by decide)).symm.trans h))
                  refine ⟨hlt8, ?_, ?_, ?_, ?_, ?_, ?_, ?_, ?_, ?_⟩
                  all_goals go_simp
                · intro V L H w16 hb16 hd
                  obtain ⟨⟨hL7, hM7, hH7, hv7⟩, -⟩ := hd
                  clear hv7
                  have HB16 := Lib.hid (HB15.out.trans (hb16.mono HB15.out.size))
                  clear sz15_paM bx15_paM_0 bx15_paM_1 sz15_paX bx15_paX_0 bx15_paX_1 sz15_w0 bx15_w0_0 bx15_w0_1 bx15_w0_2 bx15_w0_3 bx15_w0_4 bx15_w0_5 bx15_w0_6 bx15_w0_7 bx15_w0_8 sz15_x0 bx15_x0_0 bx15_x0_1 sz15_g0 bx15_g0_0 bx15_g0_1 bx15_g0_2 bx15_g0_3 bx15_g0_4 bx15_g0_5 bx15_g0_6 bx15_g0_7 bx15_g0_8
                  go_wp2_with fail
                  exact freePost _ rfl ⟨Below.refl _ _, upd_self.trans (upd_ne (by decide)).symm⟩
                · intro V L H w16 hb16 hd hap hdead
                  obtain ⟨⟨hL0, hM0, hH0, hv0⟩, ⟨hL1, hM1, hH1, a0_vM_f1, c0_vM_f1, a1_vM_f1, c1_vM_f1, hv1, ho1_⟩, ⟨hL2, hM2, hH2, hv2⟩, ⟨hL3, hM3, hH3, hv3⟩, ⟨hL4, hM4, hH4, a6_R_f4, c6_R_f4, a7_R_f4, c7_R_f4, a8_R_f4, c8_R_f4, hv4, ho4_⟩, ⟨hL5, hM5, hH5, hv5, a6_R_f4_5, c6_R_f4_5, a7_R_f4_5, c7_R_f4_5, a8_R_f4_5, c8_R_f4_5, hz5⟩, ⟨hL6, hM6, hH6, hv6, a6_R_f4_6, c6_R_f4_6, a7_R_f4_6, c7_R_f4_6, a8_R_f4_6, c8_R_f4_6, hz6⟩, ⟨hL7, hM7, hH7, hv7⟩, ⟨hL9, hM9, hH9, hst9_⟩, ⟨hL10, hM10, hH10, hv10⟩, -⟩ := hd
                  obtain ⟨hLe, hHe, wo, hva, -⟩ := hdead 9 8 (by decide) rfl
                  have hv4' := hv4
                  have hv5' := hv5.trans hv4'
                  have hv6' := hv6 _ _ hv5'
                  have hv7' := hv7 _ _ hv5'
                  have hv10' := hv10.trans hv7'
                  obtain ⟨hlt, hc0, hc1, hc2, hc3, hc4, hc5, hc6, hc7, hc8⟩ := hst9_ _ _ _ _ _ _ _ _ _ hv6'
                  rw [hv0, hv2, hv4', hv5', hv6', hv7', hv10', hva, hv1, hv3]
                  clear hv0 hv2 hv4' hv5' hv6' hv7' hv10' hva hv1 hv3 hv4 hv5 hv6 hv7 hv10
                  have hdis := hap 9 4 (by decide) (by decide) (by decide)
                  clear hap hdead
                  have HLe := Lib.hid hLe
                  have HHe := Lib.hid hHe
                  clear hLe hHe
                  go_wp2_with fail
                  go_meet
                  have hLe := HLe.out
                  have hHe := HHe.out
                  refine ⟨L 8, L 4, H 4, a6_R_f4, c6_R_f4, a7_R_f4, c7_R_f4, a8_R_f4, c8_R_f4, rfl, rfl, ?_, ?_, ?_, ?_, ?_, ?_, ?_, ?_, ?_, ho4_, ?_, ?_, ?_, ?_, ?_, hb16⟩
                  · rw [← hLe]; exact hc0
                  · rw [← hLe]; exact hc1
                  · rw [← hLe]; exact hc2
                  · rw [← hLe]; exact hc3
                  · rw [← hLe]; exact hc4
                  · rw [← hLe]; exact hc5
                  · rw [← hLe]; exact hc6
                  · rw [← hLe]; exact hc7
                  · rw [← hLe]; exact hc8
                  · omega
                  · omega
                  · omega
                  · omega
                  · omega
            case rest =>
              obtain ⟨bV18, lV18, hV18, a6_R_18, c6_R_18, a7_R_18, c7_R_18, a8_R_18, c8_R_18, rfl, rfl, bx18_h0_0, bx18_h0_1, bx18_h0_2, bx18_h0_3, bx18_h0_4, bx18_h0_5, bx18_h0_6, bx18_h0_7, bx18_h0_8, ho18, sz18_h0, hB18, hL18, hH18, hD18, hb18⟩ := hcut
              obtain ⟨w18, rfl⟩ : ∃ w_ : World, w_ = wc := ⟨_, rfl⟩
              have hr18 : w15.heap.size ≤ w18.heap.size := hb18.size
              have hK18 : bV18 < w18.heap.size := sz18_h0
              have sz18_paM : w.heap.size < w18.heap.size := Nat.lt_of_lt_of_le sz15_paM hb18.size
              have bx18_paM_0 : w18.cell? ⟨w.heap.size, 0, none⟩ = some (.slice a0_vM vM.fEntries.length c0_vM) := (hb18.cell (p := ⟨w.heap.size, 0, none⟩) sz15_paM).trans bx15_paM_0
              have bx18_paM_1 : w18.cell? ⟨w.heap.size, 1, none⟩ = some (.slice a1_vM vM.fEvaluated.length c1_vM) := (hb18.cell (p := ⟨w.heap.size, 1, none⟩) sz15_paM).trans bx15_paM_1
              have sz18_paX : w.heap.size + 1 < w18.heap.size := Nat.lt_of_lt_of_le sz15_paX hb18.size
              have bx18_paX_0 : w18.cell? ⟨w.heap.size + 1, 0, none⟩ = some (.int .i64 vX.fNode) := (hb18.cell (p := ⟨w.heap.size + 1, 0, none⟩) sz15_paX).trans bx15_paX_0
              have bx18_paX_1 : w18.cell? ⟨w.heap.size + 1, 1, none⟩ = some (.string vX.fName) := (hb18.cell (p := ⟨w.heap.size + 1, 1, none⟩) sz15_paX).trans bx15_paX_1
              have sz18_w0 : bV5 < w18.heap.size := Nat.lt_of_lt_of_le sz15_w0 hb18.size
              have bx18_w0_0 : w18.cell? ⟨bV5, 0, none⟩ = some (.int .i64 (entE vM.fEntries vX).fAt.fNode) := (hb18.cell (p := ⟨bV5, 0, none⟩) sz15_w0).trans bx15_w0_0
              have bx18_w0_1 : w18.cell? ⟨bV5, 1, none⟩ = some (.string (entE vM.fEntries vX).fAt.fName) := (hb18.cell (p := ⟨bV5, 1, none⟩) sz15_w0).trans bx15_w0_1
              have bx18_w0_2 : w18.cell? ⟨bV5, 2, none⟩ = some (.int .i64 (entE vM.fEntries vX).fValue) := (hb18.cell (p := ⟨bV5, 2, none⟩) sz15_w0).trans bx15_w0_2
              have bx18_w0_3 : w18.cell? ⟨bV5, 3, none⟩ = some (.int .i64 (entE vM.fEntries vX).fOwner) := (hb18.cell (p := ⟨bV5, 3, none⟩) sz15_w0).trans bx15_w0_3
              have bx18_w0_4 : w18.cell? ⟨bV5, 4, none⟩ = some (.int .i64 (entE vM.fEntries vX).fLiteral) := (hb18.cell (p := ⟨bV5, 4, none⟩) sz15_w0).trans bx15_w0_4
              have bx18_w0_5 : w18.cell? ⟨bV5, 5, none⟩ = some (.string (entE vM.fEntries vX).fRule) := (hb18.cell (p := ⟨bV5, 5, none⟩) sz15_w0).trans bx15_w0_5
              have bx18_w0_6 : w18.cell? ⟨bV5, 6, none⟩ = some (.slice a6_R_5 (entE vM.fEntries vX).fIds.length c6_R_5) := (hb18.cell (p := ⟨bV5, 6, none⟩) sz15_w0).trans bx15_w0_6
              have bx18_w0_7 : w18.cell? ⟨bV5, 7, none⟩ = some (.slice a7_R_5 (entE vM.fEntries vX).fShape.length c7_R_5) := (hb18.cell (p := ⟨bV5, 7, none⟩) sz15_w0).trans bx15_w0_7
              have bx18_w0_8 : w18.cell? ⟨bV5, 8, none⟩ = some (.slice a8_R_5 (entE vM.fEntries vX).fReads.length c8_R_5) := (hb18.cell (p := ⟨bV5, 8, none⟩) sz15_w0).trans bx15_w0_8
              have sz18_x0 : w6.heap.size < w18.heap.size := Nat.lt_of_lt_of_le sz15_x0 hb18.size
              have bx18_x0_0 : w18.cell? ⟨w6.heap.size, 0, none⟩ = some (.slice a0_vM_6 vM.fEntries.length c0_vM_6) := (hb18.cell (p := ⟨w6.heap.size, 0, none⟩) sz15_x0).trans bx15_x0_0
              have bx18_x0_1 : w18.cell? ⟨w6.heap.size, 1, none⟩ = some (.slice a1_vM_6 vM.fEvaluated.length c1_vM_6) := (hb18.cell (p := ⟨w6.heap.size, 1, none⟩) sz15_x0).trans bx15_x0_1
              have sz18_g0 : bV8 < w18.heap.size := Nat.lt_of_lt_of_le sz15_g0 hb18.size
              have bx18_g0_0 : w18.cell? ⟨bV8, 0, none⟩ = some (.int .i64 (entE vM.fEntries vX).fAt.fNode) := (hb18.cell (p := ⟨bV8, 0, none⟩) sz15_g0).trans bx15_g0_0
              have bx18_g0_1 : w18.cell? ⟨bV8, 1, none⟩ = some (.string (entE vM.fEntries vX).fAt.fName) := (hb18.cell (p := ⟨bV8, 1, none⟩) sz15_g0).trans bx15_g0_1
              have bx18_g0_2 : w18.cell? ⟨bV8, 2, none⟩ = some (.int .i64 (entE vM.fEntries vX).fValue) := (hb18.cell (p := ⟨bV8, 2, none⟩) sz15_g0).trans bx15_g0_2
              have bx18_g0_3 : w18.cell? ⟨bV8, 3, none⟩ = some (.int .i64 (entE vM.fEntries vX).fOwner) := (hb18.cell (p := ⟨bV8, 3, none⟩) sz15_g0).trans bx15_g0_3
              have bx18_g0_4 : w18.cell? ⟨bV8, 4, none⟩ = some (.int .i64 (entE vM.fEntries vX).fLiteral) := (hb18.cell (p := ⟨bV8, 4, none⟩) sz15_g0).trans bx15_g0_4
              have bx18_g0_5 : w18.cell? ⟨bV8, 5, none⟩ = some (.string (entE vM.fEntries vX).fRule) := (hb18.cell (p := ⟨bV8, 5, none⟩) sz15_g0).trans bx15_g0_5
              have bx18_g0_6 : w18.cell? ⟨bV8, 6, none⟩ = some (.slice a6_R_8 (entE vM.fEntries vX).fIds.length c6_R_8) := (hb18.cell (p := ⟨bV8, 6, none⟩) sz15_g0).trans bx15_g0_6
              have bx18_g0_7 : w18.cell? ⟨bV8, 7, none⟩ = some (.slice a7_R_8 (entE vM.fEntries vX).fShape.length c7_R_8) := (hb18.cell (p := ⟨bV8, 7, none⟩) sz15_g0).trans bx15_g0_7
              have bx18_g0_8 : w18.cell? ⟨bV8, 8, none⟩ = some (.slice a8_R_8 (entE vM.fEntries vX).fReads.length c8_R_8) := (hb18.cell (p := ⟨bV8, 8, none⟩) sz15_g0).trans bx15_g0_8
              have HO18_6_R_5 := Lib.hid (HO15_6_R_5.out.kept (Kept.of_below_all hb18))
              have HO18_7_R_5 := Lib.hid (HO15_7_R_5.out.kept (Kept.of_below_all hb18))
              have HO18_8_R_5 := Lib.hid (HO15_8_R_5.out.kept (Kept.of_below_all hb18))
              have HO18_0_vM_10 := Lib.hid (HO15_0_vM_10.out.kept (Kept.of_below_all hb18))
              have HO18_1_vM_10 := Lib.hid (HO15_1_vM_10.out.kept (Kept.of_below_all hb18))
              have HR18_R_8 := Lib.hid (HR15_R_8.out.kept (Kept.of_below_all hb18))
              have HO18_6_R_18 := Lib.hid (show Own w18 (fun y => lV18 ≤ y ∧ y < hV18) (.sl 1 (entE vM.fEntries vX).fIds.length (fun k => ictI ((entE vM.fEntries vX).fIds.getD k default))) (.slice a6_R_18 (entE vM.fEntries vX).fIds.length c6_R_18) from OwnR.at ho18 6 (by decide))
              have HO18_7_R_18 := Lib.hid (show Own w18 (fun y => lV18 ≤ y ∧ y < hV18) (.sl 1 (entE vM.fEntries vX).fShape.length (fun k => ictI ((entE vM.fEntries vX).fShape.getD k default))) (.slice a7_R_18 (entE vM.fEntries vX).fShape.length c7_R_18) from OwnR.at ho18 7 (by decide))
              have HO18_8_R_18 := Lib.hid (show Own w18 (fun y => lV18 ≤ y ∧ y < hV18) (.sl 4 (entE vM.fEntries vX).fReads.length (fun k => DReading.ct ((entE vM.fEntries vX).fReads.getD k default))) (.slice a8_R_18 (entE vM.fEntries vX).fReads.length c8_R_18) from OwnR.at ho18 8 (by decide))
              have HB18 := Lib.hid (HB15.out.trans (hb18.mono HB15.out.size))
              clear hb18 ho18 bx15_paM_0 bx15_paM_1 sz15_paM bx15_paX_0 bx15_paX_1 sz15_paX bx15_w0_0 bx15_w0_1 bx15_w0_2 bx15_w0_3 bx15_w0_4 bx15_w0_5 bx15_w0_6 bx15_w0_7 bx15_w0_8 sz15_w0 bx15_x0_0 bx15_x0_1 sz15_x0 bx15_g0_0 bx15_g0_1 bx15_g0_2 bx15_g0_3 bx15_g0_4 bx15_g0_5 bx15_g0_6 bx15_g0_7 bx15_g0_8 sz15_g0 HO15_6_R_5 HO15_7_R_5 HO15_8_R_5 HO15_0_vM_10 HO15_1_vM_10 HR15_R_8 HB15
              go_wp2_with fail
              refine (laws_eqEntry (c6 := c6_R_18) (c7 := c7_R_18) (c8 := c8_R_18) (c6q := c6_R_5) (c7q := c7_R_5) (c8q := c8_R_5) (entE vM.fEntries vX) hq_R _ (Below.size (by repeat (first | (with_reducible exact Below.refl _ _) | (with_reducible apply Below.drew) | (with_reducible refine below_drewN ?_ _) | (refine Below.setCell ?_ (by simp <;> omega) _) | (refine Below.alloc ?_ (by simp <;> omega) _)) : Below w18.heap.size w18 _)) (Below.size (by repeat (first | (with_reducible exact Below.refl _ _) | (with_reducible apply Below.drew) | (with_reducible refine below_drewN ?_ _) | (refine Below.setCell ?_ (by simp <;> omega) _) | (refine Below.alloc ?_ (by simp <;> omega) _)) : Below w18.heap.size w18 _)) ((Sl.of (HO18_6_R_18.out.lies (lo := 0) (hi := w18.heap.size) (fun y hy => ⟨Nat.zero_le _, by have := hy.2; omega⟩))).later (by repeat (first | (with_reducible exact Below.refl _ _) | (with_reducible apply Below.drew) | (with_reducible refine below_drewN ?_ _) | (refine Below.setCell ?_ (by simp <;> omega) _) | (refine Below.alloc ?_ (by simp <;> omega) _)) : Below w18.heap.size w18 _) (Nat.le_refl _)) ((Sl.of (HO18_7_R_18.out.lies (lo := 0) (hi := w18.heap.size) (fun y hy => ⟨Nat.zero_le _, by have := hy.2; omega⟩))).later (by repeat (first | (with_reducible exact Below.refl _ _) | (with_reducible apply Below.drew) | (with_reducible refine below_drewN ?_ _) | (refine Below.setCell ?_ (by simp <;> omega) _) | (refine Below.alloc ?_ (by simp <;> omega) _)) : Below w18.heap.size w18 _) (Nat.le_refl _)) ((Sl.of (HO18_8_R_18.out.lies (lo := 0) (hi := w18.heap.size) (fun y hy => ⟨Nat.zero_le _, by have := hy.2; omega⟩))).later (by repeat (first | (with_reducible exact Below.refl _ _) | (with_reducible apply Below.drew) | (with_reducible refine below_drewN ?_ _) | (refine Below.setCell ?_ (by simp <;> omega) _) | (refine Below.alloc ?_ (by simp <;> omega) _)) : Below w18.heap.size w18 _) (Nat.le_refl _)) ((Sl.of (HO18_6_R_5.out.lies (lo := 0) (hi := w18.heap.size) (fun y hy => ⟨Nat.zero_le _, by have := hy.2; omega⟩))).later (by repeat (first | (with_reducible exact Below.refl _ _) | (with_reducible apply Below.drew) | (with_reducible refine below_drewN ?_ _) | (refine Below.setCell ?_ (by simp <;> omega) _) | (refine Below.alloc ?_ (by simp <;> omega) _)) : Below w18.heap.size w18 _) (Nat.le_refl _)) ((Sl.of (HO18_7_R_5.out.lies (lo := 0) (hi := w18.heap.size) (fun y hy => ⟨Nat.zero_le _, by have := hy.2; omega⟩))).later (by repeat (first | (with_reducible exact Below.refl _ _) | (with_reducible apply Below.drew) | (with_reducible refine below_drewN ?_ _) | (refine Below.setCell ?_ (by simp <;> omega) _) | (refine Below.alloc ?_ (by simp <;> omega) _)) : Below w18.heap.size w18 _) (Nat.le_refl _)) ((Sl.of (HO18_8_R_5.out.lies (lo := 0) (hi := w18.heap.size) (fun y hy => ⟨Nat.zero_le _, by have := hy.2; omega⟩))).later (by repeat (first | (with_reducible exact Below.refl _ _) | (with_reducible apply Below.drew) | (with_reducible refine below_drewN ?_ _) | (refine Below.setCell ?_ (by simp <;> omega) _) | (refine Below.alloc ?_ (by simp <;> omega) _)) : Below w18.heap.size w18 _) (Nat.le_refl _))).mono ?_
              rintro e w19 ⟨rfl, hb19⟩
              have hst19 : Below w18.heap.size w18 w19 := Below.trans (by repeat (first | (with_reducible exact Below.refl _ _) | (with_reducible apply Below.drew) | (with_reducible refine below_drewN ?_ _) | (refine Below.setCell ?_ (by simp <;> omega) _) | (refine Below.alloc ?_ (by simp <;> omega) _)) : Below w18.heap.size w18 _) (hb19.mono (Below.size (by repeat (first | (with_reducible exact Below.refl _ _) | (with_reducible apply Below.drew) | (with_reducible refine below_drewN ?_ _) | (refine Below.setCell ?_ (by simp <;> omega) _) | (refine Below.alloc ?_ (by simp <;> omega) _)) : Below w18.heap.size w18 _)))
              have hr19 : w18.heap.size ≤ w19.heap.size := Nat.le_trans (by first | exact Nat.le_refl _ | (simp; done) | (simp; omega) | (simp [World.setCell]; done) | (simp [World.setCell]; omega)) hb19.size
              have sz19_paM : w.heap.size < w19.heap.size := Nat.lt_of_lt_of_le sz18_paM hst19.size
              have bx19_paM_0 : w19.cell? ⟨w.heap.size, 0, none⟩ = some (.slice a0_vM vM.fEntries.length c0_vM) := (hst19.cell (p := ⟨w.heap.size, 0, none⟩) sz18_paM).trans bx18_paM_0
              have bx19_paM_1 : w19.cell? ⟨w.heap.size, 1, none⟩ = some (.slice a1_vM vM.fEvaluated.length c1_vM) := (hst19.cell (p := ⟨w.heap.size, 1, none⟩) sz18_paM).trans bx18_paM_1
              have sz19_paX : w.heap.size + 1 < w19.heap.size := Nat.lt_of_lt_of_le sz18_paX hst19.size
              have bx19_paX_0 : w19.cell? ⟨w.heap.size + 1, 0, none⟩ = some (.int .i64 vX.fNode) := (hst19.cell (p := ⟨w.heap.size + 1, 0, none⟩) sz18_paX).trans bx18_paX_0
              have bx19_paX_1 : w19.cell? ⟨w.heap.size + 1, 1, none⟩ = some (.string vX.fName) := (hst19.cell (p := ⟨w.heap.size + 1, 1, none⟩) sz18_paX).trans bx18_paX_1
              have sz19_w0 : bV5 < w19.heap.size := Nat.lt_of_lt_of_le sz18_w0 hst19.size
              have bx19_w0_0 : w19.cell? ⟨bV5, 0, none⟩ = some (.int .i64 (entE vM.fEntries vX).fAt.fNode) := (hst19.cell (p := ⟨bV5, 0, none⟩) sz18_w0).trans bx18_w0_0
              have bx19_w0_1 : w19.cell? ⟨bV5, 1, none⟩ = some (.string (entE vM.fEntries vX).fAt.fName) := (hst19.cell (p := ⟨bV5, 1, none⟩) sz18_w0).trans bx18_w0_1
              have bx19_w0_2 : w19.cell? ⟨bV5, 2, none⟩ = some (.int .i64 (entE vM.fEntries vX).fValue) := (hst19.cell (p := ⟨bV5, 2, none⟩) sz18_w0).trans bx18_w0_2
              have bx19_w0_3 : w19.cell? ⟨bV5, 3, none⟩ = some (.int .i64 (entE vM.fEntries vX).fOwner) := (hst19.cell (p := ⟨bV5, 3, none⟩) sz18_w0).trans bx18_w0_3
              have bx19_w0_4 : w19.cell? ⟨bV5, 4, none⟩ = some (.int .i64 (entE vM.fEntries vX).fLiteral) := (hst19.cell (p := ⟨bV5, 4, none⟩) sz18_w0).trans bx18_w0_4
              have bx19_w0_5 : w19.cell? ⟨bV5, 5, none⟩ = some (.string (entE vM.fEntries vX).fRule) := (hst19.cell (p := ⟨bV5, 5, none⟩) sz18_w0).trans bx18_w0_5
              have bx19_w0_6 : w19.cell? ⟨bV5, 6, none⟩ = some (.slice a6_R_5 (entE vM.fEntries vX).fIds.length c6_R_5) := (hst19.cell (p := ⟨bV5, 6, none⟩) sz18_w0).trans bx18_w0_6
              have bx19_w0_7 : w19.cell? ⟨bV5, 7, none⟩ = some (.slice a7_R_5 (entE vM.fEntries vX).fShape.length c7_R_5) := (hst19.cell (p := ⟨bV5, 7, none⟩) sz18_w0).trans bx18_w0_7
              have bx19_w0_8 : w19.cell? ⟨bV5, 8, none⟩ = some (.slice a8_R_5 (entE vM.fEntries vX).fReads.length c8_R_5) := (hst19.cell (p := ⟨bV5, 8, none⟩) sz18_w0).trans bx18_w0_8
              have sz19_x0 : w6.heap.size < w19.heap.size := Nat.lt_of_lt_of_le sz18_x0 hst19.size
              have bx19_x0_0 : w19.cell? ⟨w6.heap.size, 0, none⟩ = some (.slice a0_vM_6 vM.fEntries.length c0_vM_6) := (hst19.cell (p := ⟨w6.heap.size, 0, none⟩) sz18_x0).trans bx18_x0_0
              have bx19_x0_1 : w19.cell? ⟨w6.heap.size, 1, none⟩ = some (.slice a1_vM_6 vM.fEvaluated.length c1_vM_6) := (hst19.cell (p := ⟨w6.heap.size, 1, none⟩) sz18_x0).trans bx18_x0_1
              have sz19_g0 : bV8 < w19.heap.size := Nat.lt_of_lt_of_le sz18_g0 hst19.size
              have bx19_g0_0 : w19.cell? ⟨bV8, 0, none⟩ = some (.int .i64 (entE vM.fEntries vX).fAt.fNode) := (hst19.cell (p := ⟨bV8, 0, none⟩) sz18_g0).trans bx18_g0_0
              have bx19_g0_1 : w19.cell? ⟨bV8, 1, none⟩ = some (.string (entE vM.fEntries vX).fAt.fName) := (hst19.cell (p := ⟨bV8, 1, none⟩) sz18_g0).trans bx18_g0_1
              have bx19_g0_2 : w19.cell? ⟨bV8, 2, none⟩ = some (.int .i64 (entE vM.fEntries vX).fValue) := (hst19.cell (p := ⟨bV8, 2, none⟩) sz18_g0).trans bx18_g0_2
              have bx19_g0_3 : w19.cell? ⟨bV8, 3, none⟩ = some (.int .i64 (entE vM.fEntries vX).fOwner) := (hst19.cell (p := ⟨bV8, 3, none⟩) sz18_g0).trans bx18_g0_3
              have bx19_g0_4 : w19.cell? ⟨bV8, 4, none⟩ = some (.int .i64 (entE vM.fEntries vX).fLiteral) := (hst19.cell (p := ⟨bV8, 4, none⟩) sz18_g0).trans bx18_g0_4
              have bx19_g0_5 : w19.cell? ⟨bV8, 5, none⟩ = some (.string (entE vM.fEntries vX).fRule) := (hst19.cell (p := ⟨bV8, 5, none⟩) sz18_g0).trans bx18_g0_5
              have bx19_g0_6 : w19.cell? ⟨bV8, 6, none⟩ = some (.slice a6_R_8 (entE vM.fEntries vX).fIds.length c6_R_8) := (hst19.cell (p := ⟨bV8, 6, none⟩) sz18_g0).trans bx18_g0_6
              have bx19_g0_7 : w19.cell? ⟨bV8, 7, none⟩ = some (.slice a7_R_8 (entE vM.fEntries vX).fShape.length c7_R_8) := (hst19.cell (p := ⟨bV8, 7, none⟩) sz18_g0).trans bx18_g0_7
              have bx19_g0_8 : w19.cell? ⟨bV8, 8, none⟩ = some (.slice a8_R_8 (entE vM.fEntries vX).fReads.length c8_R_8) := (hst19.cell (p := ⟨bV8, 8, none⟩) sz18_g0).trans bx18_g0_8
              have sz19_h0 : bV18 < w19.heap.size := Nat.lt_of_lt_of_le sz18_h0 hst19.size
              have bx19_h0_0 : w19.cell? ⟨bV18, 0, none⟩ = some (.int .i64 (entE vM.fEntries vX).fAt.fNode) := (hst19.cell (p := ⟨bV18, 0, none⟩) sz18_h0).trans bx18_h0_0
              have bx19_h0_1 : w19.cell? ⟨bV18, 1, none⟩ = some (.string (entE vM.fEntries vX).fAt.fName) := (hst19.cell (p := ⟨bV18, 1, none⟩) sz18_h0).trans bx18_h0_1
              have bx19_h0_2 : w19.cell? ⟨bV18, 2, none⟩ = some (.int .i64 (entE vM.fEntries vX).fValue) := (hst19.cell (p := ⟨bV18, 2, none⟩) sz18_h0).trans bx18_h0_2
              have bx19_h0_3 : w19.cell? ⟨bV18, 3, none⟩ = some (.int .i64 (entE vM.fEntries vX).fOwner) := (hst19.cell (p := ⟨bV18, 3, none⟩) sz18_h0).trans bx18_h0_3
              have bx19_h0_4 : w19.cell? ⟨bV18, 4, none⟩ = some (.int .i64 (entE vM.fEntries vX).fLiteral) := (hst19.cell (p := ⟨bV18, 4, none⟩) sz18_h0).trans bx18_h0_4
              have bx19_h0_5 : w19.cell? ⟨bV18, 5, none⟩ = some (.string (entE vM.fEntries vX).fRule) := (hst19.cell (p := ⟨bV18, 5, none⟩) sz18_h0).trans bx18_h0_5
              have bx19_h0_6 : w19.cell? ⟨bV18, 6, none⟩ = some (.slice a6_R_18 (entE vM.fEntries vX).fIds.length c6_R_18) := (hst19.cell (p := ⟨bV18, 6, none⟩) sz18_h0).trans bx18_h0_6
              have bx19_h0_7 : w19.cell? ⟨bV18, 7, none⟩ = some (.slice a7_R_18 (entE vM.fEntries vX).fShape.length c7_R_18) := (hst19.cell (p := ⟨bV18, 7, none⟩) sz18_h0).trans bx18_h0_7
              have bx19_h0_8 : w19.cell? ⟨bV18, 8, none⟩ = some (.slice a8_R_18 (entE vM.fEntries vX).fReads.length c8_R_18) := (hst19.cell (p := ⟨bV18, 8, none⟩) sz18_h0).trans bx18_h0_8
              have HO19_6_R_5 := Lib.hid (HO18_6_R_5.out.kept (Kept.of_below_all hst19))
              have HO19_7_R_5 := Lib.hid (HO18_7_R_5.out.kept (Kept.of_below_all hst19))
              have HO19_8_R_5 := Lib.hid (HO18_8_R_5.out.kept (Kept.of_below_all hst19))
              have HO19_0_vM_10 := Lib.hid (HO18_0_vM_10.out.kept (Kept.of_below_all hst19))
              have HO19_1_vM_10 := Lib.hid (HO18_1_vM_10.out.kept (Kept.of_below_all hst19))
              have HO19_6_R_18 := Lib.hid (HO18_6_R_18.out.kept (Kept.of_below_all hst19))
              have HO19_7_R_18 := Lib.hid (HO18_7_R_18.out.kept (Kept.of_below_all hst19))
              have HO19_8_R_18 := Lib.hid (HO18_8_R_18.out.kept (Kept.of_below_all hst19))
              have HR19_R_8 := Lib.hid (HR18_R_8.out.kept (Kept.of_below_all hst19))
              have HB19 := Lib.hid (HB18.out.trans (hst19.mono HB18.out.size))
              clear bx18_paM_0 bx18_paM_1 sz18_paM bx18_paX_0 bx18_paX_1 sz18_paX bx18_w0_0 bx18_w0_1 bx18_w0_2 bx18_w0_3 bx18_w0_4 bx18_w0_5 bx18_w0_6 bx18_w0_7 bx18_w0_8 sz18_w0 bx18_x0_0 bx18_x0_1 sz18_x0 bx18_g0_0 bx18_g0_1 bx18_g0_2 bx18_g0_3 bx18_g0_4 bx18_g0_5 bx18_g0_6 bx18_g0_7 bx18_g0_8 sz18_g0 bx18_h0_0 bx18_h0_1 bx18_h0_2 bx18_h0_3 bx18_h0_4 bx18_h0_5 bx18_h0_6 bx18_h0_7 bx18_h0_8 sz18_h0 HO18_6_R_5 HO18_7_R_5 HO18_8_R_5 HO18_0_vM_10 HO18_1_vM_10 HO18_6_R_18 HO18_7_R_18 HO18_8_R_18 HR18_R_8 hb19 hst19 HB18
              go_wp2_with fail
              refine (laws_heldEntry (a6 := a6_R_8) (c6 := c6_R_8) (a7 := a7_R_8) (c7 := c7_R_8) (a8 := a8_R_8) (c8 := c8_R_8) (entE vM.fEntries vX) (by have h1 := entM_lens hq_vM vX; omega) (by have h1 := entM_lens hq_vM vX; omega) (by have h1 := entM_lens hq_vM vX; omega) 1 (by omega) (by omega) _ (fun y hy => Nat.lt_of_lt_of_le (show y < w19.heap.size by have := hy.2; omega) (Below.size (by repeat (first | (with_reducible exact Below.refl _ _) | (with_reducible apply Below.drew) | (with_reducible refine below_drewN ?_ _) | (refine Below.setCell ?_ (by simp <;> omega) _) | (refine Below.alloc ?_ (by simp <;> omega) _)) : Below w19.heap.size w19 _))) (HR19_R_8.out.kept (Kept.of_below (by repeat (first | (with_reducible exact Below.refl _ _) | (with_reducible apply Below.drew) | (with_reducible refine below_drewN ?_ _) | (refine Below.setCell ?_ (by simp <;> omega) _) | (refine Below.alloc ?_ (by simp <;> omega) _)) : Below w19.heap.size w19 _) (fun y hy => by have := hy.2; omega)))).mono ?_
              rintro e w20 ⟨rfl, hb20⟩
              have hst20 : Below w19.heap.size w19 w20 := Below.trans (by repeat (first | (with_reducible exact Below.refl _ _) | (with_reducible apply Below.drew) | (with_reducible refine below_drewN ?_ _) | (refine Below.setCell ?_ (by simp <;> omega) _) | (refine Below.alloc ?_ (by simp <;> omega) _)) : Below w19.heap.size w19 _) (hb20.mono (Below.size (by repeat (first | (with_reducible exact Below.refl _ _) | (with_reducible apply Below.drew) | (with_reducible refine below_drewN ?_ _) | (refine Below.setCell ?_ (by simp <;> omega) _) | (refine Below.alloc ?_ (by simp <;> omega) _)) : Below w19.heap.size w19 _)))
              have hr20 : w19.heap.size ≤ w20.heap.size := Nat.le_trans (by first | exact Nat.le_refl _ | (simp; done) | (simp; omega) | (simp [World.setCell]; done) | (simp [World.setCell]; omega)) hb20.size
              have sz20_paM : w.heap.size < w20.heap.size := Nat.lt_of_lt_of_le sz19_paM hst20.size
              have bx20_paM_0 : w20.cell? ⟨w.heap.size, 0, none⟩ = some (.slice a0_vM vM.fEntries.length c0_vM) := (hst20.cell (p := ⟨w.heap.size, 0, none⟩) sz19_paM).trans bx19_paM_0
              have bx20_paM_1 : w20.cell? ⟨w.heap.size, 1, none⟩ = some (.slice a1_vM vM.fEvaluated.length c1_vM) := (hst20.cell (p := ⟨w.heap.size, 1, none⟩) sz19_paM).trans bx19_paM_1
              have sz20_paX : w.heap.size + 1 < w20.heap.size := Nat.lt_of_lt_of_le sz19_paX hst20.size
              have bx20_paX_0 : w20.cell? ⟨w.heap.size + 1, 0, none⟩ = some (.int .i64 vX.fNode) := (hst20.cell (p := ⟨w.heap.size + 1, 0, none⟩) sz19_paX).trans bx19_paX_0
              have bx20_paX_1 : w20.cell? ⟨w.heap.size + 1, 1, none⟩ = some (.string vX.fName) := (hst20.cell (p := ⟨w.heap.size + 1, 1, none⟩) sz19_paX).trans bx19_paX_1
              have sz20_w0 : bV5 < w20.heap.size := Nat.lt_of_lt_of_le sz19_w0 hst20.size
              have bx20_w0_0 : w20.cell? ⟨bV5, 0, none⟩ = some (.int .i64 (entE vM.fEntries vX).fAt.fNode) := (hst20.cell (p := ⟨bV5, 0, none⟩) sz19_w0).trans bx19_w0_0
              have bx20_w0_1 : w20.cell? ⟨bV5, 1, none⟩ = some (.string (entE vM.fEntries vX).fAt.fName) := (hst20.cell (p := ⟨bV5, 1, none⟩) sz19_w0).trans bx19_w0_1
              have bx20_w0_2 : w20.cell? ⟨bV5, 2, none⟩ = some (.int .i64 (entE vM.fEntries vX).fValue) := (hst20.cell (p := ⟨bV5, 2, none⟩) sz19_w0).trans bx19_w0_2
              have bx20_w0_3 : w20.cell? ⟨bV5, 3, none⟩ = some (.int .i64 (entE vM.fEntries vX).fOwner) := (hst20.cell (p := ⟨bV5, 3, none⟩) sz19_w0).trans bx19_w0_3
              have bx20_w0_4 : w20.cell? ⟨bV5, 4, none⟩ = some (.int .i64 (entE vM.fEntries vX).fLiteral) := (hst20.cell (p := ⟨bV5, 4, none⟩) sz19_w0).trans bx19_w0_4
              have bx20_w0_5 : w20.cell? ⟨bV5, 5, none⟩ = some (.string (entE vM.fEntries vX).fRule) := (hst20.cell (p := ⟨bV5, 5, none⟩) sz19_w0).trans bx19_w0_5
              have bx20_w0_6 : w20.cell? ⟨bV5, 6, none⟩ = some (.slice a6_R_5 (entE vM.fEntries vX).fIds.length c6_R_5) := (hst20.cell (p := ⟨bV5, 6, none⟩) sz19_w0).trans bx19_w0_6
              have bx20_w0_7 : w20.cell? ⟨bV5, 7, none⟩ = some (.slice a7_R_5 (entE vM.fEntries vX).fShape.length c7_R_5) := (hst20.cell (p := ⟨bV5, 7, none⟩) sz19_w0).trans bx19_w0_7
              have bx20_w0_8 : w20.cell? ⟨bV5, 8, none⟩ = some (.slice a8_R_5 (entE vM.fEntries vX).fReads.length c8_R_5) := (hst20.cell (p := ⟨bV5, 8, none⟩) sz19_w0).trans bx19_w0_8
              have sz20_x0 : w6.heap.size < w20.heap.size := Nat.lt_of_lt_of_le sz19_x0 hst20.size
              have bx20_x0_0 : w20.cell? ⟨w6.heap.size, 0, none⟩ = some (.slice a0_vM_6 vM.fEntries.length c0_vM_6) := (hst20.cell (p := ⟨w6.heap.size, 0, none⟩) sz19_x0).trans bx19_x0_0
              have bx20_x0_1 : w20.cell? ⟨w6.heap.size, 1, none⟩ = some (.slice a1_vM_6 vM.fEvaluated.length c1_vM_6) := (hst20.cell (p := ⟨w6.heap.size, 1, none⟩) sz19_x0).trans bx19_x0_1
              have sz20_g0 : bV8 < w20.heap.size := Nat.lt_of_lt_of_le sz19_g0 hst20.size
              have bx20_g0_0 : w20.cell? ⟨bV8, 0, none⟩ = some (.int .i64 (entE vM.fEntries vX).fAt.fNode) := (hst20.cell (p := ⟨bV8, 0, none⟩) sz19_g0).trans bx19_g0_0
              have bx20_g0_1 : w20.cell? ⟨bV8, 1, none⟩ = some (.string (entE vM.fEntries vX).fAt.fName) := (hst20.cell (p := ⟨bV8, 1, none⟩) sz19_g0).trans bx19_g0_1
              have bx20_g0_2 : w20.cell? ⟨bV8, 2, none⟩ = some (.int .i64 (entE vM.fEntries vX).fValue) := (hst20.cell (p := ⟨bV8, 2, none⟩) sz19_g0).trans bx19_g0_2
              have bx20_g0_3 : w20.cell? ⟨bV8, 3, none⟩ = some (.int .i64 (entE vM.fEntries vX).fOwner) := (hst20.cell (p := ⟨bV8, 3, none⟩) sz19_g0).trans bx19_g0_3
              have bx20_g0_4 : w20.cell? ⟨bV8, 4, none⟩ = some (.int .i64 (entE vM.fEntries vX).fLiteral) := (hst20.cell (p := ⟨bV8, 4, none⟩) sz19_g0).trans bx19_g0_4
              have bx20_g0_5 : w20.cell? ⟨bV8, 5, none⟩ = some (.string (entE vM.fEntries vX).fRule) := (hst20.cell (p := ⟨bV8, 5, none⟩) sz19_g0).trans bx19_g0_5
              have bx20_g0_6 : w20.cell? ⟨bV8, 6, none⟩ = some (.slice a6_R_8 (entE vM.fEntries vX).fIds.length c6_R_8) := (hst20.cell (p := ⟨bV8, 6, none⟩) sz19_g0).trans bx19_g0_6
              have bx20_g0_7 : w20.cell? ⟨bV8, 7, none⟩ = some (.slice a7_R_8 (entE vM.fEntries vX).fShape.length c7_R_8) := (hst20.cell (p := ⟨bV8, 7, none⟩) sz19_g0).trans bx19_g0_7
              have bx20_g0_8 : w20.cell? ⟨bV8, 8, none⟩ = some (.slice a8_R_8 (entE vM.fEntries vX).fReads.length c8_R_8) := (hst20.cell (p := ⟨bV8, 8, none⟩) sz19_g0).trans bx19_g0_8
              have sz20_h0 : bV18 < w20.heap.size := Nat.lt_of_lt_of_le sz19_h0 hst20.size
              have bx20_h0_0 : w20.cell? ⟨bV18, 0, none⟩ = some (.int .i64 (entE vM.fEntries vX).fAt.fNode) := (hst20.cell (p := ⟨bV18, 0, none⟩) sz19_h0).trans bx19_h0_0
              have bx20_h0_1 : w20.cell? ⟨bV18, 1, none⟩ = some (.string (entE vM.fEntries vX).fAt.fName) := (hst20.cell (p := ⟨bV18, 1, none⟩) sz19_h0).trans bx19_h0_1
              have bx20_h0_2 : w20.cell? ⟨bV18, 2, none⟩ = some (.int .i64 (entE vM.fEntries vX).fValue) := (hst20.cell (p := ⟨bV18, 2, none⟩) sz19_h0).trans bx19_h0_2
              have bx20_h0_3 : w20.cell? ⟨bV18, 3, none⟩ = some (.int .i64 (entE vM.fEntries vX).fOwner) := (hst20.cell (p := ⟨bV18, 3, none⟩) sz19_h0).trans bx19_h0_3
              have bx20_h0_4 : w20.cell? ⟨bV18, 4, none⟩ = some (.int .i64 (entE vM.fEntries vX).fLiteral) := (hst20.cell (p := ⟨bV18, 4, none⟩) sz19_h0).trans bx19_h0_4
              have bx20_h0_5 : w20.cell? ⟨bV18, 5, none⟩ = some (.string (entE vM.fEntries vX).fRule) := (hst20.cell (p := ⟨bV18, 5, none⟩) sz19_h0).trans bx19_h0_5
              have bx20_h0_6 : w20.cell? ⟨bV18, 6, none⟩ = some (.slice a6_R_18 (entE vM.fEntries vX).fIds.length c6_R_18) := (hst20.cell (p := ⟨bV18, 6, none⟩) sz19_h0).trans bx19_h0_6
              have bx20_h0_7 : w20.cell? ⟨bV18, 7, none⟩ = some (.slice a7_R_18 (entE vM.fEntries vX).fShape.length c7_R_18) := (hst20.cell (p := ⟨bV18, 7, none⟩) sz19_h0).trans bx19_h0_7
              have bx20_h0_8 : w20.cell? ⟨bV18, 8, none⟩ = some (.slice a8_R_18 (entE vM.fEntries vX).fReads.length c8_R_18) := (hst20.cell (p := ⟨bV18, 8, none⟩) sz19_h0).trans bx19_h0_8
              have HO20_6_R_5 := Lib.hid (HO19_6_R_5.out.kept (Kept.of_below_all hst20))
              have HO20_7_R_5 := Lib.hid (HO19_7_R_5.out.kept (Kept.of_below_all hst20))
              have HO20_8_R_5 := Lib.hid (HO19_8_R_5.out.kept (Kept.of_below_all hst20))
              have HO20_0_vM_10 := Lib.hid (HO19_0_vM_10.out.kept (Kept.of_below_all hst20))
              have HO20_1_vM_10 := Lib.hid (HO19_1_vM_10.out.kept (Kept.of_below_all hst20))
              have HO20_6_R_18 := Lib.hid (HO19_6_R_18.out.kept (Kept.of_below_all hst20))
              have HO20_7_R_18 := Lib.hid (HO19_7_R_18.out.kept (Kept.of_below_all hst20))
              have HO20_8_R_18 := Lib.hid (HO19_8_R_18.out.kept (Kept.of_below_all hst20))
              have HR20_R_8 := Lib.hid (HR19_R_8.out.kept (Kept.of_below_all hst20))
              have HB20 := Lib.hid (HB19.out.trans (hst20.mono HB19.out.size))
              clear bx19_paM_0 bx19_paM_1 sz19_paM bx19_paX_0 bx19_paX_1 sz19_paX bx19_w0_0 bx19_w0_1 bx19_w0_2 bx19_w0_3 bx19_w0_4 bx19_w0_5 bx19_w0_6 bx19_w0_7 bx19_w0_8 sz19_w0 bx19_x0_0 bx19_x0_1 sz19_x0 bx19_g0_0 bx19_g0_1 bx19_g0_2 bx19_g0_3 bx19_g0_4 bx19_g0_5 bx19_g0_6 bx19_g0_7 bx19_g0_8 sz19_g0 bx19_h0_0 bx19_h0_1 bx19_h0_2 bx19_h0_3 bx19_h0_4 bx19_h0_5 bx19_h0_6 bx19_h0_7 bx19_h0_8 sz19_h0 HO19_6_R_5 HO19_7_R_5 HO19_8_R_5 HO19_0_vM_10 HO19_1_vM_10 HO19_6_R_18 HO19_7_R_18 HO19_8_R_18 HR19_R_8 hb20 hst20 HB19
              go_wp2
              go_ret
              exact ⟨rfl, HB20.out⟩
end Go.Proofs.Ythgpompoionfoaa.fnExactFindEntry
