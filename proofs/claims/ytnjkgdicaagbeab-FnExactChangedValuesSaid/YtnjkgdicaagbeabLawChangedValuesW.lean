/-
  The law FnExactChangedValues: for every two memos the program's ChangedValues answers as the model's, and its answer owns its memory. No condition.
-/
import Derived.Test.YtnjkgdicaagbeabChanged
import Derived.Test.YtnjkgdicaagbeabMkMemo
import Derived.Test.YtnjkgdicaagbeabMkInstance
import Derived.Test.YtnjkgdicaagbeabFree
import Derived.Deep.CutRange
import Derived.SizedLaws
namespace Go.Proofs.Ytnjkgdicaagbeab.fnExactChangedValues
open Go.ChangeShapes Go.WideShapes Go.ChangeAt Go.RowKit Go.WideMaps Go.WideElems
open Go.ChangeMaps (open_string)
open Go.Lib Go.Deep

set_option maxHeartbeats 6400000 in
set_option maxRecDepth 100000 in
theorem walk (vOld : DMemo) (a0_vOld : Option Addr) (c0_vOld : Nat) (a1_vOld : Option Addr) (c1_vOld : Nat) (ok_vOld : DMemo.ok vOld) (vNow : DMemo) (a0_vNow : Option Addr) (c0_vNow : Nat) (a1_vNow : Option Addr) (c1_vNow : Nat) (ok_vNow : DMemo.ok vNow) (w : World) (hs_0_vOld : Sl 0 w.heap.size w 9 vOld.fEntries.length (fun k => DEntry.ct (vOld.fEntries.getD k default)) a0_vOld) (hs_1_vOld : Sl 0 w.heap.size w 2 vOld.fEvaluated.length (fun k => DInstance.ct (vOld.fEvaluated.getD k default)) a1_vOld) (hs_0_vNow : Sl 0 w.heap.size w 9 vNow.fEntries.length (fun k => DEntry.ct (vNow.fEntries.getD k default)) a0_vNow) (hs_1_vNow : Sl 0 w.heap.size w 2 vNow.fEvaluated.length (fun k => DInstance.ct (vNow.fEvaluated.getD k default)) a1_vNow) :
    Calls Try.prog 5 #[.agg #[.slice a0_vOld vOld.fEntries.length c0_vOld, .slice a1_vOld vOld.fEvaluated.length c1_vOld], .agg #[.slice a0_vNow vNow.fEntries.length c0_vNow, .slice a1_vNow vNow.fEvaluated.length c1_vNow]] w fun e w' => e = .returned (.bool true) ∧ Below w.heap.size w w' := by
  have HS_0_vOld := Lib.hid hs_0_vOld
  clear hs_0_vOld
  have HS_1_vOld := Lib.hid hs_1_vOld
  clear hs_1_vOld
  have OK_vOld := Lib.hid ok_vOld
  clear ok_vOld
  have HS_0_vNow := Lib.hid hs_0_vNow
  clear hs_0_vNow
  have HS_1_vNow := Lib.hid hs_1_vNow
  clear hs_1_vNow
  have OK_vNow := Lib.hid ok_vNow
  clear ok_vNow
  by_cases h0 : 1048576 < ((DMemo.sz vOld : Nat) : Int)
  · skip
    have hz := fun (hi : Nat) (w' : World) (hhi : hi ≤ w'.heap.size) (hs_0_vOld : Sl 0 hi w' 9 vOld.fEntries.length (fun k => DEntry.ct (vOld.fEntries.getD k default)) a0_vOld) (hs_1_vOld : Sl 0 hi w' 2 vOld.fEvaluated.length (fun k => DInstance.ct (vOld.fEvaluated.getD k default)) a1_vOld) => laws_szMemo (c0 := c0_vOld) (c1 := c1_vOld) vOld 1048576 (by omega) (by omega) OK_vOld.out w' hhi hs_0_vOld hs_1_vOld
    rw [szR_gt (by omega)] at hz
    have HZ_vOld := Lib.hid hz
    clear hz
    go_enter Try.func5, Try.ntmps5
    go_wp2_with fail
    refine (HZ_vOld.out w.heap.size _ (Below.size (by repeat (first | (with_reducible exact Below.refl _ _) | (with_reducible apply Below.drew) | (with_reducible refine below_drewN ?_ _) | (refine Below.setCell ?_ (by simp <;> omega) _) | (refine Below.alloc ?_ (by simp <;> omega) _)) : Below w.heap.size w _)) ((HS_0_vOld.out.later ((Below.refl w.heap.size w).trans ((by repeat (first | (with_reducible exact Below.refl _ _) | (with_reducible apply Below.drew) | (with_reducible refine below_drewN ?_ _) | (refine Below.setCell ?_ (by simp <;> omega) _) | (refine Below.alloc ?_ (by simp <;> omega) _)) : Below w.heap.size w _).mono (Below.refl w.heap.size w).size)) (Nat.le_refl _)).mono (Nat.le_refl _) (Below.refl w.heap.size w).size) ((HS_1_vOld.out.later ((Below.refl w.heap.size w).trans ((by repeat (first | (with_reducible exact Below.refl _ _) | (with_reducible apply Below.drew) | (with_reducible refine below_drewN ?_ _) | (refine Below.setCell ?_ (by simp <;> omega) _) | (refine Below.alloc ?_ (by simp <;> omega) _)) : Below w.heap.size w _).mono (Below.refl w.heap.size w).size)) (Nat.le_refl _)).mono (Nat.le_refl _) (Below.refl w.heap.size w).size)).mono ?_
    rintro e w1 ⟨rfl, hb1⟩
    have hst1 : Below w.heap.size w w1 := Below.trans (by repeat (first | (with_reducible exact Below.refl _ _) | (with_reducible apply Below.drew) | (with_reducible refine below_drewN ?_ _) | (refine Below.setCell ?_ (by simp <;> omega) _) | (refine Below.alloc ?_ (by simp <;> omega) _)) : Below w.heap.size w _) (hb1.mono (Below.size (by repeat (first | (with_reducible exact Below.refl _ _) | (with_reducible apply Below.drew) | (with_reducible refine below_drewN ?_ _) | (refine Below.setCell ?_ (by simp <;> omega) _) | (refine Below.alloc ?_ (by simp <;> omega) _)) : Below w.heap.size w _)))
    have hr1 : w.heap.size + 2 ≤ w1.heap.size := Nat.le_trans (by first | exact Nat.le_refl _ | (simp; done) | (simp; omega) | (simp [World.setCell]; done) | (simp [World.setCell]; omega)) hb1.size
    have sz1_paOld : w.heap.size < w1.heap.size := Nat.lt_of_lt_of_le (by first | omega | (simp; done) | (simp; omega) | (simp [World.setCell]; omega)) hb1.size
    have bx1_paOld_0 : w1.cell? ⟨w.heap.size, 0, none⟩ = some (.slice a0_vOld vOld.fEntries.length c0_vOld) := (hb1.cell (p := ⟨w.heap.size, 0, none⟩) (by first | omega | (simp; done) | (simp; omega) | (simp [World.setCell]; omega))).trans (by go_simp)
    have bx1_paOld_1 : w1.cell? ⟨w.heap.size, 1, none⟩ = some (.slice a1_vOld vOld.fEvaluated.length c1_vOld) := (hb1.cell (p := ⟨w.heap.size, 1, none⟩) (by first | omega | (simp; done) | (simp; omega) | (simp [World.setCell]; omega))).trans (by go_simp)
    have sz1_paNow : w.heap.size + 1 < w1.heap.size := Nat.lt_of_lt_of_le (by first | omega | (simp; done) | (simp; omega) | (simp [World.setCell]; omega)) hb1.size
    have bx1_paNow_0 : w1.cell? ⟨w.heap.size + 1, 0, none⟩ = some (.slice a0_vNow vNow.fEntries.length c0_vNow) := (hb1.cell (p := ⟨w.heap.size + 1, 0, none⟩) (by first | omega | (simp; done) | (simp; omega) | (simp [World.setCell]; omega))).trans (by go_simp)
    have bx1_paNow_1 : w1.cell? ⟨w.heap.size + 1, 1, none⟩ = some (.slice a1_vNow vNow.fEvaluated.length c1_vNow) := (hb1.cell (p := ⟨w.heap.size + 1, 1, none⟩) (by first | omega | (simp; done) | (simp; omega) | (simp [World.setCell]; omega))).trans (by go_simp)
    have HB1 := Lib.hid ((Below.refl w.heap.size w).trans (hst1.mono (Below.refl w.heap.size w).size))
    clear hb1 hst1
    go_wp2
    go_ret
    exact ⟨rfl, HB1.out⟩
  · skip
    by_cases h1 : (1048576 - (DMemo.sz vOld : Nat)) < ((DMemo.sz vNow : Nat) : Int)
    · skip
      have hz := fun (hi : Nat) (w' : World) (hhi : hi ≤ w'.heap.size) (hs_0_vOld : Sl 0 hi w' 9 vOld.fEntries.length (fun k => DEntry.ct (vOld.fEntries.getD k default)) a0_vOld) (hs_1_vOld : Sl 0 hi w' 2 vOld.fEvaluated.length (fun k => DInstance.ct (vOld.fEvaluated.getD k default)) a1_vOld) => laws_szMemo (c0 := c0_vOld) (c1 := c1_vOld) vOld 1048576 (by omega) (by omega) OK_vOld.out w' hhi hs_0_vOld hs_1_vOld
      rw [szR_le (by omega)] at hz
      have HZ_vOld := Lib.hid hz
      clear hz
      have hz := fun (hi : Nat) (w' : World) (hhi : hi ≤ w'.heap.size) (hs_0_vNow : Sl 0 hi w' 9 vNow.fEntries.length (fun k => DEntry.ct (vNow.fEntries.getD k default)) a0_vNow) (hs_1_vNow : Sl 0 hi w' 2 vNow.fEvaluated.length (fun k => DInstance.ct (vNow.fEvaluated.getD k default)) a1_vNow) => laws_szMemo (c0 := c0_vNow) (c1 := c1_vNow) vNow (1048576 - (DMemo.sz vOld : Nat)) (by omega) (by omega) OK_vNow.out w' hhi hs_0_vNow hs_1_vNow
      rw [szR_gt (by omega)] at hz
      have HZ_vNow := Lib.hid hz
      clear hz
      go_enter Try.func5, Try.ntmps5
      go_wp2_with fail
      refine (HZ_vOld.out w.heap.size _ (Below.size (by repeat (first | (with_reducible exact Below.refl _ _) | (with_reducible apply Below.drew) | (with_reducible refine below_drewN ?_ _) | (refine Below.setCell ?_ (by simp <;> omega) _) | (refine Below.alloc ?_ (by simp <;> omega) _)) : Below w.heap.size w _)) ((HS_0_vOld.out.later ((Below.refl w.heap.size w).trans ((by repeat (first | (with_reducible exact Below.refl _ _) | (with_reducible apply Below.drew) | (with_reducible refine below_drewN ?_ _) | (refine Below.setCell ?_ (by simp <;> omega) _) | (refine Below.alloc ?_ (by simp <;> omega) _)) : Below w.heap.size w _).mono (Below.refl w.heap.size w).size)) (Nat.le_refl _)).mono (Nat.le_refl _) (Below.refl w.heap.size w).size) ((HS_1_vOld.out.later ((Below.refl w.heap.size w).trans ((by repeat (first | (with_reducible exact Below.refl _ _) | (with_reducible apply Below.drew) | (with_reducible refine below_drewN ?_ _) | (refine Below.setCell ?_ (by simp <;> omega) _) | (refine Below.alloc ?_ (by simp <;> omega) _)) : Below w.heap.size w _).mono (Below.refl w.heap.size w).size)) (Nat.le_refl _)).mono (Nat.le_refl _) (Below.refl w.heap.size w).size)).mono ?_
      rintro e w1 ⟨rfl, hb1⟩
      have hst1 : Below w.heap.size w w1 := Below.trans (by repeat (first | (with_reducible exact Below.refl _ _) | (with_reducible apply Below.drew) | (with_reducible refine below_drewN ?_ _) | (refine Below.setCell ?_ (by simp <;> omega) _) | (refine Below.alloc ?_ (by simp <;> omega) _)) : Below w.heap.size w _) (hb1.mono (Below.size (by repeat (first | (with_reducible exact Below.refl _ _) | (with_reducible apply Below.drew) | (with_reducible refine below_drewN ?_ _) | (refine Below.setCell ?_ (by simp <;> omega) _) | (refine Below.alloc ?_ (by simp <;> omega) _)) : Below w.heap.size w _)))
      have hr1 : w.heap.size + 2 ≤ w1.heap.size := Nat.le_trans (by first | exact Nat.le_refl _ | (simp; done) | (simp; omega) | (simp [World.setCell]; done) | (simp [World.setCell]; omega)) hb1.size
      have sz1_paOld : w.heap.size < w1.heap.size := Nat.lt_of_lt_of_le (by first | omega | (simp; done) | (simp; omega) | (simp [World.setCell]; omega)) hb1.size
      have bx1_paOld_0 : w1.cell? ⟨w.heap.size, 0, none⟩ = some (.slice a0_vOld vOld.fEntries.length c0_vOld) := (hb1.cell (p := ⟨w.heap.size, 0, none⟩) (by first | omega | (simp; done) | (simp; omega) | (simp [World.setCell]; omega))).trans (by go_simp)
      have bx1_paOld_1 : w1.cell? ⟨w.heap.size, 1, none⟩ = some (.slice a1_vOld vOld.fEvaluated.length c1_vOld) := (hb1.cell (p := ⟨w.heap.size, 1, none⟩) (by first | omega | (simp; done) | (simp; omega) | (simp [World.setCell]; omega))).trans (by go_simp)
      have sz1_paNow : w.heap.size + 1 < w1.heap.size := Nat.lt_of_lt_of_le (by first | omega | (simp; done) | (simp; omega) | (simp [World.setCell]; omega)) hb1.size
      have bx1_paNow_0 : w1.cell? ⟨w.heap.size + 1, 0, none⟩ = some (.slice a0_vNow vNow.fEntries.length c0_vNow) := (hb1.cell (p := ⟨w.heap.size + 1, 0, none⟩) (by first | omega | (simp; done) | (simp; omega) | (simp [World.setCell]; omega))).trans (by go_simp)
      have bx1_paNow_1 : w1.cell? ⟨w.heap.size + 1, 1, none⟩ = some (.slice a1_vNow vNow.fEvaluated.length c1_vNow) := (hb1.cell (p := ⟨w.heap.size + 1, 1, none⟩) (by first | omega | (simp; done) | (simp; omega) | (simp [World.setCell]; omega))).trans (by go_simp)
      have HB1 := Lib.hid ((Below.refl w.heap.size w).trans (hst1.mono (Below.refl w.heap.size w).size))
      clear hb1 hst1
      go_wp2_with fail
      refine (HZ_vNow.out w1.heap.size _ (Below.size (by repeat (first | (with_reducible exact Below.refl _ _) | (with_reducible apply Below.drew) | (with_reducible refine below_drewN ?_ _) | (refine Below.setCell ?_ (by simp <;> omega) _) | (refine Below.alloc ?_ (by simp <;> omega) _)) : Below w1.heap.size w1 _)) ((HS_0_vNow.out.later (HB1.out.trans ((by repeat (first | (with_reducible exact Below.refl _ _) | (with_reducible apply Below.drew) | (with_reducible refine below_drewN ?_ _) | (refine Below.setCell ?_ (by simp <;> omega) _) | (refine Below.alloc ?_ (by simp <;> omega) _)) : Below w1.heap.size w1 _).mono HB1.out.size)) (Nat.le_refl _)).mono (Nat.le_refl _) HB1.out.size) ((HS_1_vNow.out.later (HB1.out.trans ((by repeat (first | (with_reducible exact Below.refl _ _) | (with_reducible apply Below.drew) | (with_reducible refine below_drewN ?_ _) | (refine Below.setCell ?_ (by simp <;> omega) _) | (refine Below.alloc ?_ (by simp <;> omega) _)) : Below w1.heap.size w1 _).mono HB1.out.size)) (Nat.le_refl _)).mono (Nat.le_refl _) HB1.out.size)).mono ?_
      rintro e w2 ⟨rfl, hb2⟩
      have hst2 : Below w1.heap.size w1 w2 := Below.trans (by repeat (first | (with_reducible exact Below.refl _ _) | (with_reducible apply Below.drew) | (with_reducible refine below_drewN ?_ _) | (refine Below.setCell ?_ (by simp <;> omega) _) | (refine Below.alloc ?_ (by simp <;> omega) _)) : Below w1.heap.size w1 _) (hb2.mono (Below.size (by repeat (first | (with_reducible exact Below.refl _ _) | (with_reducible apply Below.drew) | (with_reducible refine below_drewN ?_ _) | (refine Below.setCell ?_ (by simp <;> omega) _) | (refine Below.alloc ?_ (by simp <;> omega) _)) : Below w1.heap.size w1 _)))
      have hr2 : w1.heap.size ≤ w2.heap.size := Nat.le_trans (by first | exact Nat.le_refl _ | (simp; done) | (simp; omega) | (simp [World.setCell]; done) | (simp [World.setCell]; omega)) hb2.size
      have sz2_paOld : w.heap.size < w2.heap.size := Nat.lt_of_lt_of_le sz1_paOld hst2.size
      have bx2_paOld_0 : w2.cell? ⟨w.heap.size, 0, none⟩ = some (.slice a0_vOld vOld.fEntries.length c0_vOld) := (hst2.cell (p := ⟨w.heap.size, 0, none⟩) sz1_paOld).trans bx1_paOld_0
      have bx2_paOld_1 : w2.cell? ⟨w.heap.size, 1, none⟩ = some (.slice a1_vOld vOld.fEvaluated.length c1_vOld) := (hst2.cell (p := ⟨w.heap.size, 1, none⟩) sz1_paOld).trans bx1_paOld_1
      have sz2_paNow : w.heap.size + 1 < w2.heap.size := Nat.lt_of_lt_of_le sz1_paNow hst2.size
      have bx2_paNow_0 : w2.cell? ⟨w.heap.size + 1, 0, none⟩ = some (.slice a0_vNow vNow.fEntries.length c0_vNow) := (hst2.cell (p := ⟨w.heap.size + 1, 0, none⟩) sz1_paNow).trans bx1_paNow_0
      have bx2_paNow_1 : w2.cell? ⟨w.heap.size + 1, 1, none⟩ = some (.slice a1_vNow vNow.fEvaluated.length c1_vNow) := (hst2.cell (p := ⟨w.heap.size + 1, 1, none⟩) sz1_paNow).trans bx1_paNow_1
      have HB2 := Lib.hid (HB1.out.trans (hst2.mono HB1.out.size))
      clear bx1_paOld_0 bx1_paOld_1 sz1_paOld bx1_paNow_0 bx1_paNow_1 sz1_paNow hb2 hst2 HB1
      go_wp2
      go_ret
      exact ⟨rfl, HB2.out⟩
    · skip
      have hz := fun (hi : Nat) (w' : World) (hhi : hi ≤ w'.heap.size) (hs_0_vOld : Sl 0 hi w' 9 vOld.fEntries.length (fun k => DEntry.ct (vOld.fEntries.getD k default)) a0_vOld) (hs_1_vOld : Sl 0 hi w' 2 vOld.fEvaluated.length (fun k => DInstance.ct (vOld.fEvaluated.getD k default)) a1_vOld) => laws_szMemo (c0 := c0_vOld) (c1 := c1_vOld) vOld 1048576 (by omega) (by omega) OK_vOld.out w' hhi hs_0_vOld hs_1_vOld
      rw [szR_le (by omega)] at hz
      have HZ_vOld := Lib.hid hz
      clear hz
      have hz := fun (hi : Nat) (w' : World) (hhi : hi ≤ w'.heap.size) (hs_0_vNow : Sl 0 hi w' 9 vNow.fEntries.length (fun k => DEntry.ct (vNow.fEntries.getD k default)) a0_vNow) (hs_1_vNow : Sl 0 hi w' 2 vNow.fEvaluated.length (fun k => DInstance.ct (vNow.fEvaluated.getD k default)) a1_vNow) => laws_szMemo (c0 := c0_vNow) (c1 := c1_vNow) vNow (1048576 - (DMemo.sz vOld : Nat)) (by omega) (by omega) OK_vNow.out w' hhi hs_0_vNow hs_1_vNow
      rw [szR_le (by omega)] at hz
      have HZ_vNow := Lib.hid hz
      clear hz
      have hq_vOld : DMemo.sz vOld ≤ 1048576 := by omega
      have hq_vNow : DMemo.sz vNow ≤ 1048576 := by omega
      have hq_R : (lsz DInstance.sz) (changed vOld.fEntries vNow.fEntries) ≤ 1048576 := changedM_sz hq_vNow vOld.fEntries
      go_enter Try.func5, Try.ntmps5
      go_wp2_with fail
      refine (HZ_vOld.out w.heap.size _ (Below.size (by repeat (first | (with_reducible exact Below.refl _ _) | (with_reducible apply Below.drew) | (with_reducible refine below_drewN ?_ _) | (refine Below.setCell ?_ (by simp <;> omega) _) | (refine Below.alloc ?_ (by simp <;> omega) _)) : Below w.heap.size w _)) ((HS_0_vOld.out.later ((Below.refl w.heap.size w).trans ((by repeat (first | (with_reducible exact Below.refl _ _) | (with_reducible apply Below.drew) | (with_reducible refine below_drewN ?_ _) | (refine Below.setCell ?_ (by simp <;> omega) _) | (refine Below.alloc ?_ (by simp <;> omega) _)) : Below w.heap.size w _).mono (Below.refl w.heap.size w).size)) (Nat.le_refl _)).mono (Nat.le_refl _) (Below.refl w.heap.size w).size) ((HS_1_vOld.out.later ((Below.refl w.heap.size w).trans ((by repeat (first | (with_reducible exact Below.refl _ _) | (with_reducible apply Below.drew) | (with_reducible refine below_drewN ?_ _) | (refine Below.setCell ?_ (by simp <;> omega) _) | (refine Below.alloc ?_ (by simp <;> omega) _)) : Below w.heap.size w _).mono (Below.refl w.heap.size w).size)) (Nat.le_refl _)).mono (Nat.le_refl _) (Below.refl w.heap.size w).size)).mono ?_
      rintro e w1 ⟨rfl, hb1⟩
      have hst1 : Below w.heap.size w w1 := Below.trans (by repeat (first | (with_reducible exact Below.refl _ _) | (with_reducible apply Below.drew) | (with_reducible refine below_drewN ?_ _) | (refine Below.setCell ?_ (by simp <;> omega) _) | (refine Below.alloc ?_ (by simp <;> omega) _)) : Below w.heap.size w _) (hb1.mono (Below.size (by repeat (first | (with_reducible exact Below.refl _ _) | (with_reducible apply Below.drew) | (with_reducible refine below_drewN ?_ _) | (refine Below.setCell ?_ (by simp <;> omega) _) | (refine Below.alloc ?_ (by simp <;> omega) _)) : Below w.heap.size w _)))
      have hr1 : w.heap.size + 2 ≤ w1.heap.size := Nat.le_trans (by first | exact Nat.le_refl _ | (simp; done) | (simp; omega) | (simp [World.setCell]; done) | (simp [World.setCell]; omega)) hb1.size
      have sz1_paOld : w.heap.size < w1.heap.size := Nat.lt_of_lt_of_le (by first | omega | (simp; done) | (simp; omega) | (simp [World.setCell]; omega)) hb1.size
      have bx1_paOld_0 : w1.cell? ⟨w.heap.size, 0, none⟩ = some (.slice a0_vOld vOld.fEntries.length c0_vOld) := (hb1.cell (p := ⟨w.heap.size, 0, none⟩) (by first | omega | (simp; done) | (simp; omega) | (simp [World.setCell]; omega))).trans (by go_simp)
      have bx1_paOld_1 : w1.cell? ⟨w.heap.size, 1, none⟩ = some (.slice a1_vOld vOld.fEvaluated.length c1_vOld) := (hb1.cell (p := ⟨w.heap.size, 1, none⟩) (by first | omega | (simp; done) | (simp; omega) | (simp [World.setCell]; omega))).trans (by go_simp)
      have sz1_paNow : w.heap.size + 1 < w1.heap.size := Nat.lt_of_lt_of_le (by first | omega | (simp; done) | (simp; omega) | (simp [World.setCell]; omega)) hb1.size
      have bx1_paNow_0 : w1.cell? ⟨w.heap.size + 1, 0, none⟩ = some (.slice a0_vNow vNow.fEntries.length c0_vNow) := (hb1.cell (p := ⟨w.heap.size + 1, 0, none⟩) (by first | omega | (simp; done) | (simp; omega) | (simp [World.setCell]; omega))).trans (by go_simp)
      have bx1_paNow_1 : w1.cell? ⟨w.heap.size + 1, 1, none⟩ = some (.slice a1_vNow vNow.fEvaluated.length c1_vNow) := (hb1.cell (p := ⟨w.heap.size + 1, 1, none⟩) (by first | omega | (simp; done) | (simp; omega) | (simp [World.setCell]; omega))).trans (by go_simp)
      have HB1 := Lib.hid ((Below.refl w.heap.size w).trans (hst1.mono (Below.refl w.heap.size w).size))
      clear hb1 hst1
      go_wp2_with fail
      refine (HZ_vNow.out w1.heap.size _ (Below.size (by repeat (first | (with_reducible exact Below.refl _ _) | (with_reducible apply Below.drew) | (with_reducible refine below_drewN ?_ _) | (refine Below.setCell ?_ (by simp <;> omega) _) | (refine Below.alloc ?_ (by simp <;> omega) _)) : Below w1.heap.size w1 _)) ((HS_0_vNow.out.later (HB1.out.trans ((by repeat (first | (with_reducible exact Below.refl _ _) | (with_reducible apply Below.drew) | (with_reducible refine below_drewN ?_ _) | (refine Below.setCell ?_ (by simp <;> omega) _) | (refine Below.alloc ?_ (by simp <;> omega) _)) : Below w1.heap.size w1 _).mono HB1.out.size)) (Nat.le_refl _)).mono (Nat.le_refl _) HB1.out.size) ((HS_1_vNow.out.later (HB1.out.trans ((by repeat (first | (with_reducible exact Below.refl _ _) | (with_reducible apply Below.drew) | (with_reducible refine below_drewN ?_ _) | (refine Below.setCell ?_ (by simp <;> omega) _) | (refine Below.alloc ?_ (by simp <;> omega) _)) : Below w1.heap.size w1 _).mono HB1.out.size)) (Nat.le_refl _)).mono (Nat.le_refl _) HB1.out.size)).mono ?_
      rintro e w2 ⟨rfl, hb2⟩
      have hst2 : Below w1.heap.size w1 w2 := Below.trans (by repeat (first | (with_reducible exact Below.refl _ _) | (with_reducible apply Below.drew) | (with_reducible refine below_drewN ?_ _) | (refine Below.setCell ?_ (by simp <;> omega) _) | (refine Below.alloc ?_ (by simp <;> omega) _)) : Below w1.heap.size w1 _) (hb2.mono (Below.size (by repeat (first | (with_reducible exact Below.refl _ _) | (with_reducible apply Below.drew) | (with_reducible refine below_drewN ?_ _) | (refine Below.setCell ?_ (by simp <;> omega) _) | (refine Below.alloc ?_ (by simp <;> omega) _)) : Below w1.heap.size w1 _)))
      have hr2 : w1.heap.size ≤ w2.heap.size := Nat.le_trans (by first | exact Nat.le_refl _ | (simp; done) | (simp; omega) | (simp [World.setCell]; done) | (simp [World.setCell]; omega)) hb2.size
      have sz2_paOld : w.heap.size < w2.heap.size := Nat.lt_of_lt_of_le sz1_paOld hst2.size
      have bx2_paOld_0 : w2.cell? ⟨w.heap.size, 0, none⟩ = some (.slice a0_vOld vOld.fEntries.length c0_vOld) := (hst2.cell (p := ⟨w.heap.size, 0, none⟩) sz1_paOld).trans bx1_paOld_0
      have bx2_paOld_1 : w2.cell? ⟨w.heap.size, 1, none⟩ = some (.slice a1_vOld vOld.fEvaluated.length c1_vOld) := (hst2.cell (p := ⟨w.heap.size, 1, none⟩) sz1_paOld).trans bx1_paOld_1
      have sz2_paNow : w.heap.size + 1 < w2.heap.size := Nat.lt_of_lt_of_le sz1_paNow hst2.size
      have bx2_paNow_0 : w2.cell? ⟨w.heap.size + 1, 0, none⟩ = some (.slice a0_vNow vNow.fEntries.length c0_vNow) := (hst2.cell (p := ⟨w.heap.size + 1, 0, none⟩) sz1_paNow).trans bx1_paNow_0
      have bx2_paNow_1 : w2.cell? ⟨w.heap.size + 1, 1, none⟩ = some (.slice a1_vNow vNow.fEvaluated.length c1_vNow) := (hst2.cell (p := ⟨w.heap.size + 1, 1, none⟩) sz1_paNow).trans bx1_paNow_1
      have HB2 := Lib.hid (HB1.out.trans (hst2.mono HB1.out.size))
      clear bx1_paOld_0 bx1_paOld_1 sz1_paOld bx1_paNow_0 bx1_paNow_1 sz1_paNow hb2 hst2 HB1
      go_upto_region 8 with fail
      go_cut [6] from 24 to 28 (fun sW wx => ∃ (lW hW : Nat) (aW : Option Addr) (cW : Nat), sW = .slice aW (changed vOld.fEntries vNow.fEntries).length cW ∧ Own wx (fun y => lW ≤ y ∧ y < hW) (.sl 2 (changed vOld.fEntries vNow.fEntries).length (fun k => DInstance.ct ((changed vOld.fEntries vNow.fEntries).getD k default))) (.slice aW (changed vOld.fEntries vNow.fEntries).length cW) ∧ w2.heap.size ≤ lW ∧ hW ≤ wx.heap.size ∧ Below w2.heap.size w2 wx)
      case first =>
        refine wp_region_free [([], none), ([0], none), ([], none), ([2], none), ([1, 3], none), ([4], none)] [0, 1, 2, 3, 4, 5] (fun jq9 V L H wx => match jq9 with | 0 => V 0 = .agg #[.slice a0_vOld vOld.fEntries.length c0_vOld, .slice a1_vOld vOld.fEvaluated.length c1_vOld] | 1 => ∃ a0_vOld_f1 c0_vOld_f1 a1_vOld_f1 c1_vOld_f1, V 1 = .agg #[.slice a0_vOld_f1 vOld.fEntries.length c0_vOld_f1, .slice a1_vOld_f1 vOld.fEvaluated.length c1_vOld_f1] ∧ OwnR wx (fun y => L ≤ y ∧ y < H) 2 vOld.ct (fun j => [.slice a0_vOld_f1 vOld.fEntries.length c0_vOld_f1, .slice a1_vOld_f1 vOld.fEvaluated.length c1_vOld_f1].getD j .nilFunc) | 2 => V 2 = .agg #[.slice a0_vNow vNow.fEntries.length c0_vNow, .slice a1_vNow vNow.fEvaluated.length c1_vNow] | 3 => ∃ a0_vNow_f3 c0_vNow_f3 a1_vNow_f3 c1_vNow_f3, V 3 = .agg #[.slice a0_vNow_f3 vNow.fEntries.length c0_vNow_f3, .slice a1_vNow_f3 vNow.fEvaluated.length c1_vNow_f3] ∧ OwnR wx (fun y => L ≤ y ∧ y < H) 2 vNow.ct (fun j => [.slice a0_vNow_f3 vNow.fEntries.length c0_vNow_f3, .slice a1_vNow_f3 vNow.fEvaluated.length c1_vNow_f3].getD j .nilFunc) | 4 => ∃ a_R_f4 c_R_f4, V 4 = .slice a_R_f4 (changed vOld.fEntries vNow.fEntries).length c_R_f4 ∧ Own wx (fun y => L ≤ y ∧ y < H) (.sl 2 (changed vOld.fEntries vNow.fEntries).length (fun k => DInstance.ct ((changed vOld.fEntries vNow.fEntries).getD k default))) (.slice a_R_f4 (changed vOld.fEntries vNow.fEntries).length c_R_f4) | 5 => V 5 = V 4 | _ => True) (by kernel_rfl) (by kernel_rfl) ?loc ?lasts ?walk
        case loc =>
          intro k V V' L H wx h0 h1 hG
          match k with
          | 0 =>
            try dsimp only at hG ⊢
            rw [← h0]
            exact hG
          | 1 =>
            have e0 := h1 0 (by decide)
            try dsimp only at hG ⊢
            rw [← h0]
            exact hG
          | 2 =>
            try dsimp only at hG ⊢
            rw [← h0]
            exact hG
          | 3 =>
            have e2 := h1 2 (by decide)
            try dsimp only at hG ⊢
            rw [← h0]
            exact hG
          | 4 =>
            have e1 := h1 1 (by decide)
            have e3 := h1 3 (by decide)
            try dsimp only at hG ⊢
            rw [← h0]
            exact hG
          | 5 =>
            have e4 := h1 4 (by decide)
            try dsimp only at hG ⊢
            rw [← h0, ← e4]
            exact hG
          | n + 6 => trivial
        case lasts =>
          intro i hi V L H wx wy hB hH hk
          match i, hi with
          | 0, _ => exact fun h => h
          | 1, _ => exact fun ⟨a0_vOld_f1, c0_vOld_f1, a1_vOld_f1, c1_vOld_f1, hv, ho⟩ => ⟨a0_vOld_f1, c0_vOld_f1, a1_vOld_f1, c1_vOld_f1, hv, ho.kept (hk.sub fun x hx => .inr hx)⟩
          | 2, _ => exact fun h => h
          | 3, _ => exact fun ⟨a0_vNow_f3, c0_vNow_f3, a1_vNow_f3, c1_vNow_f3, hv, ho⟩ => ⟨a0_vNow_f3, c0_vNow_f3, a1_vNow_f3, c1_vNow_f3, hv, ho.kept (hk.sub fun x hx => .inr hx)⟩
          | 4, _ => exact fun ⟨a_R_f4, c_R_f4, hv, ho⟩ => ⟨a_R_f4, c_R_f4, hv, ho.kept (hk.sub fun x hx => .inr hx)⟩
          | 5, _ => exact fun h => h
          | n + 6, hn => exact absurd hn (by simp)
        case walk =>
          simp only [free, Nat.reduceAdd, Act.put, List.setIfInBounds_toArray, List.set_cons_succ, List.set_cons_zero]
          refine ⟨?_, ?_, ?_, ?_, ?_, ?_, ?_⟩
          · intro V L H w3 hb3 hd
            clear hd
            have sz3_paOld : w.heap.size < w3.heap.size := Nat.lt_of_lt_of_le sz2_paOld hb3.size
            have bx3_paOld_0 : w3.cell? ⟨w.heap.size, 0, none⟩ = some (.slice a0_vOld vOld.fEntries.length c0_vOld) := (hb3.cell (p := ⟨w.heap.size, 0, none⟩) sz2_paOld).trans bx2_paOld_0
            have bx3_paOld_1 : w3.cell? ⟨w.heap.size, 1, none⟩ = some (.slice a1_vOld vOld.fEvaluated.length c1_vOld) := (hb3.cell (p := ⟨w.heap.size, 1, none⟩) sz2_paOld).trans bx2_paOld_1
            have sz3_paNow : w.heap.size + 1 < w3.heap.size := Nat.lt_of_lt_of_le sz2_paNow hb3.size
            have bx3_paNow_0 : w3.cell? ⟨w.heap.size + 1, 0, none⟩ = some (.slice a0_vNow vNow.fEntries.length c0_vNow) := (hb3.cell (p := ⟨w.heap.size + 1, 0, none⟩) sz2_paNow).trans bx2_paNow_0
            have bx3_paNow_1 : w3.cell? ⟨w.heap.size + 1, 1, none⟩ = some (.slice a1_vNow vNow.fEvaluated.length c1_vNow) := (hb3.cell (p := ⟨w.heap.size + 1, 1, none⟩) sz2_paNow).trans bx2_paNow_1
            have HB3 := Lib.hid (HB2.out.trans (hb3.mono HB2.out.size))
            clear sz2_paOld bx2_paOld_0 bx2_paOld_1 sz2_paNow bx2_paNow_0 bx2_paNow_1
            go_wp2_with fail
            exact freePost _ rfl ⟨Below.refl _ _, upd_self⟩
          · intro V L H w3 hb3 hd
            obtain ⟨⟨hL0, hM0, hH0, hv0⟩, -⟩ := hd
            rw [hv0]
            have HV0 := Lib.hid hv0
            clear hv0
            have sz3_paOld : w.heap.size < w3.heap.size := Nat.lt_of_lt_of_le sz2_paOld hb3.size
            have bx3_paOld_0 : w3.cell? ⟨w.heap.size, 0, none⟩ = some (.slice a0_vOld vOld.fEntries.length c0_vOld) := (hb3.cell (p := ⟨w.heap.size, 0, none⟩) sz2_paOld).trans bx2_paOld_0
            have bx3_paOld_1 : w3.cell? ⟨w.heap.size, 1, none⟩ = some (.slice a1_vOld vOld.fEvaluated.length c1_vOld) := (hb3.cell (p := ⟨w.heap.size, 1, none⟩) sz2_paOld).trans bx2_paOld_1
            have sz3_paNow : w.heap.size + 1 < w3.heap.size := Nat.lt_of_lt_of_le sz2_paNow hb3.size
            have bx3_paNow_0 : w3.cell? ⟨w.heap.size + 1, 0, none⟩ = some (.slice a0_vNow vNow.fEntries.length c0_vNow) := (hb3.cell (p := ⟨w.heap.size + 1, 0, none⟩) sz2_paNow).trans bx2_paNow_0
            have bx3_paNow_1 : w3.cell? ⟨w.heap.size + 1, 1, none⟩ = some (.slice a1_vNow vNow.fEvaluated.length c1_vNow) := (hb3.cell (p := ⟨w.heap.size + 1, 1, none⟩) sz2_paNow).trans bx2_paNow_1
            have HB3 := Lib.hid (HB2.out.trans (hb3.mono HB2.out.size))
            clear sz2_paOld bx2_paOld_0 bx2_paOld_1 sz2_paNow bx2_paNow_0 bx2_paNow_1
            go_wp2_with fail
            refine (laws_toMemo (c0 := c0_vOld) (c1 := c1_vOld) vOld hq_vOld _ (Below.size (by repeat (first | (with_reducible exact Below.refl _ _) | (with_reducible apply Below.drew) | (with_reducible refine below_drewN ?_ _) | (refine Below.setCell ?_ (by simp <;> omega) _) | (refine Below.alloc ?_ (by simp <;> omega) _)) : Below w3.heap.size w3 _)) ((HS_0_vOld.out.later (HB3.out.trans ((by repeat (first | (with_reducible exact Below.refl _ _) | (with_reducible apply Below.drew) | (with_reducible refine below_drewN ?_ _) | (refine Below.setCell ?_ (by simp <;> omega) _) | (refine Below.alloc ?_ (by simp <;> omega) _)) : Below w3.heap.size w3 _).mono HB3.out.size)) (Nat.le_refl _)).mono (Nat.le_refl _) HB3.out.size) ((HS_1_vOld.out.later (HB3.out.trans ((by repeat (first | (with_reducible exact Below.refl _ _) | (with_reducible apply Below.drew) | (with_reducible refine below_drewN ?_ _) | (refine Below.setCell ?_ (by simp <;> omega) _) | (refine Below.alloc ?_ (by simp <;> omega) _)) : Below w3.heap.size w3 _).mono HB3.out.size)) (Nat.le_refl _)).mono (Nat.le_refl _) HB3.out.size)).mono ?_
            rintro e w4 ⟨a0_vOld_f1, c0_vOld_f1, a1_vOld_f1, c1_vOld_f1, rfl, ho, hb4⟩
            go_wp2_with fail
            exact freePost _ rfl ⟨hb4, Exists.intro a0_vOld_f1 (Exists.intro c0_vOld_f1 (Exists.intro a1_vOld_f1 (Exists.intro c1_vOld_f1 (And.intro upd_self ho))))⟩
          · intro V L H w3 hb3 hd
            clear hd
            have sz3_paOld : w.heap.size < w3.heap.size := Nat.lt_of_lt_of_le sz2_paOld hb3.size
            have bx3_paOld_0 : w3.cell? ⟨w.heap.size, 0, none⟩ = some (.slice a0_vOld vOld.fEntries.length c0_vOld) := (hb3.cell (p := ⟨w.heap.size, 0, none⟩) sz2_paOld).trans bx2_paOld_0
            have bx3_paOld_1 : w3.cell? ⟨w.heap.size, 1, none⟩ = some (.slice a1_vOld vOld.fEvaluated.length c1_vOld) := (hb3.cell (p := ⟨w.heap.size, 1, none⟩) sz2_paOld).trans bx2_paOld_1
            have sz3_paNow : w.heap.size + 1 < w3.heap.size := Nat.lt_of_lt_of_le sz2_paNow hb3.size
            have bx3_paNow_0 : w3.cell? ⟨w.heap.size + 1, 0, none⟩ = some (.slice a0_vNow vNow.fEntries.length c0_vNow) := (hb3.cell (p := ⟨w.heap.size + 1, 0, none⟩) sz2_paNow).trans bx2_paNow_0
            have bx3_paNow_1 : w3.cell? ⟨w.heap.size + 1, 1, none⟩ = some (.slice a1_vNow vNow.fEvaluated.length c1_vNow) := (hb3.cell (p := ⟨w.heap.size + 1, 1, none⟩) sz2_paNow).trans bx2_paNow_1
            have HB3 := Lib.hid (HB2.out.trans (hb3.mono HB2.out.size))
            clear sz2_paOld bx2_paOld_0 bx2_paOld_1 sz2_paNow bx2_paNow_0 bx2_paNow_1
            go_wp2_with fail
            exact freePost _ rfl ⟨Below.refl _ _, upd_self⟩
          · intro V L H w3 hb3 hd
            obtain ⟨⟨hL2, hM2, hH2, hv2⟩, -⟩ := hd
            rw [hv2]
            have HV2 := Lib.hid hv2
            clear hv2
            have sz3_paOld : w.heap.size < w3.heap.size := Nat.lt_of_lt_of_le sz2_paOld hb3.size
            have bx3_paOld_0 : w3.cell? ⟨w.heap.size, 0, none⟩ = some (.slice a0_vOld vOld.fEntries.length c0_vOld) := (hb3.cell (p := ⟨w.heap.size, 0, none⟩) sz2_paOld).trans bx2_paOld_0
            have bx3_paOld_1 : w3.cell? ⟨w.heap.size, 1, none⟩ = some (.slice a1_vOld vOld.fEvaluated.length c1_vOld) := (hb3.cell (p := ⟨w.heap.size, 1, none⟩) sz2_paOld).trans bx2_paOld_1
            have sz3_paNow : w.heap.size + 1 < w3.heap.size := Nat.lt_of_lt_of_le sz2_paNow hb3.size
            have bx3_paNow_0 : w3.cell? ⟨w.heap.size + 1, 0, none⟩ = some (.slice a0_vNow vNow.fEntries.length c0_vNow) := (hb3.cell (p := ⟨w.heap.size + 1, 0, none⟩) sz2_paNow).trans bx2_paNow_0
            have bx3_paNow_1 : w3.cell? ⟨w.heap.size + 1, 1, none⟩ = some (.slice a1_vNow vNow.fEvaluated.length c1_vNow) := (hb3.cell (p := ⟨w.heap.size + 1, 1, none⟩) sz2_paNow).trans bx2_paNow_1
            have HB3 := Lib.hid (HB2.out.trans (hb3.mono HB2.out.size))
            clear sz2_paOld bx2_paOld_0 bx2_paOld_1 sz2_paNow bx2_paNow_0 bx2_paNow_1
            go_wp2_with fail
            refine (laws_toMemo (c0 := c0_vNow) (c1 := c1_vNow) vNow hq_vNow _ (Below.size (by repeat (first | (with_reducible exact Below.refl _ _) | (with_reducible apply Below.drew) | (with_reducible refine below_drewN ?_ _) | (refine Below.setCell ?_ (by simp <;> omega) _) | (refine Below.alloc ?_ (by simp <;> omega) _)) : Below w3.heap.size w3 _)) ((HS_0_vNow.out.later (HB3.out.trans ((by repeat (first | (with_reducible exact Below.refl _ _) | (with_reducible apply Below.drew) | (with_reducible refine below_drewN ?_ _) | (refine Below.setCell ?_ (by simp <;> omega) _) | (refine Below.alloc ?_ (by simp <;> omega) _)) : Below w3.heap.size w3 _).mono HB3.out.size)) (Nat.le_refl _)).mono (Nat.le_refl _) HB3.out.size) ((HS_1_vNow.out.later (HB3.out.trans ((by repeat (first | (with_reducible exact Below.refl _ _) | (with_reducible apply Below.drew) | (with_reducible refine below_drewN ?_ _) | (refine Below.setCell ?_ (by simp <;> omega) _) | (refine Below.alloc ?_ (by simp <;> omega) _)) : Below w3.heap.size w3 _).mono HB3.out.size)) (Nat.le_refl _)).mono (Nat.le_refl _) HB3.out.size)).mono ?_
            rintro e w4 ⟨a0_vNow_f3, c0_vNow_f3, a1_vNow_f3, c1_vNow_f3, rfl, ho, hb4⟩
            go_wp2_with fail
            exact freePost _ rfl ⟨hb4, Exists.intro a0_vNow_f3 (Exists.intro c0_vNow_f3 (Exists.intro a1_vNow_f3 (Exists.intro c1_vNow_f3 (And.intro upd_self ho))))⟩
          · intro V L H w3 hb3 hd
            obtain ⟨⟨hL1, hM1, hH1, a0_vOld_f1, c0_vOld_f1, a1_vOld_f1, c1_vOld_f1, hv1, ho1_⟩, ⟨hL3, hM3, hH3, a0_vNow_f3, c0_vNow_f3, a1_vNow_f3, c1_vNow_f3, hv3, ho3_⟩, -⟩ := hd
            rw [hv1, hv3]
            have HV1 := Lib.hid hv1
            have HV3 := Lib.hid hv3
            clear hv1 hv3
            have sz3_paOld : w.heap.size < w3.heap.size := Nat.lt_of_lt_of_le sz2_paOld hb3.size
            have bx3_paOld_0 : w3.cell? ⟨w.heap.size, 0, none⟩ = some (.slice a0_vOld vOld.fEntries.length c0_vOld) := (hb3.cell (p := ⟨w.heap.size, 0, none⟩) sz2_paOld).trans bx2_paOld_0
            have bx3_paOld_1 : w3.cell? ⟨w.heap.size, 1, none⟩ = some (.slice a1_vOld vOld.fEvaluated.length c1_vOld) := (hb3.cell (p := ⟨w.heap.size, 1, none⟩) sz2_paOld).trans bx2_paOld_1
            have sz3_paNow : w.heap.size + 1 < w3.heap.size := Nat.lt_of_lt_of_le sz2_paNow hb3.size
            have bx3_paNow_0 : w3.cell? ⟨w.heap.size + 1, 0, none⟩ = some (.slice a0_vNow vNow.fEntries.length c0_vNow) := (hb3.cell (p := ⟨w.heap.size + 1, 0, none⟩) sz2_paNow).trans bx2_paNow_0
            have bx3_paNow_1 : w3.cell? ⟨w.heap.size + 1, 1, none⟩ = some (.slice a1_vNow vNow.fEvaluated.length c1_vNow) := (hb3.cell (p := ⟨w.heap.size + 1, 1, none⟩) sz2_paNow).trans bx2_paNow_1
            have HB3 := Lib.hid (HB2.out.trans (hb3.mono HB2.out.size))
            clear sz2_paOld bx2_paOld_0 bx2_paOld_1 sz2_paNow bx2_paNow_0 bx2_paNow_1
            have HO_0_vOld_f1 := Lib.hid (show Own w3 (fun y => L 1 ≤ y ∧ y < H 1) (.sl 9 vOld.fEntries.length (fun k => DEntry.ct (vOld.fEntries.getD k default))) (.slice a0_vOld_f1 vOld.fEntries.length c0_vOld_f1) from OwnR.at ho1_ 0 (by decide))
            have HO_1_vOld_f1 := Lib.hid (show Own w3 (fun y => L 1 ≤ y ∧ y < H 1) (.sl 2 vOld.fEvaluated.length (fun k => DInstance.ct (vOld.fEvaluated.getD k default))) (.slice a1_vOld_f1 vOld.fEvaluated.length c1_vOld_f1) from OwnR.at ho1_ 1 (by decide))
            clear ho1_
            have HO_0_vNow_f3 := Lib.hid (show Own w3 (fun y => L 3 ≤ y ∧ y < H 3) (.sl 9 vNow.fEntries.length (fun k => DEntry.ct (vNow.fEntries.getD k default))) (.slice a0_vNow_f3 vNow.fEntries.length c0_vNow_f3) from OwnR.at ho3_ 0 (by decide))
            have HO_1_vNow_f3 := Lib.hid (show Own w3 (fun y => L 3 ≤ y ∧ y < H 3) (.sl 2 vNow.fEvaluated.length (fun k => DInstance.ct (vNow.fEvaluated.getD k default))) (.slice a1_vNow_f3 vNow.fEvaluated.length c1_vNow_f3) from OwnR.at ho3_ 1 (by decide))
            clear ho3_
            go_wp2_with fail
            refine (spec_ChangedValues (c0_0 := c0_vOld_f1) (c0_1 := c1_vOld_f1) (c1_0 := c0_vNow_f3) (c1_1 := c1_vNow_f3) vOld OK_vOld.out hq_vOld vNow OK_vNow.out hq_vNow _ (Below.size (by repeat (first | (with_reducible exact Below.refl _ _) | (with_reducible apply Below.drew) | (with_reducible refine below_drewN ?_ _) | (refine Below.setCell ?_ (by simp <;> omega) _) | (refine Below.alloc ?_ (by simp <;> omega) _)) : Below w3.heap.size w3 _)) ((Sl.of (HO_0_vOld_f1.out.lies (lo := 0) (hi := w3.heap.size) (fun y hy => ⟨Nat.zero_le _, by have := hy.2; omega⟩))).later (by repeat (first | (with_reducible exact Below.refl _ _) | (with_reducible apply Below.drew) | (with_reducible refine below_drewN ?_ _) | (refine Below.setCell ?_ (by simp <;> omega) _) | (refine Below.alloc ?_ (by simp <;> omega) _)) : Below w3.heap.size w3 _) (Nat.le_refl _)) ((Sl.of (HO_1_vOld_f1.out.lies (lo := 0) (hi := w3.heap.size) (fun y hy => ⟨Nat.zero_le _, by have := hy.2; omega⟩))).later (by repeat (first | (with_reducible exact Below.refl _ _) | (with_reducible apply Below.drew) | (with_reducible refine below_drewN ?_ _) | (refine Below.setCell ?_ (by simp <;> omega) _) | (refine Below.alloc ?_ (by simp <;> omega) _)) : Below w3.heap.size w3 _) (Nat.le_refl _)) ((Sl.of (HO_0_vNow_f3.out.lies (lo := 0) (hi := w3.heap.size) (fun y hy => ⟨Nat.zero_le _, by have := hy.2; omega⟩))).later (by repeat (first | (with_reducible exact Below.refl _ _) | (with_reducible apply Below.drew) | (with_reducible refine below_drewN ?_ _) | (refine Below.setCell ?_ (by simp <;> omega) _) | (refine Below.alloc ?_ (by simp <;> omega) _)) : Below w3.heap.size w3 _) (Nat.le_refl _)) ((Sl.of (HO_1_vNow_f3.out.lies (lo := 0) (hi := w3.heap.size) (fun y hy => ⟨Nat.zero_le _, by have := hy.2; omega⟩))).later (by repeat (first | (with_reducible exact Below.refl _ _) | (with_reducible apply Below.drew) | (with_reducible refine below_drewN ?_ _) | (refine Below.setCell ?_ (by simp <;> omega) _) | (refine Below.alloc ?_ (by simp <;> omega) _)) : Below w3.heap.size w3 _) (Nat.le_refl _))).mono ?_
            rintro e w4 ⟨a_R_f4, c_R_f4, rfl, ho, hb4⟩
            go_wp2_with fail
            exact freePost _ rfl ⟨hb4, Exists.intro a_R_f4 (Exists.intro c_R_f4 (And.intro upd_self ho))⟩
          · intro V L H w3 hb3 hd
            obtain ⟨⟨hL4, hM4, hH4, a_R_f4, c_R_f4, hv4, ho4_⟩, -⟩ := hd
            rw [hv4]
            have HV4 := Lib.hid hv4
            clear hv4
            have HB3 := Lib.hid (HB2.out.trans (hb3.mono HB2.out.size))
            clear sz2_paOld bx2_paOld_0 bx2_paOld_1 sz2_paNow bx2_paNow_0 bx2_paNow_1
            go_wp2_with fail
            exact freePost _ rfl ⟨Below.refl _ _, upd_self.trans (HV4.out.symm.trans (upd_ne (by decide)).symm)⟩
          · intro V L H w3 hb3 hd hap hdead
            obtain ⟨⟨hL0, hM0, hH0, hv0⟩, ⟨hL1, hM1, hH1, a0_vOld_f1, c0_vOld_f1, a1_vOld_f1, c1_vOld_f1, hv1, ho1_⟩, ⟨hL2, hM2, hH2, hv2⟩, ⟨hL3, hM3, hH3, a0_vNow_f3, c0_vNow_f3, a1_vNow_f3, c1_vNow_f3, hv3, ho3_⟩, ⟨hL4, hM4, hH4, a_R_f4, c_R_f4, hv4, ho4_⟩, ⟨hL5, hM5, hH5, hv5⟩, -⟩ := hd
            have hv4' := hv4
            have hv5' := hv5.trans hv4'
            rw [hv0, hv2, hv4', hv5', hv1, hv3]
            clear hv0 hv2 hv4' hv5' hv1 hv3 hv4 hv5
            clear hap hdead
            go_wp2_with fail
            go_meet
            refine ⟨L 4, H 4, a_R_f4, c_R_f4, rfl, ho4_, ?_, ?_, hb3⟩
            · omega
            · omega
      case rest =>
        obtain ⟨lV5, hV5, a_R_5, c_R_5, rfl, ho5, hL5, hH5, hb5⟩ := hcut
        obtain ⟨w5, rfl⟩ : ∃ w_ : World, w_ = wc := ⟨_, rfl⟩
        have hr5 : w2.heap.size ≤ w5.heap.size := hb5.size
        have sz5_paOld : w.heap.size < w5.heap.size := Nat.lt_of_lt_of_le sz2_paOld hb5.size
        have bx5_paOld_0 : w5.cell? ⟨w.heap.size, 0, none⟩ = some (.slice a0_vOld vOld.fEntries.length c0_vOld) := (hb5.cell (p := ⟨w.heap.size, 0, none⟩) sz2_paOld).trans bx2_paOld_0
        have bx5_paOld_1 : w5.cell? ⟨w.heap.size, 1, none⟩ = some (.slice a1_vOld vOld.fEvaluated.length c1_vOld) := (hb5.cell (p := ⟨w.heap.size, 1, none⟩) sz2_paOld).trans bx2_paOld_1
        have sz5_paNow : w.heap.size + 1 < w5.heap.size := Nat.lt_of_lt_of_le sz2_paNow hb5.size
        have bx5_paNow_0 : w5.cell? ⟨w.heap.size + 1, 0, none⟩ = some (.slice a0_vNow vNow.fEntries.length c0_vNow) := (hb5.cell (p := ⟨w.heap.size + 1, 0, none⟩) sz2_paNow).trans bx2_paNow_0
        have bx5_paNow_1 : w5.cell? ⟨w.heap.size + 1, 1, none⟩ = some (.slice a1_vNow vNow.fEvaluated.length c1_vNow) := (hb5.cell (p := ⟨w.heap.size + 1, 1, none⟩) sz2_paNow).trans bx2_paNow_1
        have HO5_R_5 := Lib.hid ho5
        have HB5 := Lib.hid (HB2.out.trans (hb5.mono HB2.out.size))
        clear hb5 ho5 bx2_paOld_0 bx2_paOld_1 sz2_paOld bx2_paNow_0 bx2_paNow_1 sz2_paNow HB2
        go_wp2_with fail
        refine (laws_toMemo (c0 := c0_vOld) (c1 := c1_vOld) vOld hq_vOld _ (Below.size (by repeat (first | (with_reducible exact Below.refl _ _) | (with_reducible apply Below.drew) | (with_reducible refine below_drewN ?_ _) | (refine Below.setCell ?_ (by simp <;> omega) _) | (refine Below.alloc ?_ (by simp <;> omega) _)) : Below w5.heap.size w5 _)) ((HS_0_vOld.out.later (HB5.out.trans ((by repeat (first | (with_reducible exact Below.refl _ _) | (with_reducible apply Below.drew) | (with_reducible refine below_drewN ?_ _) | (refine Below.setCell ?_ (by simp <;> omega) _) | (refine Below.alloc ?_ (by simp <;> omega) _)) : Below w5.heap.size w5 _).mono HB5.out.size)) (Nat.le_refl _)).mono (Nat.le_refl _) HB5.out.size) ((HS_1_vOld.out.later (HB5.out.trans ((by repeat (first | (with_reducible exact Below.refl _ _) | (with_reducible apply Below.drew) | (with_reducible refine below_drewN ?_ _) | (refine Below.setCell ?_ (by simp <;> omega) _) | (refine Below.alloc ?_ (by simp <;> omega) _)) : Below w5.heap.size w5 _).mono HB5.out.size)) (Nat.le_refl _)).mono (Nat.le_refl _) HB5.out.size)).mono ?_
        rintro e w6 ⟨a0_vOld_6, c0_vOld_6, a1_vOld_6, c1_vOld_6, rfl, ho6, hb6⟩
        have hst6 : Below w5.heap.size w5 w6 := Below.trans (by repeat (first | (with_reducible exact Below.refl _ _) | (with_reducible apply Below.drew) | (with_reducible refine below_drewN ?_ _) | (refine Below.setCell ?_ (by simp <;> omega) _) | (refine Below.alloc ?_ (by simp <;> omega) _)) : Below w5.heap.size w5 _) (hb6.mono (Below.size (by repeat (first | (with_reducible exact Below.refl _ _) | (with_reducible apply Below.drew) | (with_reducible refine below_drewN ?_ _) | (refine Below.setCell ?_ (by simp <;> omega) _) | (refine Below.alloc ?_ (by simp <;> omega) _)) : Below w5.heap.size w5 _)))
        have hr6 : w5.heap.size ≤ w6.heap.size := Nat.le_trans (by first | exact Nat.le_refl _ | (simp; done) | (simp; omega) | (simp [World.setCell]; done) | (simp [World.setCell]; omega)) hb6.size
        have sz6_paOld : w.heap.size < w6.heap.size := Nat.lt_of_lt_of_le sz5_paOld hst6.size
        have bx6_paOld_0 : w6.cell? ⟨w.heap.size, 0, none⟩ = some (.slice a0_vOld vOld.fEntries.length c0_vOld) := (hst6.cell (p := ⟨w.heap.size, 0, none⟩) sz5_paOld).trans bx5_paOld_0
        have bx6_paOld_1 : w6.cell? ⟨w.heap.size, 1, none⟩ = some (.slice a1_vOld vOld.fEvaluated.length c1_vOld) := (hst6.cell (p := ⟨w.heap.size, 1, none⟩) sz5_paOld).trans bx5_paOld_1
        have sz6_paNow : w.heap.size + 1 < w6.heap.size := Nat.lt_of_lt_of_le sz5_paNow hst6.size
        have bx6_paNow_0 : w6.cell? ⟨w.heap.size + 1, 0, none⟩ = some (.slice a0_vNow vNow.fEntries.length c0_vNow) := (hst6.cell (p := ⟨w.heap.size + 1, 0, none⟩) sz5_paNow).trans bx5_paNow_0
        have bx6_paNow_1 : w6.cell? ⟨w.heap.size + 1, 1, none⟩ = some (.slice a1_vNow vNow.fEvaluated.length c1_vNow) := (hst6.cell (p := ⟨w.heap.size + 1, 1, none⟩) sz5_paNow).trans bx5_paNow_1
        have HO6_R_5 := Lib.hid (HO5_R_5.out.kept (Kept.of_below_all hst6))
        have HR6_vOld_6 := Lib.hid (OwnR.sub (F' := fun y => w5.heap.size ≤ y ∧ y < w6.heap.size) ho6 (fun y hy => ⟨Nat.le_trans (by first | exact Nat.le_refl _ | (simp; done) | (simp; omega) | (simp [World.setCell]; done) | (simp [World.setCell]; omega)) hy.1, hy.2⟩))
        have HO6_0_vOld_6 := Lib.hid (show Own w6 (fun y => w5.heap.size ≤ y ∧ y < w6.heap.size) (.sl 9 vOld.fEntries.length (fun k => DEntry.ct (vOld.fEntries.getD k default))) (.slice a0_vOld_6 vOld.fEntries.length c0_vOld_6) from Own.sub (F := fun y => _ ≤ y ∧ y < _) (OwnR.at ho6 0 (by decide)) (fun y hy => ⟨Nat.le_trans (by first | exact Nat.le_refl _ | (simp; done) | (simp; omega) | (simp [World.setCell]; done) | (simp [World.setCell]; omega)) hy.1, hy.2⟩))
        have HO6_1_vOld_6 := Lib.hid (show Own w6 (fun y => w5.heap.size ≤ y ∧ y < w6.heap.size) (.sl 2 vOld.fEvaluated.length (fun k => DInstance.ct (vOld.fEvaluated.getD k default))) (.slice a1_vOld_6 vOld.fEvaluated.length c1_vOld_6) from Own.sub (F := fun y => _ ≤ y ∧ y < _) (OwnR.at ho6 1 (by decide)) (fun y hy => ⟨Nat.le_trans (by first | exact Nat.le_refl _ | (simp; done) | (simp; omega) | (simp [World.setCell]; done) | (simp [World.setCell]; omega)) hy.1, hy.2⟩))
        have HB6 := Lib.hid (HB5.out.trans (hst6.mono HB5.out.size))
        clear bx5_paOld_0 bx5_paOld_1 sz5_paOld bx5_paNow_0 bx5_paNow_1 sz5_paNow HO5_R_5 ho6 hb6 hst6 HB5
        go_wp2_with fail
        refine (laws_toMemo (c0 := c0_vNow) (c1 := c1_vNow) vNow hq_vNow _ (Below.size (by repeat (first | (with_reducible exact Below.refl _ _) | (with_reducible apply Below.drew) | (with_reducible refine below_drewN ?_ _) | (refine Below.setCell ?_ (by simp <;> omega) _) | (refine Below.alloc ?_ (by simp <;> omega) _)) : Below w6.heap.size w6 _)) ((HS_0_vNow.out.later (HB6.out.trans ((by repeat (first | (with_reducible exact Below.refl _ _) | (with_reducible apply Below.drew) | (with_reducible refine below_drewN ?_ _) | (refine Below.setCell ?_ (by simp <;> omega) _) | (refine Below.alloc ?_ (by simp <;> omega) _)) : Below w6.heap.size w6 _).mono HB6.out.size)) (Nat.le_refl _)).mono (Nat.le_refl _) HB6.out.size) ((HS_1_vNow.out.later (HB6.out.trans ((by repeat (first | (with_reducible exact Below.refl _ _) | (with_reducible apply Below.drew) | (with_reducible refine below_drewN ?_ _) | (refine Below.setCell ?_ (by simp <;> omega) _) | (refine Below.alloc ?_ (by simp <;> omega) _)) : Below w6.heap.size w6 _).mono HB6.out.size)) (Nat.le_refl _)).mono (Nat.le_refl _) HB6.out.size)).mono ?_
        rintro e w7 ⟨a0_vNow_7, c0_vNow_7, a1_vNow_7, c1_vNow_7, rfl, ho7, hb7⟩
        have hst7 : Below w6.heap.size w6 w7 := Below.trans (by repeat (first | (with_reducible exact Below.refl _ _) | (with_reducible apply Below.drew) | (with_reducible refine below_drewN ?_ _) | (refine Below.setCell ?_ (by simp <;> omega) _) | (refine Below.alloc ?_ (by simp <;> omega) _)) : Below w6.heap.size w6 _) (hb7.mono (Below.size (by repeat (first | (with_reducible exact Below.refl _ _) | (with_reducible apply Below.drew) | (with_reducible refine below_drewN ?_ _) | (refine Below.setCell ?_ (by simp <;> omega) _) | (refine Below.alloc ?_ (by simp <;> omega) _)) : Below w6.heap.size w6 _)))
        have hr7 : w6.heap.size + 1 ≤ w7.heap.size := Nat.le_trans (by first | exact Nat.le_refl _ | (simp; done) | (simp; omega) | (simp [World.setCell]; done) | (simp [World.setCell]; omega)) hb7.size
        have sz7_paOld : w.heap.size < w7.heap.size := Nat.lt_of_lt_of_le sz6_paOld hst7.size
        have bx7_paOld_0 : w7.cell? ⟨w.heap.size, 0, none⟩ = some (.slice a0_vOld vOld.fEntries.length c0_vOld) := (hst7.cell (p := ⟨w.heap.size, 0, none⟩) sz6_paOld).trans bx6_paOld_0
        have bx7_paOld_1 : w7.cell? ⟨w.heap.size, 1, none⟩ = some (.slice a1_vOld vOld.fEvaluated.length c1_vOld) := (hst7.cell (p := ⟨w.heap.size, 1, none⟩) sz6_paOld).trans bx6_paOld_1
        have sz7_paNow : w.heap.size + 1 < w7.heap.size := Nat.lt_of_lt_of_le sz6_paNow hst7.size
        have bx7_paNow_0 : w7.cell? ⟨w.heap.size + 1, 0, none⟩ = some (.slice a0_vNow vNow.fEntries.length c0_vNow) := (hst7.cell (p := ⟨w.heap.size + 1, 0, none⟩) sz6_paNow).trans bx6_paNow_0
        have bx7_paNow_1 : w7.cell? ⟨w.heap.size + 1, 1, none⟩ = some (.slice a1_vNow vNow.fEvaluated.length c1_vNow) := (hst7.cell (p := ⟨w.heap.size + 1, 1, none⟩) sz6_paNow).trans bx6_paNow_1
        have sz7_x0 : w6.heap.size < w7.heap.size := Nat.lt_of_lt_of_le (by first | omega | (simp; done) | (simp; omega) | (simp [World.setCell]; omega)) hb7.size
        have bx7_x0_0 : w7.cell? ⟨w6.heap.size, 0, none⟩ = some (.slice a0_vOld_6 vOld.fEntries.length c0_vOld_6) := (hb7.cell (p := ⟨w6.heap.size, 0, none⟩) (by first | omega | (simp; done) | (simp; omega) | (simp [World.setCell]; omega))).trans (by go_simp)
        have bx7_x0_1 : w7.cell? ⟨w6.heap.size, 1, none⟩ = some (.slice a1_vOld_6 vOld.fEvaluated.length c1_vOld_6) := (hb7.cell (p := ⟨w6.heap.size, 1, none⟩) (by first | omega | (simp; done) | (simp; omega) | (simp [World.setCell]; omega))).trans (by go_simp)
        have HO7_R_5 := Lib.hid (HO6_R_5.out.kept (Kept.of_below_all hst7))
        have HO7_0_vOld_6 := Lib.hid (HO6_0_vOld_6.out.kept (Kept.of_below_all hst7))
        have HO7_1_vOld_6 := Lib.hid (HO6_1_vOld_6.out.kept (Kept.of_below_all hst7))
        have HR7_vOld_6 := Lib.hid (HR6_vOld_6.out.kept (Kept.of_below_all hst7))
        have HR7_vNow_7 := Lib.hid (OwnR.sub (F' := fun y => w6.heap.size + 1 ≤ y ∧ y < w7.heap.size) ho7 (fun y hy => ⟨Nat.le_trans (by first | exact Nat.le_refl _ | (simp; done) | (simp; omega) | (simp [World.setCell]; done) | (simp [World.setCell]; omega)) hy.1, hy.2⟩))
        have HO7_0_vNow_7 := Lib.hid (show Own w7 (fun y => w6.heap.size + 1 ≤ y ∧ y < w7.heap.size) (.sl 9 vNow.fEntries.length (fun k => DEntry.ct (vNow.fEntries.getD k default))) (.slice a0_vNow_7 vNow.fEntries.length c0_vNow_7) from Own.sub (F := fun y => _ ≤ y ∧ y < _) (OwnR.at ho7 0 (by decide)) (fun y hy => ⟨Nat.le_trans (by first | exact Nat.le_refl _ | (simp; done) | (simp; omega) | (simp [World.setCell]; done) | (simp [World.setCell]; omega)) hy.1, hy.2⟩))
        have HO7_1_vNow_7 := Lib.hid (show Own w7 (fun y => w6.heap.size + 1 ≤ y ∧ y < w7.heap.size) (.sl 2 vNow.fEvaluated.length (fun k => DInstance.ct (vNow.fEvaluated.getD k default))) (.slice a1_vNow_7 vNow.fEvaluated.length c1_vNow_7) from Own.sub (F := fun y => _ ≤ y ∧ y < _) (OwnR.at ho7 1 (by decide)) (fun y hy => ⟨Nat.le_trans (by first | exact Nat.le_refl _ | (simp; done) | (simp; omega) | (simp [World.setCell]; done) | (simp [World.setCell]; omega)) hy.1, hy.2⟩))
        have HB7 := Lib.hid (HB6.out.trans (hst7.mono HB6.out.size))
        clear bx6_paOld_0 bx6_paOld_1 sz6_paOld bx6_paNow_0 bx6_paNow_1 sz6_paNow HO6_R_5 HO6_0_vOld_6 HO6_1_vOld_6 HR6_vOld_6 ho7 hb7 hst7 HB6
        go_wp2_with fail
        refine (impl_ChangedValues (c0_0 := c0_vOld_6) (c0_1 := c1_vOld_6) (c1_0 := c0_vNow_7) (c1_1 := c1_vNow_7) vOld OK_vOld.out hq_vOld vNow OK_vNow.out hq_vNow _ (Below.size (by repeat (first | (with_reducible exact Below.refl _ _) | (with_reducible apply Below.drew) | (with_reducible refine below_drewN ?_ _) | (refine Below.setCell ?_ (by simp <;> omega) _) | (refine Below.alloc ?_ (by simp <;> omega) _)) : Below w7.heap.size w7 _)) ((Sl.of (HO7_0_vOld_6.out.lies (lo := 0) (hi := w7.heap.size) (fun y hy => ⟨Nat.zero_le _, by have := hy.2; omega⟩))).later (by repeat (first | (with_reducible exact Below.refl _ _) | (with_reducible apply Below.drew) | (with_reducible refine below_drewN ?_ _) | (refine Below.setCell ?_ (by simp <;> omega) _) | (refine Below.alloc ?_ (by simp <;> omega) _)) : Below w7.heap.size w7 _) (Nat.le_refl _)) ((Sl.of (HO7_1_vOld_6.out.lies (lo := 0) (hi := w7.heap.size) (fun y hy => ⟨Nat.zero_le _, by have := hy.2; omega⟩))).later (by repeat (first | (with_reducible exact Below.refl _ _) | (with_reducible apply Below.drew) | (with_reducible refine below_drewN ?_ _) | (refine Below.setCell ?_ (by simp <;> omega) _) | (refine Below.alloc ?_ (by simp <;> omega) _)) : Below w7.heap.size w7 _) (Nat.le_refl _)) ((Sl.of (HO7_0_vNow_7.out.lies (lo := 0) (hi := w7.heap.size) (fun y hy => ⟨Nat.zero_le _, by have := hy.2; omega⟩))).later (by repeat (first | (with_reducible exact Below.refl _ _) | (with_reducible apply Below.drew) | (with_reducible refine below_drewN ?_ _) | (refine Below.setCell ?_ (by simp <;> omega) _) | (refine Below.alloc ?_ (by simp <;> omega) _)) : Below w7.heap.size w7 _) (Nat.le_refl _)) ((Sl.of (HO7_1_vNow_7.out.lies (lo := 0) (hi := w7.heap.size) (fun y hy => ⟨Nat.zero_le _, by have := hy.2; omega⟩))).later (by repeat (first | (with_reducible exact Below.refl _ _) | (with_reducible apply Below.drew) | (with_reducible refine below_drewN ?_ _) | (refine Below.setCell ?_ (by simp <;> omega) _) | (refine Below.alloc ?_ (by simp <;> omega) _)) : Below w7.heap.size w7 _) (Nat.le_refl _))).mono ?_
        rintro e w8 ⟨a_R_8, c_R_8, rfl, ho8, hb8⟩
        have hst8 : Below w7.heap.size w7 w8 := Below.trans (by repeat (first | (with_reducible exact Below.refl _ _) | (with_reducible apply Below.drew) | (with_reducible refine below_drewN ?_ _) | (refine Below.setCell ?_ (by simp <;> omega) _) | (refine Below.alloc ?_ (by simp <;> omega) _)) : Below w7.heap.size w7 _) (hb8.mono (Below.size (by repeat (first | (with_reducible exact Below.refl _ _) | (with_reducible apply Below.drew) | (with_reducible refine below_drewN ?_ _) | (refine Below.setCell ?_ (by simp <;> omega) _) | (refine Below.alloc ?_ (by simp <;> omega) _)) : Below w7.heap.size w7 _)))
        have hr8 : w7.heap.size + 1 ≤ w8.heap.size := Nat.le_trans (by first | exact Nat.le_refl _ | (simp; done) | (simp; omega) | (simp [World.setCell]; done) | (simp [World.setCell]; omega)) hb8.size
        have sz8_paOld : w.heap.size < w8.heap.size := Nat.lt_of_lt_of_le sz7_paOld hst8.size
        have bx8_paOld_0 : w8.cell? ⟨w.heap.size, 0, none⟩ = some (.slice a0_vOld vOld.fEntries.length c0_vOld) := (hst8.cell (p := ⟨w.heap.size, 0, none⟩) sz7_paOld).trans bx7_paOld_0
        have bx8_paOld_1 : w8.cell? ⟨w.heap.size, 1, none⟩ = some (.slice a1_vOld vOld.fEvaluated.length c1_vOld) := (hst8.cell (p := ⟨w.heap.size, 1, none⟩) sz7_paOld).trans bx7_paOld_1
        have sz8_paNow : w.heap.size + 1 < w8.heap.size := Nat.lt_of_lt_of_le sz7_paNow hst8.size
        have bx8_paNow_0 : w8.cell? ⟨w.heap.size + 1, 0, none⟩ = some (.slice a0_vNow vNow.fEntries.length c0_vNow) := (hst8.cell (p := ⟨w.heap.size + 1, 0, none⟩) sz7_paNow).trans bx7_paNow_0
        have bx8_paNow_1 : w8.cell? ⟨w.heap.size + 1, 1, none⟩ = some (.slice a1_vNow vNow.fEvaluated.length c1_vNow) := (hst8.cell (p := ⟨w.heap.size + 1, 1, none⟩) sz7_paNow).trans bx7_paNow_1
        have sz8_x0 : w6.heap.size < w8.heap.size := Nat.lt_of_lt_of_le sz7_x0 hst8.size
        have bx8_x0_0 : w8.cell? ⟨w6.heap.size, 0, none⟩ = some (.slice a0_vOld_6 vOld.fEntries.length c0_vOld_6) := (hst8.cell (p := ⟨w6.heap.size, 0, none⟩) sz7_x0).trans bx7_x0_0
        have bx8_x0_1 : w8.cell? ⟨w6.heap.size, 1, none⟩ = some (.slice a1_vOld_6 vOld.fEvaluated.length c1_vOld_6) := (hst8.cell (p := ⟨w6.heap.size, 1, none⟩) sz7_x0).trans bx7_x0_1
        have sz8_x1 : w7.heap.size < w8.heap.size := Nat.lt_of_lt_of_le (by first | omega | (simp; done) | (simp; omega) | (simp [World.setCell]; omega)) hb8.size
        have bx8_x1_0 : w8.cell? ⟨w7.heap.size, 0, none⟩ = some (.slice a0_vNow_7 vNow.fEntries.length c0_vNow_7) := (hb8.cell (p := ⟨w7.heap.size, 0, none⟩) (by first | omega | (simp; done) | (simp; omega) | (simp [World.setCell]; omega))).trans (by go_simp)
        have bx8_x1_1 : w8.cell? ⟨w7.heap.size, 1, none⟩ = some (.slice a1_vNow_7 vNow.fEvaluated.length c1_vNow_7) := (hb8.cell (p := ⟨w7.heap.size, 1, none⟩) (by first | omega | (simp; done) | (simp; omega) | (simp [World.setCell]; omega))).trans (by go_simp)
        have HO8_R_5 := Lib.hid (HO7_R_5.out.kept (Kept.of_below_all hst8))
        have HO8_0_vOld_6 := Lib.hid (HO7_0_vOld_6.out.kept (Kept.of_below_all hst8))
        have HO8_1_vOld_6 := Lib.hid (HO7_1_vOld_6.out.kept (Kept.of_below_all hst8))
        have HO8_0_vNow_7 := Lib.hid (HO7_0_vNow_7.out.kept (Kept.of_below_all hst8))
        have HO8_1_vNow_7 := Lib.hid (HO7_1_vNow_7.out.kept (Kept.of_below_all hst8))
        have HR8_vOld_6 := Lib.hid (HR7_vOld_6.out.kept (Kept.of_below_all hst8))
        have HR8_vNow_7 := Lib.hid (HR7_vNow_7.out.kept (Kept.of_below_all hst8))
        have HO8_R_8 := Lib.hid (show Own w8 (fun y => w7.heap.size + 1 ≤ y ∧ y < w8.heap.size) (.sl 2 (changed vOld.fEntries vNow.fEntries).length (fun k => DInstance.ct ((changed vOld.fEntries vNow.fEntries).getD k default))) (.slice a_R_8 (changed vOld.fEntries vNow.fEntries).length c_R_8) from Own.sub (F := fun y => _ ≤ y ∧ y < _) ho8 (fun y hy => ⟨Nat.le_trans (by first | exact Nat.le_refl _ | (simp; done) | (simp; omega) | (simp [World.setCell]; done) | (simp [World.setCell]; omega)) hy.1, hy.2⟩))
        have HB8 := Lib.hid (HB7.out.trans (hst8.mono HB7.out.size))
        clear bx7_paOld_0 bx7_paOld_1 sz7_paOld bx7_paNow_0 bx7_paNow_1 sz7_paNow bx7_x0_0 bx7_x0_1 sz7_x0 HO7_R_5 HO7_0_vOld_6 HO7_1_vOld_6 HO7_0_vNow_7 HO7_1_vNow_7 HR7_vOld_6 HR7_vNow_7 ho8 hb8 hst8 HB7
        go_wp2_with fail
        refine (laws_eqInstanceS (cap := c_R_8) (cap2 := c_R_5) (changed vOld.fEntries vNow.fEntries) hq_R _ (Below.size (by repeat (first | (with_reducible exact Below.refl _ _) | (with_reducible apply Below.drew) | (with_reducible refine below_drewN ?_ _) | (refine Below.setCell ?_ (by simp <;> omega) _) | (refine Below.alloc ?_ (by simp <;> omega) _)) : Below w8.heap.size w8 _)) (Below.size (by repeat (first | (with_reducible exact Below.refl _ _) | (with_reducible apply Below.drew) | (with_reducible refine below_drewN ?_ _) | (refine Below.setCell ?_ (by simp <;> omega) _) | (refine Below.alloc ?_ (by simp <;> omega) _)) : Below w8.heap.size w8 _)) ((Sl.of (HO8_R_8.out.lies (lo := 0) (hi := w8.heap.size) (fun y hy => ⟨Nat.zero_le _, by have := hy.2; omega⟩))).later (by repeat (first | (with_reducible exact Below.refl _ _) | (with_reducible apply Below.drew) | (with_reducible refine below_drewN ?_ _) | (refine Below.setCell ?_ (by simp <;> omega) _) | (refine Below.alloc ?_ (by simp <;> omega) _)) : Below w8.heap.size w8 _) (Nat.le_refl _)) ((Sl.of (HO8_R_5.out.lies (lo := 0) (hi := w8.heap.size) (fun y hy => ⟨Nat.zero_le _, by have := hy.2; omega⟩))).later (by repeat (first | (with_reducible exact Below.refl _ _) | (with_reducible apply Below.drew) | (with_reducible refine below_drewN ?_ _) | (refine Below.setCell ?_ (by simp <;> omega) _) | (refine Below.alloc ?_ (by simp <;> omega) _)) : Below w8.heap.size w8 _) (Nat.le_refl _))).mono ?_
        rintro e w9 ⟨rfl, hb9⟩
        have hst9 : Below w8.heap.size w8 w9 := Below.trans (by repeat (first | (with_reducible exact Below.refl _ _) | (with_reducible apply Below.drew) | (with_reducible refine below_drewN ?_ _) | (refine Below.setCell ?_ (by simp <;> omega) _) | (refine Below.alloc ?_ (by simp <;> omega) _)) : Below w8.heap.size w8 _) (hb9.mono (Below.size (by repeat (first | (with_reducible exact Below.refl _ _) | (with_reducible apply Below.drew) | (with_reducible refine below_drewN ?_ _) | (refine Below.setCell ?_ (by simp <;> omega) _) | (refine Below.alloc ?_ (by simp <;> omega) _)) : Below w8.heap.size w8 _)))
        have hr9 : w8.heap.size ≤ w9.heap.size := Nat.le_trans (by first | exact Nat.le_refl _ | (simp; done) | (simp; omega) | (simp [World.setCell]; done) | (simp [World.setCell]; omega)) hb9.size
        have sz9_paOld : w.heap.size < w9.heap.size := Nat.lt_of_lt_of_le sz8_paOld hst9.size
        have bx9_paOld_0 : w9.cell? ⟨w.heap.size, 0, none⟩ = some (.slice a0_vOld vOld.fEntries.length c0_vOld) := (hst9.cell (p := ⟨w.heap.size, 0, none⟩) sz8_paOld).trans bx8_paOld_0
        have bx9_paOld_1 : w9.cell? ⟨w.heap.size, 1, none⟩ = some (.slice a1_vOld vOld.fEvaluated.length c1_vOld) := (hst9.cell (p := ⟨w.heap.size, 1, none⟩) sz8_paOld).trans bx8_paOld_1
        have sz9_paNow : w.heap.size + 1 < w9.heap.size := Nat.lt_of_lt_of_le sz8_paNow hst9.size
        have bx9_paNow_0 : w9.cell? ⟨w.heap.size + 1, 0, none⟩ = some (.slice a0_vNow vNow.fEntries.length c0_vNow) := (hst9.cell (p := ⟨w.heap.size + 1, 0, none⟩) sz8_paNow).trans bx8_paNow_0
        have bx9_paNow_1 : w9.cell? ⟨w.heap.size + 1, 1, none⟩ = some (.slice a1_vNow vNow.fEvaluated.length c1_vNow) := (hst9.cell (p := ⟨w.heap.size + 1, 1, none⟩) sz8_paNow).trans bx8_paNow_1
        have sz9_x0 : w6.heap.size < w9.heap.size := Nat.lt_of_lt_of_le sz8_x0 hst9.size
        have bx9_x0_0 : w9.cell? ⟨w6.heap.size, 0, none⟩ = some (.slice a0_vOld_6 vOld.fEntries.length c0_vOld_6) := (hst9.cell (p := ⟨w6.heap.size, 0, none⟩) sz8_x0).trans bx8_x0_0
        have bx9_x0_1 : w9.cell? ⟨w6.heap.size, 1, none⟩ = some (.slice a1_vOld_6 vOld.fEvaluated.length c1_vOld_6) := (hst9.cell (p := ⟨w6.heap.size, 1, none⟩) sz8_x0).trans bx8_x0_1
        have sz9_x1 : w7.heap.size < w9.heap.size := Nat.lt_of_lt_of_le sz8_x1 hst9.size
        have bx9_x1_0 : w9.cell? ⟨w7.heap.size, 0, none⟩ = some (.slice a0_vNow_7 vNow.fEntries.length c0_vNow_7) := (hst9.cell (p := ⟨w7.heap.size, 0, none⟩) sz8_x1).trans bx8_x1_0
        have bx9_x1_1 : w9.cell? ⟨w7.heap.size, 1, none⟩ = some (.slice a1_vNow_7 vNow.fEvaluated.length c1_vNow_7) := (hst9.cell (p := ⟨w7.heap.size, 1, none⟩) sz8_x1).trans bx8_x1_1
        have HO9_R_5 := Lib.hid (HO8_R_5.out.kept (Kept.of_below_all hst9))
        have HO9_0_vOld_6 := Lib.hid (HO8_0_vOld_6.out.kept (Kept.of_below_all hst9))
        have HO9_1_vOld_6 := Lib.hid (HO8_1_vOld_6.out.kept (Kept.of_below_all hst9))
        have HO9_0_vNow_7 := Lib.hid (HO8_0_vNow_7.out.kept (Kept.of_below_all hst9))
        have HO9_1_vNow_7 := Lib.hid (HO8_1_vNow_7.out.kept (Kept.of_below_all hst9))
        have HO9_R_8 := Lib.hid (HO8_R_8.out.kept (Kept.of_below_all hst9))
        have HR9_vOld_6 := Lib.hid (HR8_vOld_6.out.kept (Kept.of_below_all hst9))
        have HR9_vNow_7 := Lib.hid (HR8_vNow_7.out.kept (Kept.of_below_all hst9))
        have HB9 := Lib.hid (HB8.out.trans (hst9.mono HB8.out.size))
        clear bx8_paOld_0 bx8_paOld_1 sz8_paOld bx8_paNow_0 bx8_paNow_1 sz8_paNow bx8_x0_0 bx8_x0_1 sz8_x0 bx8_x1_0 bx8_x1_1 sz8_x1 HO8_R_5 HO8_0_vOld_6 HO8_1_vOld_6 HO8_0_vNow_7 HO8_1_vNow_7 HO8_R_8 HR8_vOld_6 HR8_vNow_7 hb9 hst9 HB8
        go_wp2_with fail
        go_region_with ((first | (go_at_call 9; refine (laws_toMemo (c0 := c0_vOld) (c1 := c1_vOld) vOld hq_vOld _ (Below.size (by repeat (first | (with_reducible exact Below.refl _ _) | (with_reducible apply Below.drew) | (with_reducible refine below_drewN ?_ _) | (refine Below.setCell ?_ (by simp <;> omega) _) | (refine Below.alloc ?_ (by simp <;> omega) _)) : Below w9.heap.size w9 _)) ((HS_0_vOld.out.later (HB9.out.trans ((by repeat (first | (with_reducible exact Below.refl _ _) | (with_reducible apply Below.drew) | (with_reducible refine below_drewN ?_ _) | (refine Below.setCell ?_ (by simp <;> omega) _) | (refine Below.alloc ?_ (by simp <;> omega) _)) : Below w9.heap.size w9 _).mono HB9.out.size)) (Nat.le_refl _)).mono (Nat.le_refl _) HB9.out.size) ((HS_1_vOld.out.later (HB9.out.trans ((by repeat (first | (with_reducible exact Below.refl _ _) | (with_reducible apply Below.drew) | (with_reducible refine below_drewN ?_ _) | (refine Below.setCell ?_ (by simp <;> omega) _) | (refine Below.alloc ?_ (by simp <;> omega) _)) : Below w9.heap.size w9 _).mono HB9.out.size)) (Nat.le_refl _)).mono (Nat.le_refl _) HB9.out.size)).mono ?_; rintro e w10 ⟨a0_vOld_10, c0_vOld_10, a1_vOld_10, c1_vOld_10, rfl, ho10, hb10⟩; have hst10 : Below w9.heap.size w9 w10 := Below.trans (by repeat (first | (with_reducible exact Below.refl _ _) | (with_reducible apply Below.drew) | (with_reducible refine below_drewN ?_ _) | (refine Below.setCell ?_ (by simp <;> omega) _) | (refine Below.alloc ?_ (by simp <;> omega) _)) : Below w9.heap.size w9 _) (hb10.mono (Below.size (by repeat (first | (with_reducible exact Below.refl _ _) | (with_reducible apply Below.drew) | (with_reducible refine below_drewN ?_ _) | (refine Below.setCell ?_ (by simp <;> omega) _) | (refine Below.alloc ?_ (by simp <;> omega) _)) : Below w9.heap.size w9 _))); have hr10 : w9.heap.size ≤ w10.heap.size := Nat.le_trans (by first | exact Nat.le_refl _ | (simp; done) | (simp; omega) | (simp [World.setCell]; done) | (simp [World.setCell]; omega)) hb10.size; have sz10_paOld : w.heap.size < w10.heap.size := Nat.lt_of_lt_of_le sz9_paOld hst10.size; have bx10_paOld_0 : w10.cell? ⟨w.heap.size, 0, none⟩ = some (.slice a0_vOld vOld.fEntries.length c0_vOld) := (hst10.cell (p := ⟨w.heap.size, 0, none⟩) sz9_paOld).trans bx9_paOld_0; have bx10_paOld_1 : w10.cell? ⟨w.heap.size, 1, none⟩ = some (.slice a1_vOld vOld.fEvaluated.length c1_vOld) := (hst10.cell (p := ⟨w.heap.size, 1, none⟩) sz9_paOld).trans bx9_paOld_1; have sz10_paNow : w.heap.size + 1 < w10.heap.size := Nat.lt_of_lt_of_le sz9_paNow hst10.size; have bx10_paNow_0 : w10.cell? ⟨w.heap.size + 1, 0, none⟩ = some (.slice a0_vNow vNow.fEntries.length c0_vNow) := (hst10.cell (p := ⟨w.heap.size + 1, 0, none⟩) sz9_paNow).trans bx9_paNow_0; have bx10_paNow_1 : w10.cell? ⟨w.heap.size + 1, 1, none⟩ = some (.slice a1_vNow vNow.fEvaluated.length c1_vNow) := (hst10.cell (p := ⟨w.heap.size + 1, 1, none⟩) sz9_paNow).trans bx9_paNow_1; have sz10_x0 : w6.heap.size < w10.heap.size := Nat.lt_of_lt_of_le sz9_x0 hst10.size; have bx10_x0_0 : w10.cell? ⟨w6.heap.size, 0, none⟩ = some (.slice a0_vOld_6 vOld.fEntries.length c0_vOld_6) := (hst10.cell (p := ⟨w6.heap.size, 0, none⟩) sz9_x0).trans bx9_x0_0; have bx10_x0_1 : w10.cell? ⟨w6.heap.size, 1, none⟩ = some (.slice a1_vOld_6 vOld.fEvaluated.length c1_vOld_6) := (hst10.cell (p := ⟨w6.heap.size, 1, none⟩) sz9_x0).trans bx9_x0_1; have sz10_x1 : w7.heap.size < w10.heap.size := Nat.lt_of_lt_of_le sz9_x1 hst10.size; have bx10_x1_0 : w10.cell? ⟨w7.heap.size, 0, none⟩ = some (.slice a0_vNow_7 vNow.fEntries.length c0_vNow_7) := (hst10.cell (p := ⟨w7.heap.size, 0, none⟩) sz9_x1).trans bx9_x1_0; have bx10_x1_1 : w10.cell? ⟨w7.heap.size, 1, none⟩ = some (.slice a1_vNow_7 vNow.fEvaluated.length c1_vNow_7) := (hst10.cell (p := ⟨w7.heap.size, 1, none⟩) sz9_x1).trans bx9_x1_1; have HO10_R_5 := Lib.hid (HO9_R_5.out.kept (Kept.of_below_all hst10)); have HO10_0_vOld_6 := Lib.hid (HO9_0_vOld_6.out.kept (Kept.of_below_all hst10)); have HO10_1_vOld_6 := Lib.hid (HO9_1_vOld_6.out.kept (Kept.of_below_all hst10)); have HO10_0_vNow_7 := Lib.hid (HO9_0_vNow_7.out.kept (Kept.of_below_all hst10)); have HO10_1_vNow_7 := Lib.hid (HO9_1_vNow_7.out.kept (Kept.of_below_all hst10)); have HO10_R_8 := Lib.hid (HO9_R_8.out.kept (Kept.of_below_all hst10)); have HR10_vOld_6 := Lib.hid (HR9_vOld_6.out.kept (Kept.of_below_all hst10)); have HR10_vNow_7 := Lib.hid (HR9_vNow_7.out.kept (Kept.of_below_all hst10)); have HO10_0_vOld_10 := Lib.hid (show Own w10 (fun y => w9.heap.size ≤ y ∧ y < w10.heap.size) (.sl 9 vOld.fEntries.length (fun k => DEntry.ct (vOld.fEntries.getD k default))) (.slice a0_vOld_10 vOld.fEntries.length c0_vOld_10) from Own.sub (F := fun y => _ ≤ y ∧ y < _) (OwnR.at ho10 0 (by decide)) (fun y hy => ⟨Nat.le_trans (by first | exact Nat.le_refl _ | (simp; done) | (simp; omega) | (simp [World.setCell]; done) | (simp [World.setCell]; omega)) hy.1, hy.2⟩)); have HO10_1_vOld_10 := Lib.hid (show Own w10 (fun y => w9.heap.size ≤ y ∧ y < w10.heap.size) (.sl 2 vOld.fEvaluated.length (fun k => DInstance.ct (vOld.fEvaluated.getD k default))) (.slice a1_vOld_10 vOld.fEvaluated.length c1_vOld_10) from Own.sub (F := fun y => _ ≤ y ∧ y < _) (OwnR.at ho10 1 (by decide)) (fun y hy => ⟨Nat.le_trans (by first | exact Nat.le_refl _ | (simp; done) | (simp; omega) | (simp [World.setCell]; done) | (simp [World.setCell]; omega)) hy.1, hy.2⟩)); have HB10 := Lib.hid (HB9.out.trans (hst10.mono HB9.out.size)); clear bx9_paOld_0 bx9_paOld_1 sz9_paOld bx9_paNow_0 bx9_paNow_1 sz9_paNow bx9_x0_0 bx9_x0_1 sz9_x0 bx9_x1_0 bx9_x1_1 sz9_x1 HO9_R_5 HO9_0_vOld_6 HO9_1_vOld_6 HO9_0_vNow_7 HO9_1_vNow_7 HO9_R_8 HR9_vOld_6 HR9_vNow_7 ho10 hb10 hst10 HB9) | (go_at_call 13; refine (laws_eqMemo (c0 := c0_vOld_6) (c1 := c1_vOld_6) (c0q := c0_vOld_10) (c1q := c1_vOld_10) vOld hq_vOld _ (Below.size (by repeat (first | (with_reducible exact Below.refl _ _) | (with_reducible apply Below.drew) | (with_reducible refine below_drewN ?_ _) | (refine Below.setCell ?_ (by simp <;> omega) _) | (refine Below.alloc ?_ (by simp <;> omega) _)) : Below w10.heap.size w10 _)) (Below.size (by repeat (first | (with_reducible exact Below.refl _ _) | (with_reducible apply Below.drew) | (with_reducible refine below_drewN ?_ _) | (refine Below.setCell ?_ (by simp <;> omega) _) | (refine Below.alloc ?_ (by simp <;> omega) _)) : Below w10.heap.size w10 _)) ((Sl.of (HO10_0_vOld_6.out.lies (lo := 0) (hi := w10.heap.size) (fun y hy => ⟨Nat.zero_le _, by have := hy.2; omega⟩))).later (by repeat (first | (with_reducible exact Below.refl _ _) | (with_reducible apply Below.drew) | (with_reducible refine below_drewN ?_ _) | (refine Below.setCell ?_ (by simp <;> omega) _) | (refine Below.alloc ?_ (by simp <;> omega) _)) : Below w10.heap.size w10 _) (Nat.le_refl _)) ((Sl.of (HO10_1_vOld_6.out.lies (lo := 0) (hi := w10.heap.size) (fun y hy => ⟨Nat.zero_le _, by have := hy.2; omega⟩))).later (by repeat (first | (with_reducible exact Below.refl _ _) | (with_reducible apply Below.drew) | (with_reducible refine below_drewN ?_ _) | (refine Below.setCell ?_ (by simp <;> omega) _) | (refine Below.alloc ?_ (by simp <;> omega) _)) : Below w10.heap.size w10 _) (Nat.le_refl _)) ((Sl.of (HO10_0_vOld_10.out.lies (lo := 0) (hi := w10.heap.size) (fun y hy => ⟨Nat.zero_le _, by have := hy.2; omega⟩))).later (by repeat (first | (with_reducible exact Below.refl _ _) | (with_reducible apply Below.drew) | (with_reducible refine below_drewN ?_ _) | (refine Below.setCell ?_ (by simp <;> omega) _) | (refine Below.alloc ?_ (by simp <;> omega) _)) : Below w10.heap.size w10 _) (Nat.le_refl _)) ((Sl.of (HO10_1_vOld_10.out.lies (lo := 0) (hi := w10.heap.size) (fun y hy => ⟨Nat.zero_le _, by have := hy.2; omega⟩))).later (by repeat (first | (with_reducible exact Below.refl _ _) | (with_reducible apply Below.drew) | (with_reducible refine below_drewN ?_ _) | (refine Below.setCell ?_ (by simp <;> omega) _) | (refine Below.alloc ?_ (by simp <;> omega) _)) : Below w10.heap.size w10 _) (Nat.le_refl _))).mono ?_; rintro e w11 ⟨rfl, hb11⟩; have hst11 : Below w10.heap.size w10 w11 := Below.trans (by repeat (first | (with_reducible exact Below.refl _ _) | (with_reducible apply Below.drew) | (with_reducible refine below_drewN ?_ _) | (refine Below.setCell ?_ (by simp <;> omega) _) | (refine Below.alloc ?_ (by simp <;> omega) _)) : Below w10.heap.size w10 _) (hb11.mono (Below.size (by repeat (first | (with_reducible exact Below.refl _ _) | (with_reducible apply Below.drew) | (with_reducible refine below_drewN ?_ _) | (refine Below.setCell ?_ (by simp <;> omega) _) | (refine Below.alloc ?_ (by simp <;> omega) _)) : Below w10.heap.size w10 _))); have hr11 : w10.heap.size ≤ w11.heap.size := Nat.le_trans (by first | exact Nat.le_refl _ | (simp; done) | (simp; omega) | (simp [World.setCell]; done) | (simp [World.setCell]; omega)) hb11.size; have sz11_paOld : w.heap.size < w11.heap.size := Nat.lt_of_lt_of_le sz10_paOld hst11.size; have bx11_paOld_0 : w11.cell? ⟨w.heap.size, 0, none⟩ = some (.slice a0_vOld vOld.fEntries.length c0_vOld) := (hst11.cell (p := ⟨w.heap.size, 0, none⟩) sz10_paOld).trans bx10_paOld_0; have bx11_paOld_1 : w11.cell? ⟨w.heap.size, 1, none⟩ = some (.slice a1_vOld vOld.fEvaluated.length c1_vOld) := (hst11.cell (p := ⟨w.heap.size, 1, none⟩) sz10_paOld).trans bx10_paOld_1; have sz11_paNow : w.heap.size + 1 < w11.heap.size := Nat.lt_of_lt_of_le sz10_paNow hst11.size; have bx11_paNow_0 : w11.cell? ⟨w.heap.size + 1, 0, none⟩ = some (.slice a0_vNow vNow.fEntries.length c0_vNow) := (hst11.cell (p := ⟨w.heap.size + 1, 0, none⟩) sz10_paNow).trans bx10_paNow_0; have bx11_paNow_1 : w11.cell? ⟨w.heap.size + 1, 1, none⟩ = some (.slice a1_vNow vNow.fEvaluated.length c1_vNow) := (hst11.cell (p := ⟨w.heap.size + 1, 1, none⟩) sz10_paNow).trans bx10_paNow_1; have sz11_x0 : w6.heap.size < w11.heap.size := Nat.lt_of_lt_of_le sz10_x0 hst11.size; have bx11_x0_0 : w11.cell? ⟨w6.heap.size, 0, none⟩ = some (.slice a0_vOld_6 vOld.fEntries.length c0_vOld_6) := (hst11.cell (p := ⟨w6.heap.size, 0, none⟩) sz10_x0).trans bx10_x0_0; have bx11_x0_1 : w11.cell? ⟨w6.heap.size, 1, none⟩ = some (.slice a1_vOld_6 vOld.fEvaluated.length c1_vOld_6) := (hst11.cell (p := ⟨w6.heap.size, 1, none⟩) sz10_x0).trans bx10_x0_1; have sz11_x1 : w7.heap.size < w11.heap.size := Nat.lt_of_lt_of_le sz10_x1 hst11.size; have bx11_x1_0 : w11.cell? ⟨w7.heap.size, 0, none⟩ = some (.slice a0_vNow_7 vNow.fEntries.length c0_vNow_7) := (hst11.cell (p := ⟨w7.heap.size, 0, none⟩) sz10_x1).trans bx10_x1_0; have bx11_x1_1 : w11.cell? ⟨w7.heap.size, 1, none⟩ = some (.slice a1_vNow_7 vNow.fEvaluated.length c1_vNow_7) := (hst11.cell (p := ⟨w7.heap.size, 1, none⟩) sz10_x1).trans bx10_x1_1; have HO11_R_5 := Lib.hid (HO10_R_5.out.kept (Kept.of_below_all hst11)); have HO11_0_vOld_6 := Lib.hid (HO10_0_vOld_6.out.kept (Kept.of_below_all hst11)); have HO11_1_vOld_6 := Lib.hid (HO10_1_vOld_6.out.kept (Kept.of_below_all hst11)); have HO11_0_vNow_7 := Lib.hid (HO10_0_vNow_7.out.kept (Kept.of_below_all hst11)); have HO11_1_vNow_7 := Lib.hid (HO10_1_vNow_7.out.kept (Kept.of_below_all hst11)); have HO11_R_8 := Lib.hid (HO10_R_8.out.kept (Kept.of_below_all hst11)); have HO11_0_vOld_10 := Lib.hid (HO10_0_vOld_10.out.kept (Kept.of_below_all hst11)); have HO11_1_vOld_10 := Lib.hid (HO10_1_vOld_10.out.kept (Kept.of_below_all hst11)); have HR11_vOld_6 := Lib.hid (HR10_vOld_6.out.kept (Kept.of_below_all hst11)); have HR11_vNow_7 := Lib.hid (HR10_vNow_7.out.kept (Kept.of_below_all hst11)); have HB11 := Lib.hid (HB10.out.trans (hst11.mono HB10.out.size)); clear bx10_paOld_0 bx10_paOld_1 sz10_paOld bx10_paNow_0 bx10_paNow_1 sz10_paNow bx10_x0_0 bx10_x0_1 sz10_x0 bx10_x1_0 bx10_x1_1 sz10_x1 HO10_R_5 HO10_0_vOld_6 HO10_1_vOld_6 HO10_0_vNow_7 HO10_1_vNow_7 HO10_R_8 HO10_0_vOld_10 HO10_1_vOld_10 HR10_vOld_6 HR10_vNow_7 hb11 hst11 HB10)))
        all_goals
          go_wp2_with fail
          go_region_with ((first | (go_at_call 9; refine (laws_toMemo (c0 := c0_vNow) (c1 := c1_vNow) vNow hq_vNow _ (Below.size (by repeat (first | (with_reducible exact Below.refl _ _) | (with_reducible apply Below.drew) | (with_reducible refine below_drewN ?_ _) | (refine Below.setCell ?_ (by simp <;> omega) _) | (refine Below.alloc ?_ (by simp <;> omega) _)) : Below w11.heap.size w11 _)) ((HS_0_vNow.out.later (HB11.out.trans ((by repeat (first | (with_reducible exact Below.refl _ _) | (with_reducible apply Below.drew) | (with_reducible refine below_drewN ?_ _) | (refine Below.setCell ?_ (by simp <;> omega) _) | (refine Below.alloc ?_ (by simp <;> omega) _)) : Below w11.heap.size w11 _).mono HB11.out.size)) (Nat.le_refl _)).mono (Nat.le_refl _) HB11.out.size) ((HS_1_vNow.out.later (HB11.out.trans ((by repeat (first | (with_reducible exact Below.refl _ _) | (with_reducible apply Below.drew) | (with_reducible refine below_drewN ?_ _) | (refine Below.setCell ?_ (by simp <;> omega) _) | (refine Below.alloc ?_ (by simp <;> omega) _)) : Below w11.heap.size w11 _).mono HB11.out.size)) (Nat.le_refl _)).mono (Nat.le_refl _) HB11.out.size)).mono ?_; rintro e w12 ⟨a0_vNow_12, c0_vNow_12, a1_vNow_12, c1_vNow_12, rfl, ho12, hb12⟩; have hst12 : Below w11.heap.size w11 w12 := Below.trans (by repeat (first | (with_reducible exact Below.refl _ _) | (with_reducible apply Below.drew) | (with_reducible refine below_drewN ?_ _) | (refine Below.setCell ?_ (by simp <;> omega) _) | (refine Below.alloc ?_ (by simp <;> omega) _)) : Below w11.heap.size w11 _) (hb12.mono (Below.size (by repeat (first | (with_reducible exact Below.refl _ _) | (with_reducible apply Below.drew) | (with_reducible refine below_drewN ?_ _) | (refine Below.setCell ?_ (by simp <;> omega) _) | (refine Below.alloc ?_ (by simp <;> omega) _)) : Below w11.heap.size w11 _))); have hr12 : w11.heap.size ≤ w12.heap.size := Nat.le_trans (by first | exact Nat.le_refl _ | (simp; done) | (simp; omega) | (simp [World.setCell]; done) | (simp [World.setCell]; omega)) hb12.size; have sz12_paOld : w.heap.size < w12.heap.size := Nat.lt_of_lt_of_le sz11_paOld hst12.size; have bx12_paOld_0 : w12.cell? ⟨w.heap.size, 0, none⟩ = some (.slice a0_vOld vOld.fEntries.length c0_vOld) := (hst12.cell (p := ⟨w.heap.size, 0, none⟩) sz11_paOld).trans bx11_paOld_0; have bx12_paOld_1 : w12.cell? ⟨w.heap.size, 1, none⟩ = some (.slice a1_vOld vOld.fEvaluated.length c1_vOld) := (hst12.cell (p := ⟨w.heap.size, 1, none⟩) sz11_paOld).trans bx11_paOld_1; have sz12_paNow : w.heap.size + 1 < w12.heap.size := Nat.lt_of_lt_of_le sz11_paNow hst12.size; have bx12_paNow_0 : w12.cell? ⟨w.heap.size + 1, 0, none⟩ = some (.slice a0_vNow vNow.fEntries.length c0_vNow) := (hst12.cell (p := ⟨w.heap.size + 1, 0, none⟩) sz11_paNow).trans bx11_paNow_0; have bx12_paNow_1 : w12.cell? ⟨w.heap.size + 1, 1, none⟩ = some (.slice a1_vNow vNow.fEvaluated.length c1_vNow) := (hst12.cell (p := ⟨w.heap.size + 1, 1, none⟩) sz11_paNow).trans bx11_paNow_1; have sz12_x0 : w6.heap.size < w12.heap.size := Nat.lt_of_lt_of_le sz11_x0 hst12.size; have bx12_x0_0 : w12.cell? ⟨w6.heap.size, 0, none⟩ = some (.slice a0_vOld_6 vOld.fEntries.length c0_vOld_6) := (hst12.cell (p := ⟨w6.heap.size, 0, none⟩) sz11_x0).trans bx11_x0_0; have bx12_x0_1 : w12.cell? ⟨w6.heap.size, 1, none⟩ = some (.slice a1_vOld_6 vOld.fEvaluated.length c1_vOld_6) := (hst12.cell (p := ⟨w6.heap.size, 1, none⟩) sz11_x0).trans bx11_x0_1; have sz12_x1 : w7.heap.size < w12.heap.size := Nat.lt_of_lt_of_le sz11_x1 hst12.size; have bx12_x1_0 : w12.cell? ⟨w7.heap.size, 0, none⟩ = some (.slice a0_vNow_7 vNow.fEntries.length c0_vNow_7) := (hst12.cell (p := ⟨w7.heap.size, 0, none⟩) sz11_x1).trans bx11_x1_0; have bx12_x1_1 : w12.cell? ⟨w7.heap.size, 1, none⟩ = some (.slice a1_vNow_7 vNow.fEvaluated.length c1_vNow_7) := (hst12.cell (p := ⟨w7.heap.size, 1, none⟩) sz11_x1).trans bx11_x1_1; have HO12_R_5 := Lib.hid (HO11_R_5.out.kept (Kept.of_below_all hst12)); have HO12_0_vOld_6 := Lib.hid (HO11_0_vOld_6.out.kept (Kept.of_below_all hst12)); have HO12_1_vOld_6 := Lib.hid (HO11_1_vOld_6.out.kept (Kept.of_below_all hst12)); have HO12_0_vNow_7 := Lib.hid (HO11_0_vNow_7.out.kept (Kept.of_below_all hst12)); have HO12_1_vNow_7 := Lib.hid (HO11_1_vNow_7.out.kept (Kept.of_below_all hst12)); have HO12_R_8 := Lib.hid (HO11_R_8.out.kept (Kept.of_below_all hst12)); have HO12_0_vOld_10 := Lib.hid (HO11_0_vOld_10.out.kept (Kept.of_below_all hst12)); have HO12_1_vOld_10 := Lib.hid (HO11_1_vOld_10.out.kept (Kept.of_below_all hst12)); have HR12_vOld_6 := Lib.hid (HR11_vOld_6.out.kept (Kept.of_below_all hst12)); have HR12_vNow_7 := Lib.hid (HR11_vNow_7.out.kept (Kept.of_below_all hst12)); have HO12_0_vNow_12 := Lib.hid (show Own w12 (fun y => w11.heap.size ≤ y ∧ y < w12.heap.size) (.sl 9 vNow.fEntries.length (fun k => DEntry.ct (vNow.fEntries.getD k default))) (.slice a0_vNow_12 vNow.fEntries.length c0_vNow_12) from Own.sub (F := fun y => _ ≤ y ∧ y < _) (OwnR.at ho12 0 (by decide)) (fun y hy => ⟨Nat.le_trans (by first | exact Nat.le_refl _ | (simp; done) | (simp; omega) | (simp [World.setCell]; done) | (simp [World.setCell]; omega)) hy.1, hy.2⟩)); have HO12_1_vNow_12 := Lib.hid (show Own w12 (fun y => w11.heap.size ≤ y ∧ y < w12.heap.size) (.sl 2 vNow.fEvaluated.length (fun k => DInstance.ct (vNow.fEvaluated.getD k default))) (.slice a1_vNow_12 vNow.fEvaluated.length c1_vNow_12) from Own.sub (F := fun y => _ ≤ y ∧ y < _) (OwnR.at ho12 1 (by decide)) (fun y hy => ⟨Nat.le_trans (by first | exact Nat.le_refl _ | (simp; done) | (simp; omega) | (simp [World.setCell]; done) | (simp [World.setCell]; omega)) hy.1, hy.2⟩)); have HB12 := Lib.hid (HB11.out.trans (hst12.mono HB11.out.size)); clear bx11_paOld_0 bx11_paOld_1 sz11_paOld bx11_paNow_0 bx11_paNow_1 sz11_paNow bx11_x0_0 bx11_x0_1 sz11_x0 bx11_x1_0 bx11_x1_1 sz11_x1 HO11_R_5 HO11_0_vOld_6 HO11_1_vOld_6 HO11_0_vNow_7 HO11_1_vNow_7 HO11_R_8 HO11_0_vOld_10 HO11_1_vOld_10 HR11_vOld_6 HR11_vNow_7 ho12 hb12 hst12 HB11) | (go_at_call 13; refine (laws_eqMemo (c0 := c0_vNow_7) (c1 := c1_vNow_7) (c0q := c0_vNow_12) (c1q := c1_vNow_12) vNow hq_vNow _ (Below.size (by repeat (first | (with_reducible exact Below.refl _ _) | (with_reducible apply Below.drew) | (with_reducible refine below_drewN ?_ _) | (refine Below.setCell ?_ (by simp <;> omega) _) | (refine Below.alloc ?_ (by simp <;> omega) _)) : Below w12.heap.size w12 _)) (Below.size (by repeat (first | (with_reducible exact Below.refl _ _) | (with_reducible apply Below.drew) | (with_reducible refine below_drewN ?_ _) | (refine Below.setCell ?_ (by simp <;> omega) _) | (refine Below.alloc ?_ (by simp <;> omega) _)) : Below w12.heap.size w12 _)) ((Sl.of (HO12_0_vNow_7.out.lies (lo := 0) (hi := w12.heap.size) (fun y hy => ⟨Nat.zero_le _, by have := hy.2; omega⟩))).later (by repeat (first | (with_reducible exact Below.refl _ _) | (with_reducible apply Below.drew) | (with_reducible refine below_drewN ?_ _) | (refine Below.setCell ?_ (by simp <;> omega) _) | (refine Below.alloc ?_ (by simp <;> omega) _)) : Below w12.heap.size w12 _) (Nat.le_refl _)) ((Sl.of (HO12_1_vNow_7.out.lies (lo := 0) (hi := w12.heap.size) (fun y hy => ⟨Nat.zero_le _, by have := hy.2; omega⟩))).later (by repeat (first | (with_reducible exact Below.refl _ _) | (with_reducible apply Below.drew) | (with_reducible refine below_drewN ?_ _) | (refine Below.setCell ?_ (by simp <;> omega) _) | (refine Below.alloc ?_ (by simp <;> omega) _)) : Below w12.heap.size w12 _) (Nat.le_refl _)) ((Sl.of (HO12_0_vNow_12.out.lies (lo := 0) (hi := w12.heap.size) (fun y hy => ⟨Nat.zero_le _, by have := hy.2; omega⟩))).later (by repeat (first | (with_reducible exact Below.refl _ _) | (with_reducible apply Below.drew) | (with_reducible refine below_drewN ?_ _) | (refine Below.setCell ?_ (by simp <;> omega) _) | (refine Below.alloc ?_ (by simp <;> omega) _)) : Below w12.heap.size w12 _) (Nat.le_refl _)) ((Sl.of (HO12_1_vNow_12.out.lies (lo := 0) (hi := w12.heap.size) (fun y hy => ⟨Nat.zero_le _, by have := hy.2; omega⟩))).later (by repeat (first | (with_reducible exact Below.refl _ _) | (with_reducible apply Below.drew) | (with_reducible refine below_drewN ?_ _) | (refine Below.setCell ?_ (by simp <;> omega) _) | (refine Below.alloc ?_ (by simp <;> omega) _)) : Below w12.heap.size w12 _) (Nat.le_refl _))).mono ?_; rintro e w13 ⟨rfl, hb13⟩; have hst13 : Below w12.heap.size w12 w13 := Below.trans (by repeat (first | (with_reducible exact Below.refl _ _) | (with_reducible apply Below.drew) | (with_reducible refine below_drewN ?_ _) | (refine Below.setCell ?_ (by simp <;> omega) _) | (refine Below.alloc ?_ (by simp <;> omega) _)) : Below w12.heap.size w12 _) (hb13.mono (Below.size (by repeat (first | (with_reducible exact Below.refl _ _) | (with_reducible apply Below.drew) | (with_reducible refine below_drewN ?_ _) | (refine Below.setCell ?_ (by simp <;> omega) _) | (refine Below.alloc ?_ (by simp <;> omega) _)) : Below w12.heap.size w12 _))); have hr13 : w12.heap.size ≤ w13.heap.size := Nat.le_trans (by first | exact Nat.le_refl _ | (simp; done) | (simp; omega) | (simp [World.setCell]; done) | (simp [World.setCell]; omega)) hb13.size; have sz13_paOld : w.heap.size < w13.heap.size := Nat.lt_of_lt_of_le sz12_paOld hst13.size; have bx13_paOld_0 : w13.cell? ⟨w.heap.size, 0, none⟩ = some (.slice a0_vOld vOld.fEntries.length c0_vOld) := (hst13.cell (p := ⟨w.heap.size, 0, none⟩) sz12_paOld).trans bx12_paOld_0; have bx13_paOld_1 : w13.cell? ⟨w.heap.size, 1, none⟩ = some (.slice a1_vOld vOld.fEvaluated.length c1_vOld) := (hst13.cell (p := ⟨w.heap.size, 1, none⟩) sz12_paOld).trans bx12_paOld_1; have sz13_paNow : w.heap.size + 1 < w13.heap.size := Nat.lt_of_lt_of_le sz12_paNow hst13.size; have bx13_paNow_0 : w13.cell? ⟨w.heap.size + 1, 0, none⟩ = some (.slice a0_vNow vNow.fEntries.length c0_vNow) := (hst13.cell (p := ⟨w.heap.size + 1, 0, none⟩) sz12_paNow).trans bx12_paNow_0; have bx13_paNow_1 : w13.cell? ⟨w.heap.size + 1, 1, none⟩ = some (.slice a1_vNow vNow.fEvaluated.length c1_vNow) := (hst13.cell (p := ⟨w.heap.size + 1, 1, none⟩) sz12_paNow).trans bx12_paNow_1; have sz13_x0 : w6.heap.size < w13.heap.size := Nat.lt_of_lt_of_le sz12_x0 hst13.size; have bx13_x0_0 : w13.cell? ⟨w6.heap.size, 0, none⟩ = some (.slice a0_vOld_6 vOld.fEntries.length c0_vOld_6) := (hst13.cell (p := ⟨w6.heap.size, 0, none⟩) sz12_x0).trans bx12_x0_0; have bx13_x0_1 : w13.cell? ⟨w6.heap.size, 1, none⟩ = some (.slice a1_vOld_6 vOld.fEvaluated.length c1_vOld_6) := (hst13.cell (p := ⟨w6.heap.size, 1, none⟩) sz12_x0).trans bx12_x0_1; have sz13_x1 : w7.heap.size < w13.heap.size := Nat.lt_of_lt_of_le sz12_x1 hst13.size; have bx13_x1_0 : w13.cell? ⟨w7.heap.size, 0, none⟩ = some (.slice a0_vNow_7 vNow.fEntries.length c0_vNow_7) := (hst13.cell (p := ⟨w7.heap.size, 0, none⟩) sz12_x1).trans bx12_x1_0; have bx13_x1_1 : w13.cell? ⟨w7.heap.size, 1, none⟩ = some (.slice a1_vNow_7 vNow.fEvaluated.length c1_vNow_7) := (hst13.cell (p := ⟨w7.heap.size, 1, none⟩) sz12_x1).trans bx12_x1_1; have HO13_R_5 := Lib.hid (HO12_R_5.out.kept (Kept.of_below_all hst13)); have HO13_0_vOld_6 := Lib.hid (HO12_0_vOld_6.out.kept (Kept.of_below_all hst13)); have HO13_1_vOld_6 := Lib.hid (HO12_1_vOld_6.out.kept (Kept.of_below_all hst13)); have HO13_0_vNow_7 := Lib.hid (HO12_0_vNow_7.out.kept (Kept.of_below_all hst13)); have HO13_1_vNow_7 := Lib.hid (HO12_1_vNow_7.out.kept (Kept.of_below_all hst13)); have HO13_R_8 := Lib.hid (HO12_R_8.out.kept (Kept.of_below_all hst13)); have HO13_0_vOld_10 := Lib.hid (HO12_0_vOld_10.out.kept (Kept.of_below_all hst13)); have HO13_1_vOld_10 := Lib.hid (HO12_1_vOld_10.out.kept (Kept.of_below_all hst13)); have HO13_0_vNow_12 := Lib.hid (HO12_0_vNow_12.out.kept (Kept.of_below_all hst13)); have HO13_1_vNow_12 := Lib.hid (HO12_1_vNow_12.out.kept (Kept.of_below_all hst13)); have HR13_vOld_6 := Lib.hid (HR12_vOld_6.out.kept (Kept.of_below_all hst13)); have HR13_vNow_7 := Lib.hid (HR12_vNow_7.out.kept (Kept.of_below_all hst13)); have HB13 := Lib.hid (HB12.out.trans (hst13.mono HB12.out.size)); clear bx12_paOld_0 bx12_paOld_1 sz12_paOld bx12_paNow_0 bx12_paNow_1 sz12_paNow bx12_x0_0 bx12_x0_1 sz12_x0 bx12_x1_0 bx12_x1_1 sz12_x1 HO12_R_5 HO12_0_vOld_6 HO12_1_vOld_6 HO12_0_vNow_7 HO12_1_vNow_7 HO12_R_8 HO12_0_vOld_10 HO12_1_vOld_10 HO12_0_vNow_12 HO12_1_vNow_12 HR12_vOld_6 HR12_vNow_7 hb13 hst13 HB12)))
          all_goals
            go_wp2_with fail
            refine (wmark_Memo (c0 := c0_vOld_6) (c1 := c1_vOld_6) vOld hq_vOld 1 (by omega) (by omega) _ (fun y hy => Nat.lt_of_lt_of_le (show y < w13.heap.size by have := hy.2; omega) (Below.size (by repeat (first | (with_reducible exact Below.refl _ _) | (with_reducible apply Below.drew) | (with_reducible refine below_drewN ?_ _) | (refine Below.setCell ?_ (by simp <;> omega) _) | (refine Below.alloc ?_ (by simp <;> omega) _)) : Below w13.heap.size w13 _))) (HR13_vOld_6.out.kept (Kept.of_below (by repeat (first | (with_reducible exact Below.refl _ _) | (with_reducible apply Below.drew) | (with_reducible refine below_drewN ?_ _) | (refine Below.setCell ?_ (by simp <;> omega) _) | (refine Below.alloc ?_ (by simp <;> omega) _)) : Below w13.heap.size w13 _) (fun y hy => by have := hy.2; omega)))).mono ?_
            rintro e w14 ⟨k14, rfl, hka14, hkb14, hw14⟩
            have hkz14 : 1 ≤ k14 ∧ k14 ≤ 4294967296 := by omega
            have hst14 : WritesF (fun y => w5.heap.size ≤ y ∧ y < w6.heap.size) w13 w14 := hw14.of_below (by repeat (first | (with_reducible exact Below.refl _ _) | (with_reducible apply Below.drew) | (with_reducible refine below_drewN ?_ _) | (refine Below.setCell ?_ (by simp <;> omega) _) | (refine Below.alloc ?_ (by simp <;> omega) _)) : Below w13.heap.size w13 _)
            have hr14 : w13.heap.size ≤ w14.heap.size := Nat.le_trans (by first | exact Nat.le_refl _ | (simp; done) | (simp; omega) | (simp [World.setCell]; done) | (simp [World.setCell]; omega)) hw14.size
            have sz14_paOld : w.heap.size < w14.heap.size := Nat.lt_of_lt_of_le sz13_paOld hst14.size
            have bx14_paOld_0 : w14.cell? ⟨w.heap.size, 0, none⟩ = some (.slice a0_vOld vOld.fEntries.length c0_vOld) := (World.cell?_of_block (a := ⟨w.heap.size, 0, none⟩) (hst14.block (w.heap.size) sz13_paOld (fun hf => by have h1 := hf.1; have h2 := hf.2; omega))).trans bx13_paOld_0
            have bx14_paOld_1 : w14.cell? ⟨w.heap.size, 1, none⟩ = some (.slice a1_vOld vOld.fEvaluated.length c1_vOld) := (World.cell?_of_block (a := ⟨w.heap.size, 1, none⟩) (hst14.block (w.heap.size) sz13_paOld (fun hf => by have h1 := hf.1; have h2 := hf.2; omega))).trans bx13_paOld_1
            have sz14_paNow : w.heap.size + 1 < w14.heap.size := Nat.lt_of_lt_of_le sz13_paNow hst14.size
            have bx14_paNow_0 : w14.cell? ⟨w.heap.size + 1, 0, none⟩ = some (.slice a0_vNow vNow.fEntries.length c0_vNow) := (World.cell?_of_block (a := ⟨w.heap.size + 1, 0, none⟩) (hst14.block (w.heap.size + 1) sz13_paNow (fun hf => by have h1 := hf.1; have h2 := hf.2; omega))).trans bx13_paNow_0
            have bx14_paNow_1 : w14.cell? ⟨w.heap.size + 1, 1, none⟩ = some (.slice a1_vNow vNow.fEvaluated.length c1_vNow) := (World.cell?_of_block (a := ⟨w.heap.size + 1, 1, none⟩) (hst14.block (w.heap.size + 1) sz13_paNow (fun hf => by have h1 := hf.1; have h2 := hf.2; omega))).trans bx13_paNow_1
            have sz14_x0 : w6.heap.size < w14.heap.size := Nat.lt_of_lt_of_le sz13_x0 hst14.size
            have bx14_x0_0 : w14.cell? ⟨w6.heap.size, 0, none⟩ = some (.slice a0_vOld_6 vOld.fEntries.length c0_vOld_6) := (World.cell?_of_block (a := ⟨w6.heap.size, 0, none⟩) (hst14.block (w6.heap.size) sz13_x0 (fun hf => by have h1 := hf.1; have h2 := hf.2; omega))).trans bx13_x0_0
            have bx14_x0_1 : w14.cell? ⟨w6.heap.size, 1, none⟩ = some (.slice a1_vOld_6 vOld.fEvaluated.length c1_vOld_6) := (World.cell?_of_block (a := ⟨w6.heap.size, 1, none⟩) (hst14.block (w6.heap.size) sz13_x0 (fun hf => by have h1 := hf.1; have h2 := hf.2; omega))).trans bx13_x0_1
            have sz14_x1 : w7.heap.size < w14.heap.size := Nat.lt_of_lt_of_le sz13_x1 hst14.size
            have bx14_x1_0 : w14.cell? ⟨w7.heap.size, 0, none⟩ = some (.slice a0_vNow_7 vNow.fEntries.length c0_vNow_7) := (World.cell?_of_block (a := ⟨w7.heap.size, 0, none⟩) (hst14.block (w7.heap.size) sz13_x1 (fun hf => by have h1 := hf.1; have h2 := hf.2; omega))).trans bx13_x1_0
            have bx14_x1_1 : w14.cell? ⟨w7.heap.size, 1, none⟩ = some (.slice a1_vNow_7 vNow.fEvaluated.length c1_vNow_7) := (World.cell?_of_block (a := ⟨w7.heap.size, 1, none⟩) (hst14.block (w7.heap.size) sz13_x1 (fun hf => by have h1 := hf.1; have h2 := hf.2; omega))).trans bx13_x1_1
            have HO14_R_5 := Lib.hid (HO13_R_5.out.kept (hst14.kept (fun y hy hf => by have h1 := hy.1; have h2 := hy.2; have h3 := hf.1; have h4 := hf.2; omega)))
            have HO14_0_vNow_7 := Lib.hid (HO13_0_vNow_7.out.kept (hst14.kept (fun y hy hf => by have h1 := hy.1; have h2 := hy.2; have h3 := hf.1; have h4 := hf.2; omega)))
            have HO14_1_vNow_7 := Lib.hid (HO13_1_vNow_7.out.kept (hst14.kept (fun y hy hf => by have h1 := hy.1; have h2 := hy.2; have h3 := hf.1; have h4 := hf.2; omega)))
            have HO14_R_8 := Lib.hid (HO13_R_8.out.kept (hst14.kept (fun y hy hf => by have h1 := hy.1; have h2 := hy.2; have h3 := hf.1; have h4 := hf.2; omega)))
            have HO14_0_vOld_10 := Lib.hid (HO13_0_vOld_10.out.kept (hst14.kept (fun y hy hf => by have h1 := hy.1; have h2 := hy.2; have h3 := hf.1; have h4 := hf.2; omega)))
            have HO14_1_vOld_10 := Lib.hid (HO13_1_vOld_10.out.kept (hst14.kept (fun y hy hf => by have h1 := hy.1; have h2 := hy.2; have h3 := hf.1; have h4 := hf.2; omega)))
            have HO14_0_vNow_12 := Lib.hid (HO13_0_vNow_12.out.kept (hst14.kept (fun y hy hf => by have h1 := hy.1; have h2 := hy.2; have h3 := hf.1; have h4 := hf.2; omega)))
            have HO14_1_vNow_12 := Lib.hid (HO13_1_vNow_12.out.kept (hst14.kept (fun y hy hf => by have h1 := hy.1; have h2 := hy.2; have h3 := hf.1; have h4 := hf.2; omega)))
            have HR14_vNow_7 := Lib.hid (HR13_vNow_7.out.kept (hst14.kept (fun y hy hf => by have h1 := hy.1; have h2 := hy.2; have h3 := hf.1; have h4 := hf.2; omega)))
            have HB14 := Lib.hid (HB13.out.trans (hst14.below (fun y hy => by have := hy.1; omega) HB13.out.size))
            clear bx13_paOld_0 bx13_paOld_1 sz13_paOld bx13_paNow_0 bx13_paNow_1 sz13_paNow bx13_x0_0 bx13_x0_1 sz13_x0 bx13_x1_0 bx13_x1_1 sz13_x1 HO13_0_vOld_6 HO13_1_vOld_6 HO13_R_5 HO13_0_vNow_7 HO13_1_vNow_7 HO13_R_8 HO13_0_vOld_10 HO13_1_vOld_10 HO13_0_vNow_12 HO13_1_vNow_12 HR13_vOld_6 HR13_vNow_7 hw14 hst14 HB13
            go_wp2_with fail
            refine (wmark_Memo (c0 := c0_vNow_7) (c1 := c1_vNow_7) vNow hq_vNow k14 (by omega) (by omega) _ (fun y hy => Nat.lt_of_lt_of_le (show y < w14.heap.size by have := hy.2; omega) (Below.size (by repeat (first | (with_reducible exact Below.refl _ _) | (with_reducible apply Below.drew) | (with_reducible refine below_drewN ?_ _) | (refine Below.setCell ?_ (by simp <;> omega) _) | (refine Below.alloc ?_ (by simp <;> omega) _)) : Below w14.heap.size w14 _))) (HR14_vNow_7.out.kept (Kept.of_below (by repeat (first | (with_reducible exact Below.refl _ _) | (with_reducible apply Below.drew) | (with_reducible refine below_drewN ?_ _) | (refine Below.setCell ?_ (by simp <;> omega) _) | (refine Below.alloc ?_ (by simp <;> omega) _)) : Below w14.heap.size w14 _) (fun y hy => by have := hy.2; omega)))).mono ?_
            rintro e w15 ⟨k15, rfl, hka15, hkb15, hw15⟩
            have hkz15 : 1 ≤ k15 ∧ k15 ≤ 4294967296 := by omega
            have hst15 : WritesF (fun y => w6.heap.size + 1 ≤ y ∧ y < w7.heap.size) w14 w15 := hw15.of_below (by repeat (first | (with_reducible exact Below.refl _ _) | (with_reducible apply Below.drew) | (with_reducible refine below_drewN ?_ _) | (refine Below.setCell ?_ (by simp <;> omega) _) | (refine Below.alloc ?_ (by simp <;> omega) _)) : Below w14.heap.size w14 _)
            have hr15 : w14.heap.size ≤ w15.heap.size := Nat.le_trans (by first | exact Nat.le_refl _ | (simp; done) | (simp; omega) | (simp [World.setCell]; done) | (simp [World.setCell]; omega)) hw15.size
            have sz15_paOld : w.heap.size < w15.heap.size := Nat.lt_of_lt_of_le sz14_paOld hst15.size
            have bx15_paOld_0 : w15.cell? ⟨w.heap.size, 0, none⟩ = some (.slice a0_vOld vOld.fEntries.length c0_vOld) := (World.cell?_of_block (a := ⟨w.heap.size, 0, none⟩) (hst15.block (w.heap.size) sz14_paOld (fun hf => by have h1 := hf.1; have h2 := hf.2; omega))).trans bx14_paOld_0
            have bx15_paOld_1 : w15.cell? ⟨w.heap.size, 1, none⟩ = some (.slice a1_vOld vOld.fEvaluated.length c1_vOld) := (World.cell?_of_block (a := ⟨w.heap.size, 1, none⟩) (hst15.block (w.heap.size) sz14_paOld (fun hf => by have h1 := hf.1; have h2 := hf.2; omega))).trans bx14_paOld_1
            have sz15_paNow : w.heap.size + 1 < w15.heap.size := Nat.lt_of_lt_of_le sz14_paNow hst15.size
            have bx15_paNow_0 : w15.cell? ⟨w.heap.size + 1, 0, none⟩ = some (.slice a0_vNow vNow.fEntries.length c0_vNow) := (World.cell?_of_block (a := ⟨w.heap.size + 1, 0, none⟩) (hst15.block (w.heap.size + 1) sz14_paNow (fun hf => by have h1 := hf.1; have h2 := hf.2; omega))).trans bx14_paNow_0
            have bx15_paNow_1 : w15.cell? ⟨w.heap.size + 1, 1, none⟩ = some (.slice a1_vNow vNow.fEvaluated.length c1_vNow) := (World.cell?_of_block (a := ⟨w.heap.size + 1, 1, none⟩) (hst15.block (w.heap.size + 1) sz14_paNow (fun hf => by have h1 := hf.1; have h2 := hf.2; omega))).trans bx14_paNow_1
            have sz15_x0 : w6.heap.size < w15.heap.size := Nat.lt_of_lt_of_le sz14_x0 hst15.size
            have bx15_x0_0 : w15.cell? ⟨w6.heap.size, 0, none⟩ = some (.slice a0_vOld_6 vOld.fEntries.length c0_vOld_6) := (World.cell?_of_block (a := ⟨w6.heap.size, 0, none⟩) (hst15.block (w6.heap.size) sz14_x0 (fun hf => by have h1 := hf.1; have h2 := hf.2; omega))).trans bx14_x0_0
            have bx15_x0_1 : w15.cell? ⟨w6.heap.size, 1, none⟩ = some (.slice a1_vOld_6 vOld.fEvaluated.length c1_vOld_6) := (World.cell?_of_block (a := ⟨w6.heap.size, 1, none⟩) (hst15.block (w6.heap.size) sz14_x0 (fun hf => by have h1 := hf.1; have h2 := hf.2; omega))).trans bx14_x0_1
            have sz15_x1 : w7.heap.size < w15.heap.size := Nat.lt_of_lt_of_le sz14_x1 hst15.size
            have bx15_x1_0 : w15.cell? ⟨w7.heap.size, 0, none⟩ = some (.slice a0_vNow_7 vNow.fEntries.length c0_vNow_7) := (World.cell?_of_block (a := ⟨w7.heap.size, 0, none⟩) (hst15.block (w7.heap.size) sz14_x1 (fun hf => by have h1 := hf.1; have h2 := hf.2; omega))).trans bx14_x1_0
            have bx15_x1_1 : w15.cell? ⟨w7.heap.size, 1, none⟩ = some (.slice a1_vNow_7 vNow.fEvaluated.length c1_vNow_7) := (World.cell?_of_block (a := ⟨w7.heap.size, 1, none⟩) (hst15.block (w7.heap.size) sz14_x1 (fun hf => by have h1 := hf.1; have h2 := hf.2; omega))).trans bx14_x1_1
            have HO15_R_5 := Lib.hid (HO14_R_5.out.kept (hst15.kept (fun y hy hf => by have h1 := hy.1; have h2 := hy.2; have h3 := hf.1; have h4 := hf.2; omega)))
            have HO15_R_8 := Lib.hid (HO14_R_8.out.kept (hst15.kept (fun y hy hf => by have h1 := hy.1; have h2 := hy.2; have h3 := hf.1; have h4 := hf.2; omega)))
            have HO15_0_vOld_10 := Lib.hid (HO14_0_vOld_10.out.kept (hst15.kept (fun y hy hf => by have h1 := hy.1; have h2 := hy.2; have h3 := hf.1; have h4 := hf.2; omega)))
            have HO15_1_vOld_10 := Lib.hid (HO14_1_vOld_10.out.kept (hst15.kept (fun y hy hf => by have h1 := hy.1; have h2 := hy.2; have h3 := hf.1; have h4 := hf.2; omega)))
            have HO15_0_vNow_12 := Lib.hid (HO14_0_vNow_12.out.kept (hst15.kept (fun y hy hf => by have h1 := hy.1; have h2 := hy.2; have h3 := hf.1; have h4 := hf.2; omega)))
            have HO15_1_vNow_12 := Lib.hid (HO14_1_vNow_12.out.kept (hst15.kept (fun y hy hf => by have h1 := hy.1; have h2 := hy.2; have h3 := hf.1; have h4 := hf.2; omega)))
            have HB15 := Lib.hid (HB14.out.trans (hst15.below (fun y hy => by have := hy.1; omega) HB14.out.size))
            clear bx14_paOld_0 bx14_paOld_1 sz14_paOld bx14_paNow_0 bx14_paNow_1 sz14_paNow bx14_x0_0 bx14_x0_1 sz14_x0 bx14_x1_0 bx14_x1_1 sz14_x1 HO14_0_vNow_7 HO14_1_vNow_7 HO14_R_5 HO14_R_8 HO14_0_vOld_10 HO14_1_vOld_10 HO14_0_vNow_12 HO14_1_vNow_12 HR14_vNow_7 hw15 hst15 HB14
            go_wp2_with fail
            refine (laws_eqInstanceS (cap := c_R_8) (cap2 := c_R_5) (changed vOld.fEntries vNow.fEntries) hq_R _ (Below.size (by repeat (first | (with_reducible exact Below.refl _ _) | (with_reducible apply Below.drew) | (with_reducible refine below_drewN ?_ _) | (refine Below.setCell ?_ (by simp <;> omega) _) | (refine Below.alloc ?_ (by simp <;> omega) _)) : Below w15.heap.size w15 _)) (Below.size (by repeat (first | (with_reducible exact Below.refl _ _) | (with_reducible apply Below.drew) | (with_reducible refine below_drewN ?_ _) | (refine Below.setCell ?_ (by simp <;> omega) _) | (refine Below.alloc ?_ (by simp <;> omega) _)) : Below w15.heap.size w15 _)) ((Sl.of (HO15_R_8.out.lies (lo := 0) (hi := w15.heap.size) (fun y hy => ⟨Nat.zero_le _, by have := hy.2; omega⟩))).later (by repeat (first | (with_reducible exact Below.refl _ _) | (with_reducible apply Below.drew) | (with_reducible refine below_drewN ?_ _) | (refine Below.setCell ?_ (by simp <;> omega) _) | (refine Below.alloc ?_ (by simp <;> omega) _)) : Below w15.heap.size w15 _) (Nat.le_refl _)) ((Sl.of (HO15_R_5.out.lies (lo := 0) (hi := w15.heap.size) (fun y hy => ⟨Nat.zero_le _, by have := hy.2; omega⟩))).later (by repeat (first | (with_reducible exact Below.refl _ _) | (with_reducible apply Below.drew) | (with_reducible refine below_drewN ?_ _) | (refine Below.setCell ?_ (by simp <;> omega) _) | (refine Below.alloc ?_ (by simp <;> omega) _)) : Below w15.heap.size w15 _) (Nat.le_refl _))).mono ?_
            rintro e w16 ⟨rfl, hb16⟩
            have hst16 : Below w15.heap.size w15 w16 := Below.trans (by repeat (first | (with_reducible exact Below.refl _ _) | (with_reducible apply Below.drew) | (with_reducible refine below_drewN ?_ _) | (refine Below.setCell ?_ (by simp <;> omega) _) | (refine Below.alloc ?_ (by simp <;> omega) _)) : Below w15.heap.size w15 _) (hb16.mono (Below.size (by repeat (first | (with_reducible exact Below.refl _ _) | (with_reducible apply Below.drew) | (with_reducible refine below_drewN ?_ _) | (refine Below.setCell ?_ (by simp <;> omega) _) | (refine Below.alloc ?_ (by simp <;> omega) _)) : Below w15.heap.size w15 _)))
            have hr16 : w15.heap.size ≤ w16.heap.size := Nat.le_trans (by first | exact Nat.le_refl _ | (simp; done) | (simp; omega) | (simp [World.setCell]; done) | (simp [World.setCell]; omega)) hb16.size
            have sz16_paOld : w.heap.size < w16.heap.size := Nat.lt_of_lt_of_le sz15_paOld hst16.size
            have bx16_paOld_0 : w16.cell? ⟨w.heap.size, 0, none⟩ = some (.slice a0_vOld vOld.fEntries.length c0_vOld) := (hst16.cell (p := ⟨w.heap.size, 0, none⟩) sz15_paOld).trans bx15_paOld_0
            have bx16_paOld_1 : w16.cell? ⟨w.heap.size, 1, none⟩ = some (.slice a1_vOld vOld.fEvaluated.length c1_vOld) := (hst16.cell (p := ⟨w.heap.size, 1, none⟩) sz15_paOld).trans bx15_paOld_1
            have sz16_paNow : w.heap.size + 1 < w16.heap.size := Nat.lt_of_lt_of_le sz15_paNow hst16.size
            have bx16_paNow_0 : w16.cell? ⟨w.heap.size + 1, 0, none⟩ = some (.slice a0_vNow vNow.fEntries.length c0_vNow) := (hst16.cell (p := ⟨w.heap.size + 1, 0, none⟩) sz15_paNow).trans bx15_paNow_0
            have bx16_paNow_1 : w16.cell? ⟨w.heap.size + 1, 1, none⟩ = some (.slice a1_vNow vNow.fEvaluated.length c1_vNow) := (hst16.cell (p := ⟨w.heap.size + 1, 1, none⟩) sz15_paNow).trans bx15_paNow_1
            have sz16_x0 : w6.heap.size < w16.heap.size := Nat.lt_of_lt_of_le sz15_x0 hst16.size
            have bx16_x0_0 : w16.cell? ⟨w6.heap.size, 0, none⟩ = some (.slice a0_vOld_6 vOld.fEntries.length c0_vOld_6) := (hst16.cell (p := ⟨w6.heap.size, 0, none⟩) sz15_x0).trans bx15_x0_0
            have bx16_x0_1 : w16.cell? ⟨w6.heap.size, 1, none⟩ = some (.slice a1_vOld_6 vOld.fEvaluated.length c1_vOld_6) := (hst16.cell (p := ⟨w6.heap.size, 1, none⟩) sz15_x0).trans bx15_x0_1
            have sz16_x1 : w7.heap.size < w16.heap.size := Nat.lt_of_lt_of_le sz15_x1 hst16.size
            have bx16_x1_0 : w16.cell? ⟨w7.heap.size, 0, none⟩ = some (.slice a0_vNow_7 vNow.fEntries.length c0_vNow_7) := (hst16.cell (p := ⟨w7.heap.size, 0, none⟩) sz15_x1).trans bx15_x1_0
            have bx16_x1_1 : w16.cell? ⟨w7.heap.size, 1, none⟩ = some (.slice a1_vNow_7 vNow.fEvaluated.length c1_vNow_7) := (hst16.cell (p := ⟨w7.heap.size, 1, none⟩) sz15_x1).trans bx15_x1_1
            have HO16_R_5 := Lib.hid (HO15_R_5.out.kept (Kept.of_below_all hst16))
            have HO16_R_8 := Lib.hid (HO15_R_8.out.kept (Kept.of_below_all hst16))
            have HO16_0_vOld_10 := Lib.hid (HO15_0_vOld_10.out.kept (Kept.of_below_all hst16))
            have HO16_1_vOld_10 := Lib.hid (HO15_1_vOld_10.out.kept (Kept.of_below_all hst16))
            have HO16_0_vNow_12 := Lib.hid (HO15_0_vNow_12.out.kept (Kept.of_below_all hst16))
            have HO16_1_vNow_12 := Lib.hid (HO15_1_vNow_12.out.kept (Kept.of_below_all hst16))
            have HB16 := Lib.hid (HB15.out.trans (hst16.mono HB15.out.size))
            clear bx15_paOld_0 bx15_paOld_1 sz15_paOld bx15_paNow_0 bx15_paNow_1 sz15_paNow bx15_x0_0 bx15_x0_1 sz15_x0 bx15_x1_0 bx15_x1_1 sz15_x1 HO15_R_5 HO15_R_8 HO15_0_vOld_10 HO15_1_vOld_10 HO15_0_vNow_12 HO15_1_vNow_12 hb16 hst16 HB15
            go_wp2_with fail
            refine (laws_markInstanceS (cap := c_R_8) (changed vOld.fEntries vNow.fEntries) (by have h1 := changedM_len hq_vNow vOld.fEntries; omega) 1 (by omega) (by have h1 := changedM_len hq_vNow vOld.fEntries; omega) _ (HO16_R_8.out.kept (Kept.of_below (by repeat (first | (with_reducible exact Below.refl _ _) | (with_reducible apply Below.drew) | (with_reducible refine below_drewN ?_ _) | (refine Below.setCell ?_ (by simp <;> omega) _) | (refine Below.alloc ?_ (by simp <;> omega) _)) : Below w16.heap.size w16 _) (fun y hy => by have := hy.2; omega)))).mono ?_
            rintro e w17 ⟨rfl, ho17, hw17⟩
            have hst17 : WritesF (fun y => w7.heap.size + 1 ≤ y ∧ y < w8.heap.size) w16 w17 := hw17.of_below (by repeat (first | (with_reducible exact Below.refl _ _) | (with_reducible apply Below.drew) | (with_reducible refine below_drewN ?_ _) | (refine Below.setCell ?_ (by simp <;> omega) _) | (refine Below.alloc ?_ (by simp <;> omega) _)) : Below w16.heap.size w16 _)
            have hr17 : w16.heap.size ≤ w17.heap.size := Nat.le_trans (by first | exact Nat.le_refl _ | (simp; done) | (simp; omega) | (simp [World.setCell]; done) | (simp [World.setCell]; omega)) hw17.size
            have sz17_paOld : w.heap.size < w17.heap.size := Nat.lt_of_lt_of_le sz16_paOld hst17.size
            have bx17_paOld_0 : w17.cell? ⟨w.heap.size, 0, none⟩ = some (.slice a0_vOld vOld.fEntries.length c0_vOld) := (World.cell?_of_block (a := ⟨w.heap.size, 0, none⟩) (hst17.block (w.heap.size) sz16_paOld (fun hf => by have h1 := hf.1; have h2 := hf.2; omega))).trans bx16_paOld_0
            have bx17_paOld_1 : w17.cell? ⟨w.heap.size, 1, none⟩ = some (.slice a1_vOld vOld.fEvaluated.length c1_vOld) := (World.cell?_of_block (a := ⟨w.heap.size, 1, none⟩) (hst17.block (w.heap.size) sz16_paOld (fun hf => by have h1 := hf.1; have h2 := hf.2; omega))).trans bx16_paOld_1
            have sz17_paNow : w.heap.size + 1 < w17.heap.size := Nat.lt_of_lt_of_le sz16_paNow hst17.size
            have bx17_paNow_0 : w17.cell? ⟨w.heap.size + 1, 0, none⟩ = some (.slice a0_vNow vNow.fEntries.length c0_vNow) := (World.cell?_of_block (a := ⟨w.heap.size + 1, 0, none⟩) (hst17.block (w.heap.size + 1) sz16_paNow (fun hf => by have h1 := hf.1; have h2 := hf.2; omega))).trans bx16_paNow_0
            have bx17_paNow_1 : w17.cell? ⟨w.heap.size + 1, 1, none⟩ = some (.slice a1_vNow vNow.fEvaluated.length c1_vNow) := (World.cell?_of_block (a := ⟨w.heap.size + 1, 1, none⟩) (hst17.block (w.heap.size + 1) sz16_paNow (fun hf => by have h1 := hf.1; have h2 := hf.2; omega))).trans bx16_paNow_1
            have sz17_x0 : w6.heap.size < w17.heap.size := Nat.lt_of_lt_of_le sz16_x0 hst17.size
            have bx17_x0_0 : w17.cell? ⟨w6.heap.size, 0, none⟩ = some (.slice a0_vOld_6 vOld.fEntries.length c0_vOld_6) := (World.cell?_of_block (a := ⟨w6.heap.size, 0, none⟩) (hst17.block (w6.heap.size) sz16_x0 (fun hf => by have h1 := hf.1; have h2 := hf.2; omega))).trans bx16_x0_0
            have bx17_x0_1 : w17.cell? ⟨w6.heap.size, 1, none⟩ = some (.slice a1_vOld_6 vOld.fEvaluated.length c1_vOld_6) := (World.cell?_of_block (a := ⟨w6.heap.size, 1, none⟩) (hst17.block (w6.heap.size) sz16_x0 (fun hf => by have h1 := hf.1; have h2 := hf.2; omega))).trans bx16_x0_1
            have sz17_x1 : w7.heap.size < w17.heap.size := Nat.lt_of_lt_of_le sz16_x1 hst17.size
            have bx17_x1_0 : w17.cell? ⟨w7.heap.size, 0, none⟩ = some (.slice a0_vNow_7 vNow.fEntries.length c0_vNow_7) := (World.cell?_of_block (a := ⟨w7.heap.size, 0, none⟩) (hst17.block (w7.heap.size) sz16_x1 (fun hf => by have h1 := hf.1; have h2 := hf.2; omega))).trans bx16_x1_0
            have bx17_x1_1 : w17.cell? ⟨w7.heap.size, 1, none⟩ = some (.slice a1_vNow_7 vNow.fEvaluated.length c1_vNow_7) := (World.cell?_of_block (a := ⟨w7.heap.size, 1, none⟩) (hst17.block (w7.heap.size) sz16_x1 (fun hf => by have h1 := hf.1; have h2 := hf.2; omega))).trans bx16_x1_1
            have HO17_R_5 := Lib.hid (HO16_R_5.out.kept (hst17.kept (fun y hy hf => by have h1 := hy.1; have h2 := hy.2; have h3 := hf.1; have h4 := hf.2; omega)))
            have HO17_R_8 := Lib.hid ho17
            have HO17_0_vOld_10 := Lib.hid (HO16_0_vOld_10.out.kept (hst17.kept (fun y hy hf => by have h1 := hy.1; have h2 := hy.2; have h3 := hf.1; have h4 := hf.2; omega)))
            have HO17_1_vOld_10 := Lib.hid (HO16_1_vOld_10.out.kept (hst17.kept (fun y hy hf => by have h1 := hy.1; have h2 := hy.2; have h3 := hf.1; have h4 := hf.2; omega)))
            have HO17_0_vNow_12 := Lib.hid (HO16_0_vNow_12.out.kept (hst17.kept (fun y hy hf => by have h1 := hy.1; have h2 := hy.2; have h3 := hf.1; have h4 := hf.2; omega)))
            have HO17_1_vNow_12 := Lib.hid (HO16_1_vNow_12.out.kept (hst17.kept (fun y hy hf => by have h1 := hy.1; have h2 := hy.2; have h3 := hf.1; have h4 := hf.2; omega)))
            have HB17 := Lib.hid (HB16.out.trans (hst17.below (fun y hy => by have := hy.1; omega) HB16.out.size))
            clear bx16_paOld_0 bx16_paOld_1 sz16_paOld bx16_paNow_0 bx16_paNow_1 sz16_paNow bx16_x0_0 bx16_x0_1 sz16_x0 bx16_x1_0 bx16_x1_1 sz16_x1 HO16_R_5 ho17 HO16_R_8 HO16_0_vOld_10 HO16_1_vOld_10 HO16_0_vNow_12 HO16_1_vNow_12 hw17 hst17 HB16
            go_wp2_with fail
            refine (laws_heldInstanceS (cap := c_R_8) (changed vOld.fEntries vNow.fEntries).length (by have h1 := changedM_len hq_vNow vOld.fEntries; omega) 1 (by omega) (by have h1 := changedM_len hq_vNow vOld.fEntries; omega) _ (HO17_R_8.out.kept (Kept.of_below (by repeat (first | (with_reducible exact Below.refl _ _) | (with_reducible apply Below.drew) | (with_reducible refine below_drewN ?_ _) | (refine Below.setCell ?_ (by simp <;> omega) _) | (refine Below.alloc ?_ (by simp <;> omega) _)) : Below w17.heap.size w17 _) (fun y hy => by have := hy.2; omega)))).mono ?_
            rintro e w18 ⟨rfl, hb18⟩
            have hst18 : Below w17.heap.size w17 w18 := Below.trans (by repeat (first | (with_reducible exact Below.refl _ _) | (with_reducible apply Below.drew) | (with_reducible refine below_drewN ?_ _) | (refine Below.setCell ?_ (by simp <;> omega) _) | (refine Below.alloc ?_ (by simp <;> omega) _)) : Below w17.heap.size w17 _) (hb18.mono (Below.size (by repeat (first | (with_reducible exact Below.refl _ _) | (with_reducible apply Below.drew) | (with_reducible refine below_drewN ?_ _) | (refine Below.setCell ?_ (by simp <;> omega) _) | (refine Below.alloc ?_ (by simp <;> omega) _)) : Below w17.heap.size w17 _)))
            have hr18 : w17.heap.size ≤ w18.heap.size := Nat.le_trans (by first | exact Nat.le_refl _ | (simp; done) | (simp; omega) | (simp [World.setCell]; done) | (simp [World.setCell]; omega)) hb18.size
            have sz18_paOld : w.heap.size < w18.heap.size := Nat.lt_of_lt_of_le sz17_paOld hst18.size
            have bx18_paOld_0 : w18.cell? ⟨w.heap.size, 0, none⟩ = some (.slice a0_vOld vOld.fEntries.length c0_vOld) := (hst18.cell (p := ⟨w.heap.size, 0, none⟩) sz17_paOld).trans bx17_paOld_0
            have bx18_paOld_1 : w18.cell? ⟨w.heap.size, 1, none⟩ = some (.slice a1_vOld vOld.fEvaluated.length c1_vOld) := (hst18.cell (p := ⟨w.heap.size, 1, none⟩) sz17_paOld).trans bx17_paOld_1
            have sz18_paNow : w.heap.size + 1 < w18.heap.size := Nat.lt_of_lt_of_le sz17_paNow hst18.size
            have bx18_paNow_0 : w18.cell? ⟨w.heap.size + 1, 0, none⟩ = some (.slice a0_vNow vNow.fEntries.length c0_vNow) := (hst18.cell (p := ⟨w.heap.size + 1, 0, none⟩) sz17_paNow).trans bx17_paNow_0
            have bx18_paNow_1 : w18.cell? ⟨w.heap.size + 1, 1, none⟩ = some (.slice a1_vNow vNow.fEvaluated.length c1_vNow) := (hst18.cell (p := ⟨w.heap.size + 1, 1, none⟩) sz17_paNow).trans bx17_paNow_1
            have sz18_x0 : w6.heap.size < w18.heap.size := Nat.lt_of_lt_of_le sz17_x0 hst18.size
            have bx18_x0_0 : w18.cell? ⟨w6.heap.size, 0, none⟩ = some (.slice a0_vOld_6 vOld.fEntries.length c0_vOld_6) := (hst18.cell (p := ⟨w6.heap.size, 0, none⟩) sz17_x0).trans bx17_x0_0
            have bx18_x0_1 : w18.cell? ⟨w6.heap.size, 1, none⟩ = some (.slice a1_vOld_6 vOld.fEvaluated.length c1_vOld_6) := (hst18.cell (p := ⟨w6.heap.size, 1, none⟩) sz17_x0).trans bx17_x0_1
            have sz18_x1 : w7.heap.size < w18.heap.size := Nat.lt_of_lt_of_le sz17_x1 hst18.size
            have bx18_x1_0 : w18.cell? ⟨w7.heap.size, 0, none⟩ = some (.slice a0_vNow_7 vNow.fEntries.length c0_vNow_7) := (hst18.cell (p := ⟨w7.heap.size, 0, none⟩) sz17_x1).trans bx17_x1_0
            have bx18_x1_1 : w18.cell? ⟨w7.heap.size, 1, none⟩ = some (.slice a1_vNow_7 vNow.fEvaluated.length c1_vNow_7) := (hst18.cell (p := ⟨w7.heap.size, 1, none⟩) sz17_x1).trans bx17_x1_1
            have HO18_R_5 := Lib.hid (HO17_R_5.out.kept (Kept.of_below_all hst18))
            have HO18_R_8 := Lib.hid (HO17_R_8.out.kept (Kept.of_below_all hst18))
            have HO18_0_vOld_10 := Lib.hid (HO17_0_vOld_10.out.kept (Kept.of_below_all hst18))
            have HO18_1_vOld_10 := Lib.hid (HO17_1_vOld_10.out.kept (Kept.of_below_all hst18))
            have HO18_0_vNow_12 := Lib.hid (HO17_0_vNow_12.out.kept (Kept.of_below_all hst18))
            have HO18_1_vNow_12 := Lib.hid (HO17_1_vNow_12.out.kept (Kept.of_below_all hst18))
            have HB18 := Lib.hid (HB17.out.trans (hst18.mono HB17.out.size))
            clear bx17_paOld_0 bx17_paOld_1 sz17_paOld bx17_paNow_0 bx17_paNow_1 sz17_paNow bx17_x0_0 bx17_x0_1 sz17_x0 bx17_x1_0 bx17_x1_1 sz17_x1 HO17_R_5 HO17_R_8 HO17_0_vOld_10 HO17_1_vOld_10 HO17_0_vNow_12 HO17_1_vNow_12 hb18 hst18 HB17
            go_upto_region 31 with fail
            go_cut [13] from 75 to 79 (fun sW wx => ∃ (lW hW : Nat) (aW : Option Addr) (cW : Nat), sW = .slice aW (changed vOld.fEntries vNow.fEntries).length cW ∧ Own wx (fun y => lW ≤ y ∧ y < hW) (.sl 2 (changed vOld.fEntries vNow.fEntries).length (fun k => DInstance.ct ((changed vOld.fEntries vNow.fEntries).getD k default))) (.slice aW (changed vOld.fEntries vNow.fEntries).length cW) ∧ w18.heap.size ≤ lW ∧ hW ≤ wx.heap.size ∧ Below w18.heap.size w18 wx)
            case first =>
              refine wp_region_free [([], none), ([0], none), ([], none), ([2], none), ([1, 3], none), ([4], none)] [0, 1, 2, 3, 4, 5] (fun jq9 V L H wx => match jq9 with | 0 => V 0 = .agg #[.slice a0_vOld vOld.fEntries.length c0_vOld, .slice a1_vOld vOld.fEvaluated.length c1_vOld] | 1 => ∃ a0_vOld_f1 c0_vOld_f1 a1_vOld_f1 c1_vOld_f1, V 1 = .agg #[.slice a0_vOld_f1 vOld.fEntries.length c0_vOld_f1, .slice a1_vOld_f1 vOld.fEvaluated.length c1_vOld_f1] ∧ OwnR wx (fun y => L ≤ y ∧ y < H) 2 vOld.ct (fun j => [.slice a0_vOld_f1 vOld.fEntries.length c0_vOld_f1, .slice a1_vOld_f1 vOld.fEvaluated.length c1_vOld_f1].getD j .nilFunc) | 2 => V 2 = .agg #[.slice a0_vNow vNow.fEntries.length c0_vNow, .slice a1_vNow vNow.fEvaluated.length c1_vNow] | 3 => ∃ a0_vNow_f3 c0_vNow_f3 a1_vNow_f3 c1_vNow_f3, V 3 = .agg #[.slice a0_vNow_f3 vNow.fEntries.length c0_vNow_f3, .slice a1_vNow_f3 vNow.fEvaluated.length c1_vNow_f3] ∧ OwnR wx (fun y => L ≤ y ∧ y < H) 2 vNow.ct (fun j => [.slice a0_vNow_f3 vNow.fEntries.length c0_vNow_f3, .slice a1_vNow_f3 vNow.fEvaluated.length c1_vNow_f3].getD j .nilFunc) | 4 => ∃ a_R_f4 c_R_f4, V 4 = .slice a_R_f4 (changed vOld.fEntries vNow.fEntries).length c_R_f4 ∧ Own wx (fun y => L ≤ y ∧ y < H) (.sl 2 (changed vOld.fEntries vNow.fEntries).length (fun k => DInstance.ct ((changed vOld.fEntries vNow.fEntries).getD k default))) (.slice a_R_f4 (changed vOld.fEntries vNow.fEntries).length c_R_f4) | 5 => V 5 = V 4 | _ => True) (by kernel_rfl) (by kernel_rfl) ?loc ?lasts ?walk
              case loc =>
                intro k V V' L H wx h0 h1 hG
                match k with
                | 0 =>
                  try dsimp only at hG ⊢
                  rw [← h0]
                  exact hG
                | 1 =>
                  have e0 := h1 0 (by decide)
                  try dsimp only at hG ⊢
                  rw [← h0]
                  exact hG
                | 2 =>
                  try dsimp only at hG ⊢
                  rw [← h0]
                  exact hG
                | 3 =>
                  have e2 := h1 2 (by decide)
                  try dsimp only at hG ⊢
                  rw [← h0]
                  exact hG
                | 4 =>
                  have e1 := h1 1 (by decide)
                  have e3 := h1 3 (by decide)
                  try dsimp only at hG ⊢
                  rw [← h0]
                  exact hG
                | 5 =>
                  have e4 := h1 4 (by decide)
                  try dsimp only at hG ⊢
                  rw [← h0, ← e4]
                  exact hG
                | n + 6 => trivial
              case lasts =>
                intro i hi V L H wx wy hB hH hk
                match i, hi with
                | 0, _ => exact fun h => h
                | 1, _ => exact fun ⟨a0_vOld_f1, c0_vOld_f1, a1_vOld_f1, c1_vOld_f1, hv, ho⟩ => ⟨a0_vOld_f1, c0_vOld_f1, a1_vOld_f1, c1_vOld_f1, hv, ho.kept (hk.sub fun x hx => .inr hx)⟩
                | 2, _ => exact fun h => h
                | 3, _ => exact fun ⟨a0_vNow_f3, c0_vNow_f3, a1_vNow_f3, c1_vNow_f3, hv, ho⟩ => ⟨a0_vNow_f3, c0_vNow_f3, a1_vNow_f3, c1_vNow_f3, hv, ho.kept (hk.sub fun x hx => .inr hx)⟩
                | 4, _ => exact fun ⟨a_R_f4, c_R_f4, hv, ho⟩ => ⟨a_R_f4, c_R_f4, hv, ho.kept (hk.sub fun x hx => .inr hx)⟩
                | 5, _ => exact fun h => h
                | n + 6, hn => exact absurd hn (by simp)
              case walk =>
                simp only [free, Nat.reduceAdd, Act.put, List.setIfInBounds_toArray, List.set_cons_succ, List.set_cons_zero]
                refine ⟨?_, ?_, ?_, ?_, ?_, ?_, ?_⟩
                · intro V L H w19 hb19 hd
                  clear hd
                  have sz19_paOld : w.heap.size < w19.heap.size := Nat.lt_of_lt_of_le sz18_paOld hb19.size
                  have bx19_paOld_0 : w19.cell? ⟨w.heap.size, 0, none⟩ = some (.slice a0_vOld vOld.fEntries.length c0_vOld) := (hb19.cell (p := ⟨w.heap.size, 0, none⟩) sz18_paOld).trans bx18_paOld_0
                  have bx19_paOld_1 : w19.cell? ⟨w.heap.size, 1, none⟩ = some (.slice a1_vOld vOld.fEvaluated.length c1_vOld) := (hb19.cell (p := ⟨w.heap.size, 1, none⟩) sz18_paOld).trans bx18_paOld_1
                  have sz19_paNow : w.heap.size + 1 < w19.heap.size := Nat.lt_of_lt_of_le sz18_paNow hb19.size
                  have bx19_paNow_0 : w19.cell? ⟨w.heap.size + 1, 0, none⟩ = some (.slice a0_vNow vNow.fEntries.length c0_vNow) := (hb19.cell (p := ⟨w.heap.size + 1, 0, none⟩) sz18_paNow).trans bx18_paNow_0
                  have bx19_paNow_1 : w19.cell? ⟨w.heap.size + 1, 1, none⟩ = some (.slice a1_vNow vNow.fEvaluated.length c1_vNow) := (hb19.cell (p := ⟨w.heap.size + 1, 1, none⟩) sz18_paNow).trans bx18_paNow_1
                  have sz19_x0 : w6.heap.size < w19.heap.size := Nat.lt_of_lt_of_le sz18_x0 hb19.size
                  have bx19_x0_0 : w19.cell? ⟨w6.heap.size, 0, none⟩ = some (.slice a0_vOld_6 vOld.fEntries.length c0_vOld_6) := (hb19.cell (p := ⟨w6.heap.size, 0, none⟩) sz18_x0).trans bx18_x0_0
                  have bx19_x0_1 : w19.cell? ⟨w6.heap.size, 1, none⟩ = some (.slice a1_vOld_6 vOld.fEvaluated.length c1_vOld_6) := (hb19.cell (p := ⟨w6.heap.size, 1, none⟩) sz18_x0).trans bx18_x0_1
                  have sz19_x1 : w7.heap.size < w19.heap.size := Nat.lt_of_lt_of_le sz18_x1 hb19.size
                  have bx19_x1_0 : w19.cell? ⟨w7.heap.size, 0, none⟩ = some (.slice a0_vNow_7 vNow.fEntries.length c0_vNow_7) := (hb19.cell (p := ⟨w7.heap.size, 0, none⟩) sz18_x1).trans bx18_x1_0
                  have bx19_x1_1 : w19.cell? ⟨w7.heap.size, 1, none⟩ = some (.slice a1_vNow_7 vNow.fEvaluated.length c1_vNow_7) := (hb19.cell (p := ⟨w7.heap.size, 1, none⟩) sz18_x1).trans bx18_x1_1
                  have HO19_R_5 := Lib.hid (HO18_R_5.out.kept (Kept.of_below_all hb19))
                  have HO19_R_8 := Lib.hid (HO18_R_8.out.kept (Kept.of_below_all hb19))
                  have HO19_0_vOld_10 := Lib.hid (HO18_0_vOld_10.out.kept (Kept.of_below_all hb19))
                  have HO19_1_vOld_10 := Lib.hid (HO18_1_vOld_10.out.kept (Kept.of_below_all hb19))
                  have HO19_0_vNow_12 := Lib.hid (HO18_0_vNow_12.out.kept (Kept.of_below_all hb19))
                  have HO19_1_vNow_12 := Lib.hid (HO18_1_vNow_12.out.kept (Kept.of_below_all hb19))
                  have HB19 := Lib.hid (HB18.out.trans (hb19.mono HB18.out.size))
                  clear sz18_paOld bx18_paOld_0 bx18_paOld_1 sz18_paNow bx18_paNow_0 bx18_paNow_1 sz18_x0 bx18_x0_0 bx18_x0_1 sz18_x1 bx18_x1_0 bx18_x1_1
                  go_wp2_with fail
                  exact freePost _ rfl ⟨Below.refl _ _, upd_self⟩
                · intro V L H w19 hb19 hd
                  obtain ⟨⟨hL0, hM0, hH0, hv0⟩, -⟩ := hd
                  rw [hv0]
                  have HV0 := Lib.hid hv0
                  clear hv0
                  have sz19_paOld : w.heap.size < w19.heap.size := Nat.lt_of_lt_of_le sz18_paOld hb19.size
                  have bx19_paOld_0 : w19.cell? ⟨w.heap.size, 0, none⟩ = some (.slice a0_vOld vOld.fEntries.length c0_vOld) := (hb19.cell (p := ⟨w.heap.size, 0, none⟩) sz18_paOld).trans bx18_paOld_0
                  have bx19_paOld_1 : w19.cell? ⟨w.heap.size, 1, none⟩ = some (.slice a1_vOld vOld.fEvaluated.length c1_vOld) := (hb19.cell (p := ⟨w.heap.size, 1, none⟩) sz18_paOld).trans bx18_paOld_1
                  have sz19_paNow : w.heap.size + 1 < w19.heap.size := Nat.lt_of_lt_of_le sz18_paNow hb19.size
                  have bx19_paNow_0 : w19.cell? ⟨w.heap.size + 1, 0, none⟩ = some (.slice a0_vNow vNow.fEntries.length c0_vNow) := (hb19.cell (p := ⟨w.heap.size + 1, 0, none⟩) sz18_paNow).trans bx18_paNow_0
                  have bx19_paNow_1 : w19.cell? ⟨w.heap.size + 1, 1, none⟩ = some (.slice a1_vNow vNow.fEvaluated.length c1_vNow) := (hb19.cell (p := ⟨w.heap.size + 1, 1, none⟩) sz18_paNow).trans bx18_paNow_1
                  have sz19_x0 : w6.heap.size < w19.heap.size := Nat.lt_of_lt_of_le sz18_x0 hb19.size
                  have bx19_x0_0 : w19.cell? ⟨w6.heap.size, 0, none⟩ = some (.slice a0_vOld_6 vOld.fEntries.length c0_vOld_6) := (hb19.cell (p := ⟨w6.heap.size, 0, none⟩) sz18_x0).trans bx18_x0_0
                  have bx19_x0_1 : w19.cell? ⟨w6.heap.size, 1, none⟩ = some (.slice a1_vOld_6 vOld.fEvaluated.length c1_vOld_6) := (hb19.cell (p := ⟨w6.heap.size, 1, none⟩) sz18_x0).trans bx18_x0_1
                  have sz19_x1 : w7.heap.size < w19.heap.size := Nat.lt_of_lt_of_le sz18_x1 hb19.size
                  have bx19_x1_0 : w19.cell? ⟨w7.heap.size, 0, none⟩ = some (.slice a0_vNow_7 vNow.fEntries.length c0_vNow_7) := (hb19.cell (p := ⟨w7.heap.size, 0, none⟩) sz18_x1).trans bx18_x1_0
                  have bx19_x1_1 : w19.cell? ⟨w7.heap.size, 1, none⟩ = some (.slice a1_vNow_7 vNow.fEvaluated.length c1_vNow_7) := (hb19.cell (p := ⟨w7.heap.size, 1, none⟩) sz18_x1).trans bx18_x1_1
                  have HO19_R_5 := Lib.hid (HO18_R_5.out.kept (Kept.of_below_all hb19))
                  have HO19_R_8 := Lib.hid (HO18_R_8.out.kept (Kept.of_below_all hb19))
                  have HO19_0_vOld_10 := Lib.hid (HO18_0_vOld_10.out.kept (Kept.of_below_all hb19))
                  have HO19_1_vOld_10 := Lib.hid (HO18_1_vOld_10.out.kept (Kept.of_below_all hb19))
                  have HO19_0_vNow_12 := Lib.hid (HO18_0_vNow_12.out.kept (Kept.of_below_all hb19))
                  have HO19_1_vNow_12 := Lib.hid (HO18_1_vNow_12.out.kept (Kept.of_below_all hb19))
                  have HB19 := Lib.hid (HB18.out.trans (hb19.mono HB18.out.size))
                  clear sz18_paOld bx18_paOld_0 bx18_paOld_1 sz18_paNow bx18_paNow_0 bx18_paNow_1 sz18_x0 bx18_x0_0 bx18_x0_1 sz18_x1 bx18_x1_0 bx18_x1_1
                  go_wp2_with fail
                  refine (laws_toMemo (c0 := c0_vOld) (c1 := c1_vOld) vOld hq_vOld _ (Below.size (by repeat (first | (with_reducible exact Below.refl _ _) | (with_reducible apply Below.drew) | (with_reducible refine below_drewN ?_ _) | (refine Below.setCell ?_ (by simp <;> omega) _) | (refine Below.alloc ?_ (by simp <;> omega) _)) : Below w19.heap.size w19 _)) ((HS_0_vOld.out.later (HB19.out.trans ((by repeat (first | (with_reducible exact Below.refl _ _) | (with_reducible apply Below.drew) | (with_reducible refine below_drewN ?_ _) | (refine Below.setCell ?_ (by simp <;> omega) _) | (refine Below.alloc ?_ (by simp <;> omega) _)) : Below w19.heap.size w19 _).mono HB19.out.size)) (Nat.le_refl _)).mono (Nat.le_refl _) HB19.out.size) ((HS_1_vOld.out.later (HB19.out.trans ((by repeat (first | (with_reducible exact Below.refl _ _) | (with_reducible apply Below.drew) | (with_reducible refine below_drewN ?_ _) | (refine Below.setCell ?_ (by simp <;> omega) _) | (refine Below.alloc ?_ (by simp <;> omega) _)) : Below w19.heap.size w19 _).mono HB19.out.size)) (Nat.le_refl _)).mono (Nat.le_refl _) HB19.out.size)).mono ?_
                  rintro e w20 ⟨a0_vOld_f1, c0_vOld_f1, a1_vOld_f1, c1_vOld_f1, rfl, ho, hb20⟩
                  go_wp2_with fail
                  exact freePost _ rfl ⟨hb20, Exists.intro a0_vOld_f1 (Exists.intro c0_vOld_f1 (Exists.intro a1_vOld_f1 (Exists.intro c1_vOld_f1 (And.intro upd_self ho))))⟩
                · intro V L H w19 hb19 hd
                  clear hd
                  have sz19_paOld : w.heap.size < w19.heap.size := Nat.lt_of_lt_of_le sz18_paOld hb19.size
                  have bx19_paOld_0 : w19.cell? ⟨w.heap.size, 0, none⟩ = some (.slice a0_vOld vOld.fEntries.length c0_vOld) := (hb19.cell (p := ⟨w.heap.size, 0, none⟩) sz18_paOld).trans bx18_paOld_0
                  have bx19_paOld_1 : w19.cell? ⟨w.heap.size, 1, none⟩ = some (.slice a1_vOld vOld.fEvaluated.length c1_vOld) := (hb19.cell (p := ⟨w.heap.size, 1, none⟩) sz18_paOld).trans bx18_paOld_1
                  have sz19_paNow : w.heap.size + 1 < w19.heap.size := Nat.lt_of_lt_of_le sz18_paNow hb19.size
                  have bx19_paNow_0 : w19.cell? ⟨w.heap.size + 1, 0, none⟩ = some (.slice a0_vNow vNow.fEntries.length c0_vNow) := (hb19.cell (p := ⟨w.heap.size + 1, 0, none⟩) sz18_paNow).trans bx18_paNow_0
                  have bx19_paNow_1 : w19.cell? ⟨w.heap.size + 1, 1, none⟩ = some (.slice a1_vNow vNow.fEvaluated.length c1_vNow) := (hb19.cell (p := ⟨w.heap.size + 1, 1, none⟩) sz18_paNow).trans bx18_paNow_1
                  have sz19_x0 : w6.heap.size < w19.heap.size := Nat.lt_of_lt_of_le sz18_x0 hb19.size
                  have bx19_x0_0 : w19.cell? ⟨w6.heap.size, 0, none⟩ = some (.slice a0_vOld_6 vOld.fEntries.length c0_vOld_6) := (hb19.cell (p := ⟨w6.heap.size, 0, none⟩) sz18_x0).trans bx18_x0_0
                  have bx19_x0_1 : w19.cell? ⟨w6.heap.size, 1, none⟩ = some (.slice a1_vOld_6 vOld.fEvaluated.length c1_vOld_6) := (hb19.cell (p := ⟨w6.heap.size, 1, none⟩) sz18_x0).trans bx18_x0_1
                  have sz19_x1 : w7.heap.size < w19.heap.size := Nat.lt_of_lt_of_le sz18_x1 hb19.size
                  have bx19_x1_0 : w19.cell? ⟨w7.heap.size, 0, none⟩ = some (.slice a0_vNow_7 vNow.fEntries.length c0_vNow_7) := (hb19.cell (p := ⟨w7.heap.size, 0, none⟩) sz18_x1).trans bx18_x1_0
                  have bx19_x1_1 : w19.cell? ⟨w7.heap.size, 1, none⟩ = some (.slice a1_vNow_7 vNow.fEvaluated.length c1_vNow_7) := (hb19.cell (p := ⟨w7.heap.size, 1, none⟩) sz18_x1).trans bx18_x1_1
                  have HO19_R_5 := Lib.hid (HO18_R_5.out.kept (Kept.of_below_all hb19))
                  have HO19_R_8 := Lib.hid (HO18_R_8.out.kept (Kept.of_below_all hb19))
                  have HO19_0_vOld_10 := Lib.hid (HO18_0_vOld_10.out.kept (Kept.of_below_all hb19))
                  have HO19_1_vOld_10 := Lib.hid (HO18_1_vOld_10.out.kept (Kept.of_below_all hb19))
                  have HO19_0_vNow_12 := Lib.hid (HO18_0_vNow_12.out.kept (Kept.of_below_all hb19))
                  have HO19_1_vNow_12 := Lib.hid (HO18_1_vNow_12.out.kept (Kept.of_below_all hb19))
                  have HB19 := Lib.hid (HB18.out.trans (hb19.mono HB18.out.size))
                  clear sz18_paOld bx18_paOld_0 bx18_paOld_1 sz18_paNow bx18_paNow_0 bx18_paNow_1 sz18_x0 bx18_x0_0 bx18_x0_1 sz18_x1 bx18_x1_0 bx18_x1_1
                  go_wp2_with fail
                  exact freePost _ rfl ⟨Below.refl _ _, upd_self⟩
                · intro V L H w19 hb19 hd
                  obtain ⟨⟨hL2, hM2, hH2, hv2⟩, -⟩ := hd
                  rw [hv2]
                  have HV2 := Lib.hid hv2
                  clear hv2
                  have sz19_paOld : w.heap.size < w19.heap.size := Nat.lt_of_lt_of_le sz18_paOld hb19.size
                  have bx19_paOld_0 : w19.cell? ⟨w.heap.size, 0, none⟩ = some (.slice a0_vOld vOld.fEntries.length c0_vOld) := (hb19.cell (p := ⟨w.heap.size, 0, none⟩) sz18_paOld).trans bx18_paOld_0
                  have bx19_paOld_1 : w19.cell? ⟨w.heap.size, 1, none⟩ = some (.slice a1_vOld vOld.fEvaluated.length c1_vOld) := (hb19.cell (p := ⟨w.heap.size, 1, none⟩) sz18_paOld).trans bx18_paOld_1
                  have sz19_paNow : w.heap.size + 1 < w19.heap.size := Nat.lt_of_lt_of_le sz18_paNow hb19.size
                  have bx19_paNow_0 : w19.cell? ⟨w.heap.size + 1, 0, none⟩ = some (.slice a0_vNow vNow.fEntries.length c0_vNow) := (hb19.cell (p := ⟨w.heap.size + 1, 0, none⟩) sz18_paNow).trans bx18_paNow_0
                  have bx19_paNow_1 : w19.cell? ⟨w.heap.size + 1, 1, none⟩ = some (.slice a1_vNow vNow.fEvaluated.length c1_vNow) := (hb19.cell (p := ⟨w.heap.size + 1, 1, none⟩) sz18_paNow).trans bx18_paNow_1
                  have sz19_x0 : w6.heap.size < w19.heap.size := Nat.lt_of_lt_of_le sz18_x0 hb19.size
                  have bx19_x0_0 : w19.cell? ⟨w6.heap.size, 0, none⟩ = some (.slice a0_vOld_6 vOld.fEntries.length c0_vOld_6) := (hb19.cell (p := ⟨w6.heap.size, 0, none⟩) sz18_x0).trans bx18_x0_0
                  have bx19_x0_1 : w19.cell? ⟨w6.heap.size, 1, none⟩ = some (.slice a1_vOld_6 vOld.fEvaluated.length c1_vOld_6) := (hb19.cell (p := ⟨w6.heap.size, 1, none⟩) sz18_x0).trans bx18_x0_1
                  have sz19_x1 : w7.heap.size < w19.heap.size := Nat.lt_of_lt_of_le sz18_x1 hb19.size
                  have bx19_x1_0 : w19.cell? ⟨w7.heap.size, 0, none⟩ = some (.slice a0_vNow_7 vNow.fEntries.length c0_vNow_7) := (hb19.cell (p := ⟨w7.heap.size, 0, none⟩) sz18_x1).trans bx18_x1_0
                  have bx19_x1_1 : w19.cell? ⟨w7.heap.size, 1, none⟩ = some (.slice a1_vNow_7 vNow.fEvaluated.length c1_vNow_7) := (hb19.cell (p := ⟨w7.heap.size, 1, none⟩) sz18_x1).trans bx18_x1_1
                  have HO19_R_5 := Lib.hid (HO18_R_5.out.kept (Kept.of_below_all hb19))
                  have HO19_R_8 := Lib.hid (HO18_R_8.out.kept (Kept.of_below_all hb19))
                  have HO19_0_vOld_10 := Lib.hid (HO18_0_vOld_10.out.kept (Kept.of_below_all hb19))
                  have HO19_1_vOld_10 := Lib.hid (HO18_1_vOld_10.out.kept (Kept.of_below_all hb19))
                  have HO19_0_vNow_12 := Lib.hid (HO18_0_vNow_12.out.kept (Kept.of_below_all hb19))
                  have HO19_1_vNow_12 := Lib.hid (HO18_1_vNow_12.out.kept (Kept.of_below_all hb19))
                  have HB19 := Lib.hid (HB18.out.trans (hb19.mono HB18.out.size))
                  clear sz18_paOld bx18_paOld_0 bx18_paOld_1 sz18_paNow bx18_paNow_0 bx18_paNow_1 sz18_x0 bx18_x0_0 bx18_x0_1 sz18_x1 bx18_x1_0 bx18_x1_1
                  go_wp2_with fail
                  refine (laws_toMemo (c0 := c0_vNow) (c1 := c1_vNow) vNow hq_vNow _ (Below.size (by repeat (first | (with_reducible exact Below.refl _ _) | (with_reducible apply Below.drew) | (with_reducible refine below_drewN ?_ _) | (refine Below.setCell ?_ (by simp <;> omega) _) | (refine Below.alloc ?_ (by simp <;> omega) _)) : Below w19.heap.size w19 _)) ((HS_0_vNow.out.later (HB19.out.trans ((by repeat (first | (with_reducible exact Below.refl _ _) | (with_reducible apply Below.drew) | (with_reducible refine below_drewN ?_ _) | (refine Below.setCell ?_ (by simp <;> omega) _) | (refine Below.alloc ?_ (by simp <;> omega) _)) : Below w19.heap.size w19 _).mono HB19.out.size)) (Nat.le_refl _)).mono (Nat.le_refl _) HB19.out.size) ((HS_1_vNow.out.later (HB19.out.trans ((by repeat (first | (with_reducible exact Below.refl _ _) | (with_reducible apply Below.drew) | (with_reducible refine below_drewN ?_ _) | (refine Below.setCell ?_ (by simp <;> omega) _) | (refine Below.alloc ?_ (by simp <;> omega) _)) : Below w19.heap.size w19 _).mono HB19.out.size)) (Nat.le_refl _)).mono (Nat.le_refl _) HB19.out.size)).mono ?_
                  rintro e w20 ⟨a0_vNow_f3, c0_vNow_f3, a1_vNow_f3, c1_vNow_f3, rfl, ho, hb20⟩
                  go_wp2_with fail
                  exact freePost _ rfl ⟨hb20, Exists.intro a0_vNow_f3 (Exists.intro c0_vNow_f3 (Exists.intro a1_vNow_f3 (Exists.intro c1_vNow_f3 (And.intro upd_self ho))))⟩
                · intro V L H w19 hb19 hd
                  obtain ⟨⟨hL1, hM1, hH1, a0_vOld_f1, c0_vOld_f1, a1_vOld_f1, c1_vOld_f1, hv1, ho1_⟩, ⟨hL3, hM3, hH3, a0_vNow_f3, c0_vNow_f3, a1_vNow_f3, c1_vNow_f3, hv3, ho3_⟩, -⟩ := hd
                  rw [hv1, hv3]
                  have HV1 := Lib.hid hv1
                  have HV3 := Lib.hid hv3
                  clear hv1 hv3
                  have sz19_paOld : w.heap.size < w19.heap.size := Nat.lt_of_lt_of_le sz18_paOld hb19.size
                  have bx19_paOld_0 : w19.cell? ⟨w.heap.size, 0, none⟩ = some (.slice a0_vOld vOld.fEntries.length c0_vOld) := (hb19.cell (p := ⟨w.heap.size, 0, none⟩) sz18_paOld).trans bx18_paOld_0
                  have bx19_paOld_1 : w19.cell? ⟨w.heap.size, 1, none⟩ = some (.slice a1_vOld vOld.fEvaluated.length c1_vOld) := (hb19.cell (p := ⟨w.heap.size, 1, none⟩) sz18_paOld).trans bx18_paOld_1
                  have sz19_paNow : w.heap.size + 1 < w19.heap.size := Nat.lt_of_lt_of_le sz18_paNow hb19.size
                  have bx19_paNow_0 : w19.cell? ⟨w.heap.size + 1, 0, none⟩ = some (.slice a0_vNow vNow.fEntries.length c0_vNow) := (hb19.cell (p := ⟨w.heap.size + 1, 0, none⟩) sz18_paNow).trans bx18_paNow_0
                  have bx19_paNow_1 : w19.cell? ⟨w.heap.size + 1, 1, none⟩ = some (.slice a1_vNow vNow.fEvaluated.length c1_vNow) := (hb19.cell (p := ⟨w.heap.size + 1, 1, none⟩) sz18_paNow).trans bx18_paNow_1
                  have sz19_x0 : w6.heap.size < w19.heap.size := Nat.lt_of_lt_of_le sz18_x0 hb19.size
                  have bx19_x0_0 : w19.cell? ⟨w6.heap.size, 0, none⟩ = some (.slice a0_vOld_6 vOld.fEntries.length c0_vOld_6) := (hb19.cell (p := ⟨w6.heap.size, 0, none⟩) sz18_x0).trans bx18_x0_0
                  have bx19_x0_1 : w19.cell? ⟨w6.heap.size, 1, none⟩ = some (.slice a1_vOld_6 vOld.fEvaluated.length c1_vOld_6) := (hb19.cell (p := ⟨w6.heap.size, 1, none⟩) sz18_x0).trans bx18_x0_1
                  have sz19_x1 : w7.heap.size < w19.heap.size := Nat.lt_of_lt_of_le sz18_x1 hb19.size
                  have bx19_x1_0 : w19.cell? ⟨w7.heap.size, 0, none⟩ = some (.slice a0_vNow_7 vNow.fEntries.length c0_vNow_7) := (hb19.cell (p := ⟨w7.heap.size, 0, none⟩) sz18_x1).trans bx18_x1_0
                  have bx19_x1_1 : w19.cell? ⟨w7.heap.size, 1, none⟩ = some (.slice a1_vNow_7 vNow.fEvaluated.length c1_vNow_7) := (hb19.cell (p := ⟨w7.heap.size, 1, none⟩) sz18_x1).trans bx18_x1_1
                  have HO19_R_5 := Lib.hid (HO18_R_5.out.kept (Kept.of_below_all hb19))
                  have HO19_R_8 := Lib.hid (HO18_R_8.out.kept (Kept.of_below_all hb19))
                  have HO19_0_vOld_10 := Lib.hid (HO18_0_vOld_10.out.kept (Kept.of_below_all hb19))
                  have HO19_1_vOld_10 := Lib.hid (HO18_1_vOld_10.out.kept (Kept.of_below_all hb19))
                  have HO19_0_vNow_12 := Lib.hid (HO18_0_vNow_12.out.kept (Kept.of_below_all hb19))
                  have HO19_1_vNow_12 := Lib.hid (HO18_1_vNow_12.out.kept (Kept.of_below_all hb19))
                  have HB19 := Lib.hid (HB18.out.trans (hb19.mono HB18.out.size))
                  clear sz18_paOld bx18_paOld_0 bx18_paOld_1 sz18_paNow bx18_paNow_0 bx18_paNow_1 sz18_x0 bx18_x0_0 bx18_x0_1 sz18_x1 bx18_x1_0 bx18_x1_1
                  have HO_0_vOld_f1 := Lib.hid (show Own w19 (fun y => L 1 ≤ y ∧ y < H 1) (.sl 9 vOld.fEntries.length (fun k => DEntry.ct (vOld.fEntries.getD k default))) (.slice a0_vOld_f1 vOld.fEntries.length c0_vOld_f1) from OwnR.at ho1_ 0 (by decide))
                  have HO_1_vOld_f1 := Lib.hid (show Own w19 (fun y => L 1 ≤ y ∧ y < H 1) (.sl 2 vOld.fEvaluated.length (fun k => DInstance.ct (vOld.fEvaluated.getD k default))) (.slice a1_vOld_f1 vOld.fEvaluated.length c1_vOld_f1) from OwnR.at ho1_ 1 (by decide))
                  clear ho1_
                  have HO_0_vNow_f3 := Lib.hid (show Own w19 (fun y => L 3 ≤ y ∧ y < H 3) (.sl 9 vNow.fEntries.length (fun k => DEntry.ct (vNow.fEntries.getD k default))) (.slice a0_vNow_f3 vNow.fEntries.length c0_vNow_f3) from OwnR.at ho3_ 0 (by decide))
                  have HO_1_vNow_f3 := Lib.hid (show Own w19 (fun y => L 3 ≤ y ∧ y < H 3) (.sl 2 vNow.fEvaluated.length (fun k => DInstance.ct (vNow.fEvaluated.getD k default))) (.slice a1_vNow_f3 vNow.fEvaluated.length c1_vNow_f3) from OwnR.at ho3_ 1 (by decide))
                  clear ho3_
                  go_wp2_with fail
                  refine (impl_ChangedValues (c0_0 := c0_vOld_f1) (c0_1 := c1_vOld_f1) (c1_0 := c0_vNow_f3) (c1_1 := c1_vNow_f3) vOld OK_vOld.out hq_vOld vNow OK_vNow.out hq_vNow _ (Below.size (by repeat (first | (with_reducible exact Below.refl _ _) | (with_reducible apply Below.drew) | (with_reducible refine below_drewN ?_ _) | (refine Below.setCell ?_ (by simp <;> omega) _) | (refine Below.alloc ?_ (by simp <;> omega) _)) : Below w19.heap.size w19 _)) ((Sl.of (HO_0_vOld_f1.out.lies (lo := 0) (hi := w19.heap.size) (fun y hy => ⟨Nat.zero_le _, by have := hy.2; omega⟩))).later (by repeat (first | (with_reducible exact Below.refl _ _) | (with_reducible apply Below.drew) | (with_reducible refine below_drewN ?_ _) | (refine Below.setCell ?_ (by simp <;> omega) _) | (refine Below.alloc ?_ (by simp <;> omega) _)) : Below w19.heap.size w19 _) (Nat.le_refl _)) ((Sl.of (HO_1_vOld_f1.out.lies (lo := 0) (hi := w19.heap.size) (fun y hy => ⟨Nat.zero_le _, by have := hy.2; omega⟩))).later (by repeat (first | (with_reducible exact Below.refl _ _) | (with_reducible apply Below.drew) | (with_reducible refine below_drewN ?_ _) | (refine Below.setCell ?_ (by simp <;> omega) _) | (refine Below.alloc ?_ (by simp <;> omega) _)) : Below w19.heap.size w19 _) (Nat.le_refl _)) ((Sl.of (HO_0_vNow_f3.out.lies (lo := 0) (hi := w19.heap.size) (fun y hy => ⟨Nat.zero_le _, by have := hy.2; omega⟩))).later (by repeat (first | (with_reducible exact Below.refl _ _) | (with_reducible apply Below.drew) | (with_reducible refine below_drewN ?_ _) | (refine Below.setCell ?_ (by simp <;> omega) _) | (refine Below.alloc ?_ (by simp <;> omega) _)) : Below w19.heap.size w19 _) (Nat.le_refl _)) ((Sl.of (HO_1_vNow_f3.out.lies (lo := 0) (hi := w19.heap.size) (fun y hy => ⟨Nat.zero_le _, by have := hy.2; omega⟩))).later (by repeat (first | (with_reducible exact Below.refl _ _) | (with_reducible apply Below.drew) | (with_reducible refine below_drewN ?_ _) | (refine Below.setCell ?_ (by simp <;> omega) _) | (refine Below.alloc ?_ (by simp <;> omega) _)) : Below w19.heap.size w19 _) (Nat.le_refl _))).mono ?_
                  rintro e w20 ⟨a_R_f4, c_R_f4, rfl, ho, hb20⟩
                  go_wp2_with fail
                  exact freePost _ rfl ⟨hb20, Exists.intro a_R_f4 (Exists.intro c_R_f4 (And.intro upd_self ho))⟩
                · intro V L H w19 hb19 hd
                  obtain ⟨⟨hL4, hM4, hH4, a_R_f4, c_R_f4, hv4, ho4_⟩, -⟩ := hd
                  rw [hv4]
                  have HV4 := Lib.hid hv4
                  clear hv4
                  have HB19 := Lib.hid (HB18.out.trans (hb19.mono HB18.out.size))
                  clear sz18_paOld bx18_paOld_0 bx18_paOld_1 sz18_paNow bx18_paNow_0 bx18_paNow_1 sz18_x0 bx18_x0_0 bx18_x0_1 sz18_x1 bx18_x1_0 bx18_x1_1
                  go_wp2_with fail
                  exact freePost _ rfl ⟨Below.refl _ _, upd_self.trans (HV4.out.symm.trans (upd_ne (by decide)).symm)⟩
                · intro V L H w19 hb19 hd hap hdead
                  obtain ⟨⟨hL0, hM0, hH0, hv0⟩, ⟨hL1, hM1, hH1, a0_vOld_f1, c0_vOld_f1, a1_vOld_f1, c1_vOld_f1, hv1, ho1_⟩, ⟨hL2, hM2, hH2, hv2⟩, ⟨hL3, hM3, hH3, a0_vNow_f3, c0_vNow_f3, a1_vNow_f3, c1_vNow_f3, hv3, ho3_⟩, ⟨hL4, hM4, hH4, a_R_f4, c_R_f4, hv4, ho4_⟩, ⟨hL5, hM5, hH5, hv5⟩, -⟩ := hd
                  have hv4' := hv4
                  have hv5' := hv5.trans hv4'
                  rw [hv0, hv2, hv4', hv5', hv1, hv3]
                  clear hv0 hv2 hv4' hv5' hv1 hv3 hv4 hv5
                  clear hap hdead
                  go_wp2_with fail
                  go_meet
                  refine ⟨L 4, H 4, a_R_f4, c_R_f4, rfl, ho4_, ?_, ?_, hb19⟩
                  · omega
                  · omega
            case rest =>
              obtain ⟨lV21, hV21, a_R_21, c_R_21, rfl, ho21, hL21, hH21, hb21⟩ := hcut
              obtain ⟨w21, rfl⟩ : ∃ w_ : World, w_ = wc := ⟨_, rfl⟩
              have hr21 : w18.heap.size ≤ w21.heap.size := hb21.size
              have sz21_paOld : w.heap.size < w21.heap.size := Nat.lt_of_lt_of_le sz18_paOld hb21.size
              have bx21_paOld_0 : w21.cell? ⟨w.heap.size, 0, none⟩ = some (.slice a0_vOld vOld.fEntries.length c0_vOld) := (hb21.cell (p := ⟨w.heap.size, 0, none⟩) sz18_paOld).trans bx18_paOld_0
              have bx21_paOld_1 : w21.cell? ⟨w.heap.size, 1, none⟩ = some (.slice a1_vOld vOld.fEvaluated.length c1_vOld) := (hb21.cell (p := ⟨w.heap.size, 1, none⟩) sz18_paOld).trans bx18_paOld_1
              have sz21_paNow : w.heap.size + 1 < w21.heap.size := Nat.lt_of_lt_of_le sz18_paNow hb21.size
              have bx21_paNow_0 : w21.cell? ⟨w.heap.size + 1, 0, none⟩ = some (.slice a0_vNow vNow.fEntries.length c0_vNow) := (hb21.cell (p := ⟨w.heap.size + 1, 0, none⟩) sz18_paNow).trans bx18_paNow_0
              have bx21_paNow_1 : w21.cell? ⟨w.heap.size + 1, 1, none⟩ = some (.slice a1_vNow vNow.fEvaluated.length c1_vNow) := (hb21.cell (p := ⟨w.heap.size + 1, 1, none⟩) sz18_paNow).trans bx18_paNow_1
              have sz21_x0 : w6.heap.size < w21.heap.size := Nat.lt_of_lt_of_le sz18_x0 hb21.size
              have bx21_x0_0 : w21.cell? ⟨w6.heap.size, 0, none⟩ = some (.slice a0_vOld_6 vOld.fEntries.length c0_vOld_6) := (hb21.cell (p := ⟨w6.heap.size, 0, none⟩) sz18_x0).trans bx18_x0_0
              have bx21_x0_1 : w21.cell? ⟨w6.heap.size, 1, none⟩ = some (.slice a1_vOld_6 vOld.fEvaluated.length c1_vOld_6) := (hb21.cell (p := ⟨w6.heap.size, 1, none⟩) sz18_x0).trans bx18_x0_1
              have sz21_x1 : w7.heap.size < w21.heap.size := Nat.lt_of_lt_of_le sz18_x1 hb21.size
              have bx21_x1_0 : w21.cell? ⟨w7.heap.size, 0, none⟩ = some (.slice a0_vNow_7 vNow.fEntries.length c0_vNow_7) := (hb21.cell (p := ⟨w7.heap.size, 0, none⟩) sz18_x1).trans bx18_x1_0
              have bx21_x1_1 : w21.cell? ⟨w7.heap.size, 1, none⟩ = some (.slice a1_vNow_7 vNow.fEvaluated.length c1_vNow_7) := (hb21.cell (p := ⟨w7.heap.size, 1, none⟩) sz18_x1).trans bx18_x1_1
              have HO21_R_5 := Lib.hid (HO18_R_5.out.kept (Kept.of_below_all hb21))
              have HO21_R_8 := Lib.hid (HO18_R_8.out.kept (Kept.of_below_all hb21))
              have HO21_0_vOld_10 := Lib.hid (HO18_0_vOld_10.out.kept (Kept.of_below_all hb21))
              have HO21_1_vOld_10 := Lib.hid (HO18_1_vOld_10.out.kept (Kept.of_below_all hb21))
              have HO21_0_vNow_12 := Lib.hid (HO18_0_vNow_12.out.kept (Kept.of_below_all hb21))
              have HO21_1_vNow_12 := Lib.hid (HO18_1_vNow_12.out.kept (Kept.of_below_all hb21))
              have HO21_R_21 := Lib.hid ho21
              have HB21 := Lib.hid (HB18.out.trans (hb21.mono HB18.out.size))
              clear hb21 ho21 bx18_paOld_0 bx18_paOld_1 sz18_paOld bx18_paNow_0 bx18_paNow_1 sz18_paNow bx18_x0_0 bx18_x0_1 sz18_x0 bx18_x1_0 bx18_x1_1 sz18_x1 HO18_R_5 HO18_R_8 HO18_0_vOld_10 HO18_1_vOld_10 HO18_0_vNow_12 HO18_1_vNow_12 HB18
              go_wp2_with fail
              refine (laws_eqInstanceS (cap := c_R_21) (cap2 := c_R_5) (changed vOld.fEntries vNow.fEntries) hq_R _ (Below.size (by repeat (first | (with_reducible exact Below.refl _ _) | (with_reducible apply Below.drew) | (with_reducible refine below_drewN ?_ _) | (refine Below.setCell ?_ (by simp <;> omega) _) | (refine Below.alloc ?_ (by simp <;> omega) _)) : Below w21.heap.size w21 _)) (Below.size (by repeat (first | (with_reducible exact Below.refl _ _) | (with_reducible apply Below.drew) | (with_reducible refine below_drewN ?_ _) | (refine Below.setCell ?_ (by simp <;> omega) _) | (refine Below.alloc ?_ (by simp <;> omega) _)) : Below w21.heap.size w21 _)) ((Sl.of (HO21_R_21.out.lies (lo := 0) (hi := w21.heap.size) (fun y hy => ⟨Nat.zero_le _, by have := hy.2; omega⟩))).later (by repeat (first | (with_reducible exact Below.refl _ _) | (with_reducible apply Below.drew) | (with_reducible refine below_drewN ?_ _) | (refine Below.setCell ?_ (by simp <;> omega) _) | (refine Below.alloc ?_ (by simp <;> omega) _)) : Below w21.heap.size w21 _) (Nat.le_refl _)) ((Sl.of (HO21_R_5.out.lies (lo := 0) (hi := w21.heap.size) (fun y hy => ⟨Nat.zero_le _, by have := hy.2; omega⟩))).later (by repeat (first | (with_reducible exact Below.refl _ _) | (with_reducible apply Below.drew) | (with_reducible refine below_drewN ?_ _) | (refine Below.setCell ?_ (by simp <;> omega) _) | (refine Below.alloc ?_ (by simp <;> omega) _)) : Below w21.heap.size w21 _) (Nat.le_refl _))).mono ?_
              rintro e w22 ⟨rfl, hb22⟩
              have hst22 : Below w21.heap.size w21 w22 := Below.trans (by repeat (first | (with_reducible exact Below.refl _ _) | (with_reducible apply Below.drew) | (with_reducible refine below_drewN ?_ _) | (refine Below.setCell ?_ (by simp <;> omega) _) | (refine Below.alloc ?_ (by simp <;> omega) _)) : Below w21.heap.size w21 _) (hb22.mono (Below.size (by repeat (first | (with_reducible exact Below.refl _ _) | (with_reducible apply Below.drew) | (with_reducible refine below_drewN ?_ _) | (refine Below.setCell ?_ (by simp <;> omega) _) | (refine Below.alloc ?_ (by simp <;> omega) _)) : Below w21.heap.size w21 _)))
              have hr22 : w21.heap.size ≤ w22.heap.size := Nat.le_trans (by first | exact Nat.le_refl _ | (simp; done) | (simp; omega) | (simp [World.setCell]; done) | (simp [World.setCell]; omega)) hb22.size
              have sz22_paOld : w.heap.size < w22.heap.size := Nat.lt_of_lt_of_le sz21_paOld hst22.size
              have bx22_paOld_0 : w22.cell? ⟨w.heap.size, 0, none⟩ = some (.slice a0_vOld vOld.fEntries.length c0_vOld) := (hst22.cell (p := ⟨w.heap.size, 0, none⟩) sz21_paOld).trans bx21_paOld_0
              have bx22_paOld_1 : w22.cell? ⟨w.heap.size, 1, none⟩ = some (.slice a1_vOld vOld.fEvaluated.length c1_vOld) := (hst22.cell (p := ⟨w.heap.size, 1, none⟩) sz21_paOld).trans bx21_paOld_1
              have sz22_paNow : w.heap.size + 1 < w22.heap.size := Nat.lt_of_lt_of_le sz21_paNow hst22.size
              have bx22_paNow_0 : w22.cell? ⟨w.heap.size + 1, 0, none⟩ = some (.slice a0_vNow vNow.fEntries.length c0_vNow) := (hst22.cell (p := ⟨w.heap.size + 1, 0, none⟩) sz21_paNow).trans bx21_paNow_0
              have bx22_paNow_1 : w22.cell? ⟨w.heap.size + 1, 1, none⟩ = some (.slice a1_vNow vNow.fEvaluated.length c1_vNow) := (hst22.cell (p := ⟨w.heap.size + 1, 1, none⟩) sz21_paNow).trans bx21_paNow_1
              have sz22_x0 : w6.heap.size < w22.heap.size := Nat.lt_of_lt_of_le sz21_x0 hst22.size
              have bx22_x0_0 : w22.cell? ⟨w6.heap.size, 0, none⟩ = some (.slice a0_vOld_6 vOld.fEntries.length c0_vOld_6) := (hst22.cell (p := ⟨w6.heap.size, 0, none⟩) sz21_x0).trans bx21_x0_0
              have bx22_x0_1 : w22.cell? ⟨w6.heap.size, 1, none⟩ = some (.slice a1_vOld_6 vOld.fEvaluated.length c1_vOld_6) := (hst22.cell (p := ⟨w6.heap.size, 1, none⟩) sz21_x0).trans bx21_x0_1
              have sz22_x1 : w7.heap.size < w22.heap.size := Nat.lt_of_lt_of_le sz21_x1 hst22.size
              have bx22_x1_0 : w22.cell? ⟨w7.heap.size, 0, none⟩ = some (.slice a0_vNow_7 vNow.fEntries.length c0_vNow_7) := (hst22.cell (p := ⟨w7.heap.size, 0, none⟩) sz21_x1).trans bx21_x1_0
              have bx22_x1_1 : w22.cell? ⟨w7.heap.size, 1, none⟩ = some (.slice a1_vNow_7 vNow.fEvaluated.length c1_vNow_7) := (hst22.cell (p := ⟨w7.heap.size, 1, none⟩) sz21_x1).trans bx21_x1_1
              have HO22_R_5 := Lib.hid (HO21_R_5.out.kept (Kept.of_below_all hst22))
              have HO22_R_8 := Lib.hid (HO21_R_8.out.kept (Kept.of_below_all hst22))
              have HO22_0_vOld_10 := Lib.hid (HO21_0_vOld_10.out.kept (Kept.of_below_all hst22))
              have HO22_1_vOld_10 := Lib.hid (HO21_1_vOld_10.out.kept (Kept.of_below_all hst22))
              have HO22_0_vNow_12 := Lib.hid (HO21_0_vNow_12.out.kept (Kept.of_below_all hst22))
              have HO22_1_vNow_12 := Lib.hid (HO21_1_vNow_12.out.kept (Kept.of_below_all hst22))
              have HO22_R_21 := Lib.hid (HO21_R_21.out.kept (Kept.of_below_all hst22))
              have HB22 := Lib.hid (HB21.out.trans (hst22.mono HB21.out.size))
              clear bx21_paOld_0 bx21_paOld_1 sz21_paOld bx21_paNow_0 bx21_paNow_1 sz21_paNow bx21_x0_0 bx21_x0_1 sz21_x0 bx21_x1_0 bx21_x1_1 sz21_x1 HO21_R_5 HO21_R_8 HO21_0_vOld_10 HO21_1_vOld_10 HO21_0_vNow_12 HO21_1_vNow_12 HO21_R_21 hb22 hst22 HB21
              go_wp2_with fail
              refine (laws_heldInstanceS (cap := c_R_8) (changed vOld.fEntries vNow.fEntries).length (by have h1 := changedM_len hq_vNow vOld.fEntries; omega) 1 (by omega) (by have h1 := changedM_len hq_vNow vOld.fEntries; omega) _ (HO22_R_8.out.kept (Kept.of_below (by repeat (first | (with_reducible exact Below.refl _ _) | (with_reducible apply Below.drew) | (with_reducible refine below_drewN ?_ _) | (refine Below.setCell ?_ (by simp <;> omega) _) | (refine Below.alloc ?_ (by simp <;> omega) _)) : Below w22.heap.size w22 _) (fun y hy => by have := hy.2; omega)))).mono ?_
              rintro e w23 ⟨rfl, hb23⟩
              have hst23 : Below w22.heap.size w22 w23 := Below.trans (by repeat (first | (with_reducible exact Below.refl _ _) | (with_reducible apply Below.drew) | (with_reducible refine below_drewN ?_ _) | (refine Below.setCell ?_ (by simp <;> omega) _) | (refine Below.alloc ?_ (by simp <;> omega) _)) : Below w22.heap.size w22 _) (hb23.mono (Below.size (by repeat (first | (with_reducible exact Below.refl _ _) | (with_reducible apply Below.drew) | (with_reducible refine below_drewN ?_ _) | (refine Below.setCell ?_ (by simp <;> omega) _) | (refine Below.alloc ?_ (by simp <;> omega) _)) : Below w22.heap.size w22 _)))
              have hr23 : w22.heap.size ≤ w23.heap.size := Nat.le_trans (by first | exact Nat.le_refl _ | (simp; done) | (simp; omega) | (simp [World.setCell]; done) | (simp [World.setCell]; omega)) hb23.size
              have sz23_paOld : w.heap.size < w23.heap.size := Nat.lt_of_lt_of_le sz22_paOld hst23.size
              have bx23_paOld_0 : w23.cell? ⟨w.heap.size, 0, none⟩ = some (.slice a0_vOld vOld.fEntries.length c0_vOld) := (hst23.cell (p := ⟨w.heap.size, 0, none⟩) sz22_paOld).trans bx22_paOld_0
              have bx23_paOld_1 : w23.cell? ⟨w.heap.size, 1, none⟩ = some (.slice a1_vOld vOld.fEvaluated.length c1_vOld) := (hst23.cell (p := ⟨w.heap.size, 1, none⟩) sz22_paOld).trans bx22_paOld_1
              have sz23_paNow : w.heap.size + 1 < w23.heap.size := Nat.lt_of_lt_of_le sz22_paNow hst23.size
              have bx23_paNow_0 : w23.cell? ⟨w.heap.size + 1, 0, none⟩ = some (.slice a0_vNow vNow.fEntries.length c0_vNow) := (hst23.cell (p := ⟨w.heap.size + 1, 0, none⟩) sz22_paNow).trans bx22_paNow_0
              have bx23_paNow_1 : w23.cell? ⟨w.heap.size + 1, 1, none⟩ = some (.slice a1_vNow vNow.fEvaluated.length c1_vNow) := (hst23.cell (p := ⟨w.heap.size + 1, 1, none⟩) sz22_paNow).trans bx22_paNow_1
              have sz23_x0 : w6.heap.size < w23.heap.size := Nat.lt_of_lt_of_le sz22_x0 hst23.size
              have bx23_x0_0 : w23.cell? ⟨w6.heap.size, 0, none⟩ = some (.slice a0_vOld_6 vOld.fEntries.length c0_vOld_6) := (hst23.cell (p := ⟨w6.heap.size, 0, none⟩) sz22_x0).trans bx22_x0_0
              have bx23_x0_1 : w23.cell? ⟨w6.heap.size, 1, none⟩ = some (.slice a1_vOld_6 vOld.fEvaluated.length c1_vOld_6) := (hst23.cell (p := ⟨w6.heap.size, 1, none⟩) sz22_x0).trans bx22_x0_1
              have sz23_x1 : w7.heap.size < w23.heap.size := Nat.lt_of_lt_of_le sz22_x1 hst23.size
              have bx23_x1_0 : w23.cell? ⟨w7.heap.size, 0, none⟩ = some (.slice a0_vNow_7 vNow.fEntries.length c0_vNow_7) := (hst23.cell (p := ⟨w7.heap.size, 0, none⟩) sz22_x1).trans bx22_x1_0
              have bx23_x1_1 : w23.cell? ⟨w7.heap.size, 1, none⟩ = some (.slice a1_vNow_7 vNow.fEvaluated.length c1_vNow_7) := (hst23.cell (p := ⟨w7.heap.size, 1, none⟩) sz22_x1).trans bx22_x1_1
              have HO23_R_5 := Lib.hid (HO22_R_5.out.kept (Kept.of_below_all hst23))
              have HO23_R_8 := Lib.hid (HO22_R_8.out.kept (Kept.of_below_all hst23))
              have HO23_0_vOld_10 := Lib.hid (HO22_0_vOld_10.out.kept (Kept.of_below_all hst23))
              have HO23_1_vOld_10 := Lib.hid (HO22_1_vOld_10.out.kept (Kept.of_below_all hst23))
              have HO23_0_vNow_12 := Lib.hid (HO22_0_vNow_12.out.kept (Kept.of_below_all hst23))
              have HO23_1_vNow_12 := Lib.hid (HO22_1_vNow_12.out.kept (Kept.of_below_all hst23))
              have HO23_R_21 := Lib.hid (HO22_R_21.out.kept (Kept.of_below_all hst23))
              have HB23 := Lib.hid (HB22.out.trans (hst23.mono HB22.out.size))
              clear bx22_paOld_0 bx22_paOld_1 sz22_paOld bx22_paNow_0 bx22_paNow_1 sz22_paNow bx22_x0_0 bx22_x0_1 sz22_x0 bx22_x1_0 bx22_x1_1 sz22_x1 HO22_R_5 HO22_R_8 HO22_0_vOld_10 HO22_1_vOld_10 HO22_0_vNow_12 HO22_1_vNow_12 HO22_R_21 hb23 hst23 HB22
              go_wp2
              go_ret
              exact ⟨rfl, HB23.out⟩
end Go.Proofs.Ytnjkgdicaagbeab.fnExactChangedValues
