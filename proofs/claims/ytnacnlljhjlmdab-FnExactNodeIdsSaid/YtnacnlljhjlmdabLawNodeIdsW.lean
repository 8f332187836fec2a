/-
  The law FnExactNodeIds: for every tree and every index the program's NodeIds answers as the model's, and its answer owns its memory. No condition.
-/
import Derived.Test.YtnacnlljhjlmdabNodeIds
import Derived.Test.YtnacnlljhjlmdabMkTree
import Derived.Test.YtnacnlljhjlmdabMkI
import Derived.SizedLaws
namespace Go.Proofs.Ytnacnlljhjlmdab.fnExactNodeIds
open Go.ChangeShapes Go.WideShapes Go.ChangeAt Go.RowKit Go.WideMaps Go.WideElems
open Go.ChangeMaps (open_string)
open Go.Lib Go.Deep

set_option maxHeartbeats 6400000 in
set_option maxRecDepth 100000 in
theorem walk (vT : DTree) (a0_vT : Option Addr) (c0_vT : Nat) (ok_vT : DTree.ok vT) (vI : Int) (ok_vI : okI vI) (w : World) (hs_0_vT : Sl 0 w.heap.size w 6 vT.fNodes.length (fun k => DNode.ct (vT.fNodes.getD k default)) a0_vT) :
    Calls Try.prog 4 #[.agg #[.slice a0_vT vT.fNodes.length c0_vT], .int .i64 vI] w fun e w' => e = .returned (.bool true) ∧ Below w.heap.size w w' := by
  have HS_0_vT := Lib.hid hs_0_vT
  clear hs_0_vT
  have OK_vT := Lib.hid ok_vT
  clear ok_vT
  have okb_vI : -9223372036854775808 ≤ vI ∧ vI ≤ 9223372036854775807 := ok_vI
  have OK_vI := Lib.hid ok_vI
  clear ok_vI
  by_cases h0 : 1048576 < ((DTree.sz vT : Nat) : Int)
  · skip
    have hz := fun (hi : Nat) (w' : World) (hhi : hi ≤ w'.heap.size) (hs_0_vT : Sl 0 hi w' 6 vT.fNodes.length (fun k => DNode.ct (vT.fNodes.getD k default)) a0_vT) => laws_szTree (c0 := c0_vT) vT 1048576 (by omega) (by omega) OK_vT.out w' hhi hs_0_vT
    rw [szR_gt (by omega)] at hz
    have HZ_vT := Lib.hid hz
    clear hz
    go_enter Try.func4, Try.ntmps4
    go_wp2_with fail
    refine (HZ_vT.out w.heap.size _ (Below.size (by repeat (first | (with_reducible exact Below.refl _ _) | (with_reducible apply Below.drew) | (with_reducible refine below_drewN ?_ _) | (refine Below.setCell ?_ (by simp <;> omega) _) | (refine Below.alloc ?_ (by simp <;> omega) _)) : Below w.heap.size w _)) ((HS_0_vT.out.later ((Below.refl w.heap.size w).trans ((by repeat (first | (with_reducible exact Below.refl _ _) | (with_reducible apply Below.drew) | (with_reducible refine below_drewN ?_ _) | (refine Below.setCell ?_ (by simp <;> omega) _) | (refine Below.alloc ?_ (by simp <;> omega) _)) : Below w.heap.size w _).mono (Below.refl w.heap.size w).size)) (Nat.le_refl _)).mono (Nat.le_refl _) (Below.refl w.heap.size w).size)).mono ?_
    rintro e w1 ⟨rfl, hb1⟩
    have hst1 : Below w.heap.size w w1 := Below.trans (by repeat (first | (with_reducible exact Below.refl _ _) | (with_reducible apply Below.drew) | (with_reducible refine below_drewN ?_ _) | (refine Below.setCell ?_ (by simp <;> omega) _) | (refine Below.alloc ?_ (by simp <;> omega) _)) : Below w.heap.size w _) (hb1.mono (Below.size (by repeat (first | (with_reducible exact Below.refl _ _) | (with_reducible apply Below.drew) | (with_reducible refine below_drewN ?_ _) | (refine Below.setCell ?_ (by simp <;> omega) _) | (refine Below.alloc ?_ (by simp <;> omega) _)) : Below w.heap.size w _)))
    have hr1 : w.heap.size + 1 ≤ w1.heap.size := Nat.le_trans (by first | exact Nat.le_refl _ | (simp; done) | (simp; omega) | (simp [World.setCell]; done) | (simp [World.setCell]; omega)) hb1.size
    have sz1_paT : w.heap.size < w1.heap.size := Nat.lt_of_lt_of_le (by first | omega | (simp; done) | (simp; omega) | (simp [World.setCell]; omega)) hb1.size
    have bx1_paT_0 : w1.cell? ⟨w.heap.size, 0, none⟩ = some (.slice a0_vT vT.fNodes.length c0_vT) := (hb1.cell (p := ⟨w.heap.size, 0, none⟩) (by first | omega | (simp; done) | (simp; omega) | (simp [World.setCell]; omega))).trans (by go_simp)
    have HB1 := Lib.hid ((Below.refl w.heap.size w).trans (hst1.mono (Below.refl w.heap.size w).size))
    clear hb1 hst1
    go_wp2
    go_ret
    exact ⟨rfl, HB1.out⟩
  · skip
    have hz := fun (hi : Nat) (w' : World) (hhi : hi ≤ w'.heap.size) (hs_0_vT : Sl 0 hi w' 6 vT.fNodes.length (fun k => DNode.ct (vT.fNodes.getD k default)) a0_vT) => laws_szTree (c0 := c0_vT) vT 1048576 (by omega) (by omega) OK_vT.out w' hhi hs_0_vT
    rw [szR_le (by omega)] at hz
    have HZ_vT := Lib.hid hz
    clear hz
    have hq_vT : DTree.sz vT ≤ 1048576 := by omega
    have hq_R : (lsz (fun _ => 0)) (nodeIds vT.fNodes vI) ≤ 1048576 := nodeIds_sz hq_vT vI
    go_enter Try.func4, Try.ntmps4
    go_wp2_with fail
    refine (HZ_vT.out w.heap.size _ (Below.size (by repeat (first | (with_reducible exact Below.refl _ _) | (with_reducible apply Below.drew) | (with_reducible refine below_drewN ?_ _) | (refine Below.setCell ?_ (by simp <;> omega) _) | (refine Below.alloc ?_ (by simp <;> omega) _)) : Below w.heap.size w _)) ((HS_0_vT.out.later ((Below.refl w.heap.size w).trans ((by repeat (first | (with_reducible exact Below.refl _ _) | (with_reducible apply Below.drew) | (with_reducible refine below_drewN ?_ _) | (refine Below.setCell ?_ (by simp <;> omega) _) | (refine Below.alloc ?_ (by simp <;> omega) _)) : Below w.heap.size w _).mono (Below.refl w.heap.size w).size)) (Nat.le_refl _)).mono (Nat.le_refl _) (Below.refl w.heap.size w).size)).mono ?_
    rintro e w1 ⟨rfl, hb1⟩
    have hst1 : Below w.heap.size w w1 := Below.trans (by repeat (first | (with_reducible exact Below.refl _ _) | (with_reducible apply Below.drew) | (with_reducible refine below_drewN ?_ _) | (refine Below.setCell ?_ (by simp <;> omega) _) | (refine Below.alloc ?_ (by simp <;> omega) _)) : Below w.heap.size w _) (hb1.mono (Below.size (by repeat (first | (with_reducible exact Below.refl _ _) | (with_reducible apply Below.drew) | (with_reducible refine below_drewN ?_ _) | (refine Below.setCell ?_ (by simp <;> omega) _) | (refine Below.alloc ?_ (by simp <;> omega) _)) : Below w.heap.size w _)))
    have hr1 : w.heap.size + 1 ≤ w1.heap.size := Nat.le_trans (by first | exact Nat.le_refl _ | (simp; done) | (simp; omega) | (simp [World.setCell]; done) | (simp [World.setCell]; omega)) hb1.size
    have sz1_paT : w.heap.size < w1.heap.size := Nat.lt_of_lt_of_le (by first | omega | (simp; done) | (simp; omega) | (simp [World.setCell]; omega)) hb1.size
    have bx1_paT_0 : w1.cell? ⟨w.heap.size, 0, none⟩ = some (.slice a0_vT vT.fNodes.length c0_vT) := (hb1.cell (p := ⟨w.heap.size, 0, none⟩) (by first | omega | (simp; done) | (simp; omega) | (simp [World.setCell]; omega))).trans (by go_simp)
    have HB1 := Lib.hid ((Below.refl w.heap.size w).trans (hst1.mono (Below.refl w.heap.size w).size))
    clear hb1 hst1
    go_wp2_with fail
    refine (laws_toTree (c0 := c0_vT) vT hq_vT _ (Below.size (by repeat (first | (with_reducible exact Below.refl _ _) | (with_reducible apply Below.drew) | (with_reducible refine below_drewN ?_ _) | (refine Below.setCell ?_ (by simp <;> omega) _) | (refine Below.alloc ?_ (by simp <;> omega) _)) : Below w1.heap.size w1 _)) ((HS_0_vT.out.later (HB1.out.trans ((by repeat (first | (with_reducible exact Below.refl _ _) | (with_reducible apply Below.drew) | (with_reducible refine below_drewN ?_ _) | (refine Below.setCell ?_ (by simp <;> omega) _) | (refine Below.alloc ?_ (by simp <;> omega) _)) : Below w1.heap.size w1 _).mono HB1.out.size)) (Nat.le_refl _)).mono (Nat.le_refl _) HB1.out.size)).mono ?_
    rintro e w2 ⟨a0_vT_2, c0_vT_2, rfl, ho2, hb2⟩
    have hst2 : Below w1.heap.size w1 w2 := Below.trans (by repeat (first | (with_reducible exact Below.refl _ _) | (with_reducible apply Below.drew) | (with_reducible refine below_drewN ?_ _) | (refine Below.setCell ?_ (by simp <;> omega) _) | (refine Below.alloc ?_ (by simp <;> omega) _)) : Below w1.heap.size w1 _) (hb2.mono (Below.size (by repeat (first | (with_reducible exact Below.refl _ _) | (with_reducible apply Below.drew) | (with_reducible refine below_drewN ?_ _) | (refine Below.setCell ?_ (by simp <;> omega) _) | (refine Below.alloc ?_ (by simp <;> omega) _)) : Below w1.heap.size w1 _)))
    have hr2 : w1.heap.size ≤ w2.heap.size := Nat.le_trans (by first | exact Nat.le_refl _ | (simp; done) | (simp; omega) | (simp [World.setCell]; done) | (simp [World.setCell]; omega)) hb2.size
    have sz2_paT : w.heap.size < w2.heap.size := Nat.lt_of_lt_of_le sz1_paT hst2.size
    have bx2_paT_0 : w2.cell? ⟨w.heap.size, 0, none⟩ = some (.slice a0_vT vT.fNodes.length c0_vT) := (hst2.cell (p := ⟨w.heap.size, 0, none⟩) sz1_paT).trans bx1_paT_0
    have HO2_0_vT_2 := Lib.hid (show Own w2 (fun y => w1.heap.size ≤ y ∧ y < w2.heap.size) (.sl 6 vT.fNodes.length (fun k => DNode.ct (vT.fNodes.getD k default))) (.slice a0_vT_2 vT.fNodes.length c0_vT_2) from Own.sub (F := fun y => _ ≤ y ∧ y < _) (OwnR.at ho2 0 (by decide)) (fun y hy => ⟨Nat.le_trans (by first | exact Nat.le_refl _ | (simp; done) | (simp; omega) | (simp [World.setCell]; done) | (simp [World.setCell]; omega)) hy.1, hy.2⟩))
    have HB2 := Lib.hid (HB1.out.trans (hst2.mono HB1.out.size))
    clear bx1_paT_0 sz1_paT ho2 hb2 hst2 HB1
    go_wp2_with fail
    refine (spec_NodeIds (c0_0 := c0_vT_2) vT OK_vT.out hq_vT vI OK_vI.out _ (Below.size (by repeat (first | (with_reducible exact Below.refl _ _) | (with_reducible apply Below.drew) | (with_reducible refine below_drewN ?_ _) | (refine Below.setCell ?_ (by simp <;> omega) _) | (refine Below.alloc ?_ (by simp <;> omega) _)) : Below w2.heap.size w2 _)) ((Sl.of (HO2_0_vT_2.out.lies (lo := 0) (hi := w2.heap.size) (fun y hy => ⟨Nat.zero_le _, by have := hy.2; omega⟩))).later (by repeat (first | (with_reducible exact Below.refl _ _) | (with_reducible apply Below.drew) | (with_reducible refine below_drewN ?_ _) | (refine Below.setCell ?_ (by simp <;> omega) _) | (refine Below.alloc ?_ (by simp <;> omega) _)) : Below w2.heap.size w2 _) (Nat.le_refl _))).mono ?_
    rintro e w3 ⟨a_R_3, c_R_3, rfl, ho3, hb3⟩
    have hst3 : Below w2.heap.size w2 w3 := Below.trans (by repeat (first | (with_reducible exact Below.refl _ _) | (with_reducible apply Below.drew) | (with_reducible refine below_drewN ?_ _) | (refine Below.setCell ?_ (by simp <;> omega) _) | (refine Below.alloc ?_ (by simp <;> omega) _)) : Below w2.heap.size w2 _) (hb3.mono (Below.size (by repeat (first | (with_reducible exact Below.refl _ _) | (with_reducible apply Below.drew) | (with_reducible refine below_drewN ?_ _) | (refine Below.setCell ?_ (by simp <;> omega) _) | (refine Below.alloc ?_ (by simp <;> omega) _)) : Below w2.heap.size w2 _)))
    have hr3 : w2.heap.size ≤ w3.heap.size := Nat.le_trans (by first | exact Nat.le_refl _ | (simp; done) | (simp; omega) | (simp [World.setCell]; done) | (simp [World.setCell]; omega)) hb3.size
    have sz3_paT : w.heap.size < w3.heap.size := Nat.lt_of_lt_of_le sz2_paT hst3.size
    have bx3_paT_0 : w3.cell? ⟨w.heap.size, 0, none⟩ = some (.slice a0_vT vT.fNodes.length c0_vT) := (hst3.cell (p := ⟨w.heap.size, 0, none⟩) sz2_paT).trans bx2_paT_0
    have HO3_0_vT_2 := Lib.hid (HO2_0_vT_2.out.kept (Kept.of_below_all hst3))
    have HO3_R_3 := Lib.hid (show Own w3 (fun y => w2.heap.size ≤ y ∧ y < w3.heap.size) (.sl 1 (nodeIds vT.fNodes vI).length (fun k => ictI ((nodeIds vT.fNodes vI).getD k default))) (.slice a_R_3 (nodeIds vT.fNodes vI).length c_R_3) from Own.sub (F := fun y => _ ≤ y ∧ y < _) ho3 (fun y hy => ⟨Nat.le_trans (by first | exact Nat.le_refl _ | (simp; done) | (simp; omega) | (simp [World.setCell]; done) | (simp [World.setCell]; omega)) hy.1, hy.2⟩))
    have HB3 := Lib.hid (HB2.out.trans (hst3.mono HB2.out.size))
    clear bx2_paT_0 sz2_paT HO2_0_vT_2 ho3 hb3 hst3 HB2
    go_wp2_with fail
    refine (laws_toTree (c0 := c0_vT) vT hq_vT _ (Below.size (by repeat (first | (with_reducible exact Below.refl _ _) | (with_reducible apply Below.drew) | (with_reducible refine below_drewN ?_ _) | (refine Below.setCell ?_ (by simp <;> omega) _) | (refine Below.alloc ?_ (by simp <;> omega) _)) : Below w3.heap.size w3 _)) ((HS_0_vT.out.later (HB3.out.trans ((by repeat (first | (with_reducible exact Below.refl _ _) | (with_reducible apply Below.drew) | (with_reducible refine below_drewN ?_ _) | (refine Below.setCell ?_ (by simp <;> omega) _) | (refine Below.alloc ?_ (by simp <;> omega) _)) : Below w3.heap.size w3 _).mono HB3.out.size)) (Nat.le_refl _)).mono (Nat.le_refl _) HB3.out.size)).mono ?_
    rintro e w4 ⟨a0_vT_4, c0_vT_4, rfl, ho4, hb4⟩
    have hst4 : Below w3.heap.size w3 w4 := Below.trans (by repeat (first | (with_reducible exact Below.refl _ _) | (with_reducible apply Below.drew) | (with_reducible refine below_drewN ?_ _) | (refine Below.setCell ?_ (by simp <;> omega) _) | (refine Below.alloc ?_ (by simp <;> omega) _)) : Below w3.heap.size w3 _) (hb4.mono (Below.size (by repeat (first | (with_reducible exact Below.refl _ _) | (with_reducible apply Below.drew) | (with_reducible refine below_drewN ?_ _) | (refine Below.setCell ?_ (by simp <;> omega) _) | (refine Below.alloc ?_ (by simp <;> omega) _)) : Below w3.heap.size w3 _)))
    have hr4 : w3.heap.size ≤ w4.heap.size := Nat.le_trans (by first | exact Nat.le_refl _ | (simp; done) | (simp; omega) | (simp [World.setCell]; done) | (simp [World.setCell]; omega)) hb4.size
    have sz4_paT : w.heap.size < w4.heap.size := Nat.lt_of_lt_of_le sz3_paT hst4.size
    have bx4_paT_0 : w4.cell? ⟨w.heap.size, 0, none⟩ = some (.slice a0_vT vT.fNodes.length c0_vT) := (hst4.cell (p := ⟨w.heap.size, 0, none⟩) sz3_paT).trans bx3_paT_0
    have HO4_0_vT_2 := Lib.hid (HO3_0_vT_2.out.kept (Kept.of_below_all hst4))
    have HO4_R_3 := Lib.hid (HO3_R_3.out.kept (Kept.of_below_all hst4))
    have HR4_vT_4 := Lib.hid (OwnR.sub (F' := fun y => w3.heap.size ≤ y ∧ y < w4.heap.size) ho4 (fun y hy => ⟨Nat.le_trans (by first | exact Nat.le_refl _ | (simp; done) | (simp; omega) | (simp [World.setCell]; done) | (simp [World.setCell]; omega)) hy.1, hy.2⟩))
    have HO4_0_vT_4 := Lib.hid (show Own w4 (fun y => w3.heap.size ≤ y ∧ y < w4.heap.size) (.sl 6 vT.fNodes.length (fun k => DNode.ct (vT.fNodes.getD k default))) (.slice a0_vT_4 vT.fNodes.length c0_vT_4) from Own.sub (F := fun y => _ ≤ y ∧ y < _) (OwnR.at ho4 0 (by decide)) (fun y hy => ⟨Nat.le_trans (by first | exact Nat.le_refl _ | (simp; done) | (simp; omega) | (simp [World.setCell]; done) | (simp [World.setCell]; omega)) hy.1, hy.2⟩))
    have HB4 := Lib.hid (HB3.out.trans (hst4.mono HB3.out.size))
    clear bx3_paT_0 sz3_paT HO3_0_vT_2 HO3_R_3 ho4 hb4 hst4 HB3
    go_wp2_with fail
    refine (impl_NodeIds (c0_0 := c0_vT_4) vT OK_vT.out hq_vT vI OK_vI.out _ (Below.size (by repeat (first | (with_reducible exact Below.refl _ _) | (with_reducible apply Below.drew) | (with_reducible refine below_drewN ?_ _) | (refine Below.setCell ?_ (by simp <;> omega) _) | (refine Below.alloc ?_ (by simp <;> omega) _)) : Below w4.heap.size w4 _)) ((Sl.of (HO4_0_vT_4.out.lies (lo := 0) (hi := w4.heap.size) (fun y hy => ⟨Nat.zero_le _, by have := hy.2; omega⟩))).later (by repeat (first | (with_reducible exact Below.refl _ _) | (with_reducible apply Below.drew) | (with_reducible refine below_drewN ?_ _) | (refine Below.setCell ?_ (by simp <;> omega) _) | (refine Below.alloc ?_ (by simp <;> omega) _)) : Below w4.heap.size w4 _) (Nat.le_refl _))).mono ?_
    rintro e w5 ⟨a_R_5, c_R_5, rfl, ho5, hb5⟩
    have hst5 : Below w4.heap.size w4 w5 := Below.trans (by repeat (first | (with_reducible exact Below.refl _ _) | (with_reducible apply Below.drew) | (with_reducible refine below_drewN ?_ _) | (refine Below.setCell ?_ (by simp <;> omega) _) | (refine Below.alloc ?_ (by simp <;> omega) _)) : Below w4.heap.size w4 _) (hb5.mono (Below.size (by repeat (first | (with_reducible exact Below.refl _ _) | (with_reducible apply Below.drew) | (with_reducible refine below_drewN ?_ _) | (refine Below.setCell ?_ (by simp <;> omega) _) | (refine Below.alloc ?_ (by simp <;> omega) _)) : Below w4.heap.size w4 _)))
    have hr5 : w4.heap.size + 1 ≤ w5.heap.size := Nat.le_trans (by first | exact Nat.le_refl _ | (simp; done) | (simp; omega) | (simp [World.setCell]; done) | (simp [World.setCell]; omega)) hb5.size
    have sz5_paT : w.heap.size < w5.heap.size := Nat.lt_of_lt_of_le sz4_paT hst5.size
    have bx5_paT_0 : w5.cell? ⟨w.heap.size, 0, none⟩ = some (.slice a0_vT vT.fNodes.length c0_vT) := (hst5.cell (p := ⟨w.heap.size, 0, none⟩) sz4_paT).trans bx4_paT_0
    have sz5_x0 : w4.heap.size < w5.heap.size := Nat.lt_of_lt_of_le (by first | omega | (simp; done) | (simp; omega) | (simp [World.setCell]; omega)) hb5.size
    have bx5_x0_0 : w5.cell? ⟨w4.heap.size, 0, none⟩ = some (.slice a0_vT_4 vT.fNodes.length c0_vT_4) := (hb5.cell (p := ⟨w4.heap.size, 0, none⟩) (by first | omega | (simp; done) | (simp; omega) | (simp [World.setCell]; omega))).trans (by go_simp)
    have HO5_0_vT_2 := Lib.hid (HO4_0_vT_2.out.kept (Kept.of_below_all hst5))
    have HO5_R_3 := Lib.hid (HO4_R_3.out.kept (Kept.of_below_all hst5))
    have HO5_0_vT_4 := Lib.hid (HO4_0_vT_4.out.kept (Kept.of_below_all hst5))
    have HR5_vT_4 := Lib.hid (HR4_vT_4.out.kept (Kept.of_below_all hst5))
    have HO5_R_5 := Lib.hid (show Own w5 (fun y => w4.heap.size + 1 ≤ y ∧ y < w5.heap.size) (.sl 1 (nodeIds vT.fNodes vI).length (fun k => ictI ((nodeIds vT.fNodes vI).getD k default))) (.slice a_R_5 (nodeIds vT.fNodes vI).length c_R_5) from Own.sub (F := fun y => _ ≤ y ∧ y < _) ho5 (fun y hy => ⟨Nat.le_trans (by first | exact Nat.le_refl _ | (simp; done) | (simp; omega) | (simp [World.setCell]; done) | (simp [World.setCell]; omega)) hy.1, hy.2⟩))
    have HB5 := Lib.hid (HB4.out.trans (hst5.mono HB4.out.size))
    clear bx4_paT_0 sz4_paT HO4_0_vT_2 HO4_R_3 HO4_0_vT_4 HR4_vT_4 ho5 hb5 hst5 HB4
    go_wp2_with fail
    refine (laws_eqIntS (cap := c_R_5) (cap2 := c_R_3) (nodeIds vT.fNodes vI) hq_R _ (Below.size (by repeat (first | (with_reducible exact Below.refl _ _) | (with_reducible apply Below.drew) | (with_reducible refine below_drewN ?_ _) | (refine Below.setCell ?_ (by simp <;> omega) _) | (refine Below.alloc ?_ (by simp <;> omega) _)) : Below w5.heap.size w5 _)) (Below.size (by repeat (first | (with_reducible exact Below.refl _ _) | (with_reducible apply Below.drew) | (with_reducible refine below_drewN ?_ _) | (refine Below.setCell ?_ (by simp <;> omega) _) | (refine Below.alloc ?_ (by simp <;> omega) _)) : Below w5.heap.size w5 _)) ((Sl.of (HO5_R_5.out.lies (lo := 0) (hi := w5.heap.size) (fun y hy => ⟨Nat.zero_le _, by have := hy.2; omega⟩))).later (by repeat (first | (with_reducible exact Below.refl _ _) | (with_reducible apply Below.drew) | (with_reducible refine below_drewN ?_ _) | (refine Below.setCell ?_ (by simp <;> omega) _) | (refine Below.alloc ?_ (by simp <;> omega) _)) : Below w5.heap.size w5 _) (Nat.le_refl _)) ((Sl.of (HO5_R_3.out.lies (lo := 0) (hi := w5.heap.size) (fun y hy => ⟨Nat.zero_le _, by have := hy.2; omega⟩))).later (by repeat (first | (with_reducible exact Below.refl _ _) | (with_reducible apply Below.drew) | (with_reducible refine below_drewN ?_ _) | (refine Below.setCell ?_ (by simp <;> omega) _) | (refine Below.alloc ?_ (by simp <;> omega) _)) : Below w5.heap.size w5 _) (Nat.le_refl _))).mono ?_
    rintro e w6 ⟨rfl, hb6⟩
    have hst6 : Below w5.heap.size w5 w6 := Below.trans (by repeat (first | (with_reducible exact Below.refl _ _) | (with_reducible apply Below.drew) | (with_reducible refine below_drewN ?_ _) | (refine Below.setCell ?_ (by simp <;> omega) _) | (refine Below.alloc ?_ (by simp <;> omega) _)) : Below w5.heap.size w5 _) (hb6.mono (Below.size (by repeat (first | (with_reducible exact Below.refl _ _) | (with_reducible apply Below.drew) | (with_reducible refine below_drewN ?_ _) | (refine Below.setCell ?_ (by simp <;> omega) _) | (refine Below.alloc ?_ (by simp <;> omega) _)) : Below w5.heap.size w5 _)))
    have hr6 : w5.heap.size ≤ w6.heap.size := Nat.le_trans (by first | exact Nat.le_refl _ | (simp; done) | (simp; omega) | (simp [World.setCell]; done) | (simp [World.setCell]; omega)) hb6.size
    have sz6_paT : w.heap.size < w6.heap.size := Nat.lt_of_lt_of_le sz5_paT hst6.size
    have bx6_paT_0 : w6.cell? ⟨w.heap.size, 0, none⟩ = some (.slice a0_vT vT.fNodes.length c0_vT) := (hst6.cell (p := ⟨w.heap.size, 0, none⟩) sz5_paT).trans bx5_paT_0
    have sz6_x0 : w4.heap.size < w6.heap.size := Nat.lt_of_lt_of_le sz5_x0 hst6.size
    have bx6_x0_0 : w6.cell? ⟨w4.heap.size, 0, none⟩ = some (.slice a0_vT_4 vT.fNodes.length c0_vT_4) := (hst6.cell (p := ⟨w4.heap.size, 0, none⟩) sz5_x0).trans bx5_x0_0
    have HO6_0_vT_2 := Lib.hid (HO5_0_vT_2.out.kept (Kept.of_below_all hst6))
    have HO6_R_3 := Lib.hid (HO5_R_3.out.kept (Kept.of_below_all hst6))
    have HO6_0_vT_4 := Lib.hid (HO5_0_vT_4.out.kept (Kept.of_below_all hst6))
    have HO6_R_5 := Lib.hid (HO5_R_5.out.kept (Kept.of_below_all hst6))
    have HR6_vT_4 := Lib.hid (HR5_vT_4.out.kept (Kept.of_below_all hst6))
    have HB6 := Lib.hid (HB5.out.trans (hst6.mono HB5.out.size))
    clear bx5_paT_0 sz5_paT bx5_x0_0 sz5_x0 HO5_0_vT_2 HO5_R_3 HO5_0_vT_4 HO5_R_5 HR5_vT_4 hb6 hst6 HB5
    go_wp2_with fail
    go_region_with ((first | (go_at_call 21; refine (laws_toTree (c0 := c0_vT) vT hq_vT _ (Below.size (by repeat (first | (with_reducible exact Below.refl _ _) | (with_reducible apply Below.drew) | (with_reducible refine below_drewN ?_ _) | (refine Below.setCell ?_ (by simp <;> omega) _) | (refine Below.alloc ?_ (by simp <;> omega) _)) : Below w6.heap.size w6 _)) ((HS_0_vT.out.later (HB6.out.trans ((by repeat (first | (with_reducible exact Below.refl _ _) | (with_reducible apply Below.drew) | (with_reducible refine below_drewN ?_ _) | (refine Below.setCell ?_ (by simp <;> omega) _) | (refine Below.alloc ?_ (by simp <;> omega) _)) : Below w6.heap.size w6 _).mono HB6.out.size)) (Nat.le_refl _)).mono (Nat.le_refl _) HB6.out.size)).mono ?_; rintro e w7 ⟨a0_vT_7, c0_vT_7, rfl, ho7, hb7⟩; have hst7 : Below w6.heap.size w6 w7 := Below.trans (by repeat (first | (with_reducible exact Below.refl _ _) | (with_reducible apply Below.drew) | (with_reducible refine below_drewN ?_ _) | (refine Below.setCell ?_ (by simp <;> omega) _) | (refine Below.alloc ?_ (by simp <;> omega) _)) : Below w6.heap.size w6 _) (hb7.mono (Below.size (by repeat (first | (with_reducible exact Below.refl _ _) | (with_reducible apply Below.drew) | (with_reducible refine below_drewN ?_ _) | (refine Below.setCell ?_ (by simp <;> omega) _) | (refine Below.alloc ?_ (by simp <;> omega) _)) : Below w6.heap.size w6 _))); have hr7 : w6.heap.size ≤ w7.heap.size := Nat.le_trans (by first | exact Nat.le_refl _ | (simp; done) | (simp; omega) | (simp [World.setCell]; done) | (simp [World.setCell]; omega)) hb7.size; have sz7_paT : w.heap.size < w7.heap.size := Nat.lt_of_lt_of_le sz6_paT hst7.size; have bx7_paT_0 : w7.cell? ⟨w.heap.size, 0, none⟩ = some (.slice a0_vT vT.fNodes.length c0_vT) := (hst7.cell (p := ⟨w.heap.size, 0, none⟩) sz6_paT).trans bx6_paT_0; have sz7_x0 : w4.heap.size < w7.heap.size := Nat.lt_of_lt_of_le sz6_x0 hst7.size; have bx7_x0_0 : w7.cell? ⟨w4.heap.size, 0, none⟩ = some (.slice a0_vT_4 vT.fNodes.length c0_vT_4) := (hst7.cell (p := ⟨w4.heap.size, 0, none⟩) sz6_x0).trans bx6_x0_0; have HO7_0_vT_2 := Lib.hid (HO6_0_vT_2.out.kept (Kept.of_below_all hst7)); have HO7_R_3 := Lib.hid (HO6_R_3.out.kept (Kept.of_below_all hst7)); have HO7_0_vT_4 := Lib.hid (HO6_0_vT_4.out.kept (Kept.of_below_all hst7)); have HO7_R_5 := Lib.hid (HO6_R_5.out.kept (Kept.of_below_all hst7)); have HR7_vT_4 := Lib.hid (HR6_vT_4.out.kept (Kept.of_below_all hst7)); have HO7_0_vT_7 := Lib.hid (show Own w7 (fun y => w6.heap.size ≤ y ∧ y < w7.heap.size) (.sl 6 vT.fNodes.length (fun k => DNode.ct (vT.fNodes.getD k default))) (.slice a0_vT_7 vT.fNodes.length c0_vT_7) from Own.sub (F := fun y => _ ≤ y ∧ y < _) (OwnR.at ho7 0 (by decide)) (fun y hy => ⟨Nat.le_trans (by first | exact Nat.le_refl _ | (simp; done) | (simp; omega) | (simp [World.setCell]; done) | (simp [World.setCell]; omega)) hy.1, hy.2⟩)); have HB7 := Lib.hid (HB6.out.trans (hst7.mono HB6.out.size)); clear bx6_paT_0 sz6_paT bx6_x0_0 sz6_x0 HO6_0_vT_2 HO6_R_3 HO6_0_vT_4 HO6_R_5 HR6_vT_4 ho7 hb7 hst7 HB6) | (go_at_call 24; refine (laws_eqTree (c0 := c0_vT_4) (c0q := c0_vT_7) vT hq_vT _ (Below.size (by repeat (first | (with_reducible exact Below.refl _ _) | (with_reducible apply Below.drew) | (with_reducible refine below_drewN ?_ _) | (refine Below.setCell ?_ (by simp <;> omega) _) | (refine Below.alloc ?_ (by simp <;> omega) _)) : Below w7.heap.size w7 _)) (Below.size (by repeat (first | (with_reducible exact Below.refl _ _) | (with_reducible apply Below.drew) | (with_reducible refine below_drewN ?_ _) | (refine Below.setCell ?_ (by simp <;> omega) _) | (refine Below.alloc ?_ (by simp <;> omega) _)) : Below w7.heap.size w7 _)) ((Sl.of (HO7_0_vT_4.out.lies (lo := 0) (hi := w7.heap.size) (fun y hy => ⟨Nat.zero_le _, by have := hy.2; omega⟩))).later (by repeat (first | (with_reducible exact Below.refl _ _) | (with_reducible apply Below.drew) | (with_reducible refine below_drewN ?_ _) | (refine Below.setCell ?_ (by simp <;> omega) _) | (refine Below.alloc ?_ (by simp <;> omega) _)) : Below w7.heap.size w7 _) (Nat.le_refl _)) ((Sl.of (HO7_0_vT_7.out.lies (lo := 0) (hi := w7.heap.size) (fun y hy => ⟨Nat.zero_le _, by have := hy.2; omega⟩))).later (by repeat (first | (with_reducible exact Below.refl _ _) | (with_reducible apply Below.drew) | (with_reducible refine below_drewN ?_ _) | (refine Below.setCell ?_ (by simp <;> omega) _) | (refine Below.alloc ?_ (by simp <;> omega) _)) : Below w7.heap.size w7 _) (Nat.le_refl _))).mono ?_; rintro e w8 ⟨rfl, hb8⟩; have hst8 : Below w7.heap.size w7 w8 := Below.trans (by repeat (first | (with_reducible exact Below.refl _ _) | (with_reducible apply Below.drew) | (with_reducible refine below_drewN ?_ _) | (refine Below.setCell ?_ (by simp <;> omega) _) | (refine Below.alloc ?_ (by simp <;> omega) _)) : Below w7.heap.size w7 _) (hb8.mono (Below.size (by repeat (first | (with_reducible exact Below.refl _ _) | (with_reducible apply Below.drew) | (with_reducible refine below_drewN ?_ _) | (refine Below.setCell ?_ (by simp <;> omega) _) | (refine Below.alloc ?_ (by simp <;> omega) _)) : Below w7.heap.size w7 _))); have hr8 : w7.heap.size ≤ w8.heap.size := Nat.le_trans (by first | exact Nat.le_refl _ | (simp; done) | (simp; omega) | (simp [World.setCell]; done) | (simp [World.setCell]; omega)) hb8.size; have sz8_paT : w.heap.size < w8.heap.size := Nat.lt_of_lt_of_le sz7_paT hst8.size; have bx8_paT_0 : w8.cell? ⟨w.heap.size, 0, none⟩ = some (.slice a0_vT vT.fNodes.length c0_vT) := (hst8.cell (p := ⟨w.heap.size, 0, none⟩) sz7_paT).trans bx7_paT_0; have sz8_x0 : w4.heap.size < w8.heap.size := Nat.lt_of_lt_of_le sz7_x0 hst8.size; have bx8_x0_0 : w8.cell? ⟨w4.heap.size, 0, none⟩ = some (.slice a0_vT_4 vT.fNodes.length c0_vT_4) := (hst8.cell (p := ⟨w4.heap.size, 0, none⟩) sz7_x0).trans bx7_x0_0; have HO8_0_vT_2 := Lib.hid (HO7_0_vT_2.out.kept (Kept.of_below_all hst8)); have HO8_R_3 := Lib.hid (HO7_R_3.out.kept (Kept.of_below_all hst8)); have HO8_0_vT_4 := Lib.hid (HO7_0_vT_4.out.kept (Kept.of_below_all hst8)); have HO8_R_5 := Lib.hid (HO7_R_5.out.kept (Kept.of_below_all hst8)); have HO8_0_vT_7 := Lib.hid (HO7_0_vT_7.out.kept (Kept.of_below_all hst8)); have HR8_vT_4 := Lib.hid (HR7_vT_4.out.kept (Kept.of_below_all hst8)); have HB8 := Lib.hid (HB7.out.trans (hst8.mono HB7.out.size)); clear bx7_paT_0 sz7_paT bx7_x0_0 sz7_x0 HO7_0_vT_2 HO7_R_3 HO7_0_vT_4 HO7_R_5 HO7_0_vT_7 HR7_vT_4 hb8 hst8 HB7)))
    all_goals
      go_wp2_with fail
      refine (wmark_Tree (c0 := c0_vT_4) vT hq_vT 1 (by omega) (by omega) _ (fun y hy => Nat.lt_of_lt_of_le (show y < w8.heap.size by have := hy.2; omega) (Below.size (by repeat (first | (with_reducible exact Below.refl _ _) | (with_reducible apply Below.drew) | (with_reducible refine below_drewN ?_ _) | (refine Below.setCell ?_ (by simp <;> omega) _) | (refine Below.alloc ?_ (by simp <;> omega) _)) : Below w8.heap.size w8 _))) (HR8_vT_4.out.kept (Kept.of_below (by repeat (first | (with_reducible exact Below.refl _ _) | (with_reducible apply Below.drew) | (with_reducible refine below_drewN ?_ _) | (refine Below.setCell ?_ (by simp <;> omega) _) | (refine Below.alloc ?_ (by simp <;> omega) _)) : Below w8.heap.size w8 _) (fun y hy => by have := hy.2; omega)))).mono ?_
      rintro e w9 ⟨k9, rfl, hka9, hkb9, hw9⟩
      have hkz9 : 1 ≤ k9 ∧ k9 ≤ 4294967296 := by omega
      have hst9 : WritesF (fun y => w3.heap.size ≤ y ∧ y < w4.heap.size) w8 w9 := hw9.of_below (by repeat (first | (with_reducible exact Below.refl _ _) | (with_reducible apply Below.drew) | (with_reducible refine below_drewN ?_ _) | (refine Below.setCell ?_ (by simp <;> omega) _) | (refine Below.alloc ?_ (by simp <;> omega) _)) : Below w8.heap.size w8 _)
      have hr9 : w8.heap.size ≤ w9.heap.size := Nat.le_trans (by first | exact Nat.le_refl _ | (simp; done) | (simp; omega) | (simp [World.setCell]; done) | (simp [World.setCell]; omega)) hw9.size
      have sz9_paT : w.heap.size < w9.heap.size := Nat.lt_of_lt_of_le sz8_paT hst9.size
      have bx9_paT_0 : w9.cell? ⟨w.heap.size, 0, none⟩ = some (.slice a0_vT vT.fNodes.length c0_vT) := (World.cell?_of_block (a := ⟨w.heap.size, 0, none⟩) (hst9.block w.heap.size sz8_paT (fun hf => by have h1 := hf.1; have h2 := hf.2; omega))).trans bx8_paT_0
      have sz9_x0 : w4.heap.size < w9.heap.size := Nat.lt_of_lt_of_le sz8_x0 hst9.size
      have bx9_x0_0 : w9.cell? ⟨w4.heap.size, 0, none⟩ = some (.slice a0_vT_4 vT.fNodes.length c0_vT_4) := (World.cell?_of_block (a := ⟨w4.heap.size, 0, none⟩) (hst9.block w4.heap.size sz8_x0 (fun hf => by have h1 := hf.1; have h2 := hf.2; omega))).trans bx8_x0_0
      have HO9_0_vT_2 := Lib.hid (HO8_0_vT_2.out.kept (hst9.kept (fun y hy hf => by have h1 := hy.1; have h2 := hy.2; have h3 := hf.1; have h4 := hf.2; omega)))
      have HO9_R_3 := Lib.hid (HO8_R_3.out.kept (hst9.kept (fun y hy hf => by have h1 := hy.1; have h2 := hy.2; have h3 := hf.1; have h4 := hf.2; omega)))
      have HO9_R_5 := Lib.hid (HO8_R_5.out.kept (hst9.kept (fun y hy hf => by have h1 := hy.1; have h2 := hy.2; have h3 := hf.1; have h4 := hf.2; omega)))
      have HO9_0_vT_7 := Lib.hid (HO8_0_vT_7.out.kept (hst9.kept (fun y hy hf => by have h1 := hy.1; have h2 := hy.2; have h3 := hf.1; have h4 := hf.2; omega)))
      have HB9 := Lib.hid (HB8.out.trans (hst9.below (fun y hy => by have := hy.1; omega) HB8.out.size))
      clear bx8_paT_0 sz8_paT bx8_x0_0 sz8_x0 HO8_0_vT_4 HO8_0_vT_2 HO8_R_3 HO8_R_5 HO8_0_vT_7 HR8_vT_4 hw9 hst9 HB8
      go_wp2_with fail
      refine (laws_eqIntS (cap := c_R_5) (cap2 := c_R_3) (nodeIds vT.fNodes vI) hq_R _ (Below.size (by repeat (first | (with_reducible exact Below.refl _ _) | (with_reducible apply Below.drew) | (with_reducible refine below_drewN ?_ _) | (refine Below.setCell ?_ (by simp <;> omega) _) | (refine Below.alloc ?_ (by simp <;> omega) _)) : Below w9.heap.size w9 _)) (Below.size (by repeat (first | (with_reducible exact Below.refl _ _) | (with_reducible apply Below.drew) | (with_reducible refine below_drewN ?_ _) | (refine Below.setCell ?_ (by simp <;> omega) _) | (refine Below.alloc ?_ (by simp <;> omega) _)) : Below w9.heap.size w9 _)) ((Sl.of (HO9_R_5.out.lies (lo := 0) (hi := w9.heap.size) (fun y hy => ⟨Nat.zero_le _, by have := hy.2; omega⟩))).later (by repeat (first | (with_reducible exact Below.refl _ _) | (with_reducible apply Below.drew) | (with_reducible refine below_drewN ?_ _) | (refine Below.setCell ?_ (by simp <;> omega) _) | (refine Below.alloc ?_ (by simp <;> omega) _)) : Below w9.heap.size w9 _) (Nat.le_refl _)) ((Sl.of (HO9_R_3.out.lies (lo := 0) (hi := w9.heap.size) (fun y hy => ⟨Nat.zero_le _, by have := hy.2; omega⟩))).later (by repeat (first | (with_reducible exact Below.refl _ _) | (with_reducible apply Below.drew) | (with_reducible refine below_drewN ?_ _) | (refine Below.setCell ?_ (by simp <;> omega) _) | (refine Below.alloc ?_ (by simp <;> omega) _)) : Below w9.heap.size w9 _) (Nat.le_refl _))).mono ?_
      rintro e w10 ⟨rfl, hb10⟩
      have hst10 : Below w9.heap.size w9 w10 := Below.trans (by repeat (first | (with_reducible exact Below.refl _ _) | (with_reducible apply Below.drew) | (with_reducible refine below_drewN ?_ _) | (refine Below.setCell ?_ (by simp <;> omega) _) | (refine Below.alloc ?_ (by simp <;> omega) _)) : Below w9.heap.size w9 _) (hb10.mono (Below.size (by repeat (first | (with_reducible exact Below.refl _ _) | (with_reducible apply Below.drew) | (with_reducible refine below_drewN ?_ _) | (refine Below.setCell ?_ (by simp <;> omega) _) | (refine Below.alloc ?_ (by simp <;> omega) _)) : Below w9.heap.size w9 _)))
      have hr10 : w9.heap.size ≤ w10.heap.size := Nat.le_trans (by first | exact Nat.le_refl _ | (simp; done) | (simp; omega) | (simp [World.setCell]; done) | (simp [World.setCell]; omega)) hb10.size
      have sz10_paT : w.heap.size < w10.heap.size := Nat.lt_of_lt_of_le sz9_paT hst10.size
      have bx10_paT_0 : w10.cell? ⟨w.heap.size, 0, none⟩ = some (.slice a0_vT vT.fNodes.length c0_vT) := (hst10.cell (p := ⟨w.heap.size, 0, none⟩) sz9_paT).trans bx9_paT_0
      have sz10_x0 : w4.heap.size < w10.heap.size := Nat.lt_of_lt_of_le sz9_x0 hst10.size
      have bx10_x0_0 : w10.cell? ⟨w4.heap.size, 0, none⟩ = some (.slice a0_vT_4 vT.fNodes.length c0_vT_4) := (hst10.cell (p := ⟨w4.heap.size, 0, none⟩) sz9_x0).trans bx9_x0_0
      have HO10_0_vT_2 := Lib.hid (HO9_0_vT_2.out.kept (Kept.of_below_all hst10))
      have HO10_R_3 := Lib.hid (HO9_R_3.out.kept (Kept.of_below_all hst10))
      have HO10_R_5 := Lib.hid (HO9_R_5.out.kept (Kept.of_below_all hst10))
      have HO10_0_vT_7 := Lib.hid (HO9_0_vT_7.out.kept (Kept.of_below_all hst10))
      have HB10 := Lib.hid (HB9.out.trans (hst10.mono HB9.out.size))
      clear bx9_paT_0 sz9_paT bx9_x0_0 sz9_x0 HO9_0_vT_2 HO9_R_3 HO9_R_5 HO9_0_vT_7 hb10 hst10 HB9
      go_wp2_with fail
      refine (laws_markIntS (cap := c_R_5) (nodeIds vT.fNodes vI) (by have h1 := nodeIds_len2 hq_vT vI; omega) 1 (by have h1 := nodeIds_len2 hq_vT vI; omega) _ (HO10_R_5.out.kept (Kept.of_below (by repeat (first | (with_reducible exact Below.refl _ _) | (with_reducible apply Below.drew) | (with_reducible refine below_drewN ?_ _) | (refine Below.setCell ?_ (by simp <;> omega) _) | (refine Below.alloc ?_ (by simp <;> omega) _)) : Below w10.heap.size w10 _) (fun y hy => by have := hy.2; omega)))).mono ?_
      rintro e w11 ⟨rfl, ho11, hw11⟩
      have hst11 : WritesF (fun y => w4.heap.size + 1 ≤ y ∧ y < w5.heap.size) w10 w11 := hw11.of_below (by repeat (first | (with_reducible exact Below.refl _ _) | (with_reducible apply Below.drew) | (with_reducible refine below_drewN ?_ _) | (refine Below.setCell ?_ (by simp <;> omega) _) | (refine Below.alloc ?_ (by simp <;> omega) _)) : Below w10.heap.size w10 _)
      have hr11 : w10.heap.size ≤ w11.heap.size := Nat.le_trans (by first | exact Nat.le_refl _ | (simp; done) | (simp; omega) | (simp [World.setCell]; done) | (simp [World.setCell]; omega)) hw11.size
      have sz11_paT : w.heap.size < w11.heap.size := Nat.lt_of_lt_of_le sz10_paT hst11.size
      have bx11_paT_0 : w11.cell? ⟨w.heap.size, 0, none⟩ = some (.slice a0_vT vT.fNodes.length c0_vT) := (World.cell?_of_block (a := ⟨w.heap.size, 0, none⟩) (hst11.block w.heap.size sz10_paT (fun hf => by have h1 := hf.1; have h2 := hf.2; omega))).trans bx10_paT_0
      have sz11_x0 : w4.heap.size < w11.heap.size := Nat.lt_of_lt_of_le sz10_x0 hst11.size
      have bx11_x0_0 : w11.cell? ⟨w4.heap.size, 0, none⟩ = some (.slice a0_vT_4 vT.fNodes.length c0_vT_4) := (World.cell?_of_block (a := ⟨w4.heap.size, 0, none⟩) (hst11.block w4.heap.size sz10_x0 (fun hf => by have h1 := hf.1; have h2 := hf.2; omega))).trans bx10_x0_0
      have HO11_0_vT_2 := Lib.hid (HO10_0_vT_2.out.kept (hst11.kept (fun y hy hf => by have h1 := hy.1; have h2 := hy.2; have h3 := hf.1; have h4 := hf.2; omega)))
      have HO11_R_3 := Lib.hid (HO10_R_3.out.kept (hst11.kept (fun y hy hf => by have h1 := hy.1; have h2 := hy.2; have h3 := hf.1; have h4 := hf.2; omega)))
      have HO11_R_5 := Lib.hid ho11
      have HO11_0_vT_7 := Lib.hid (HO10_0_vT_7.out.kept (hst11.kept (fun y hy hf => by have h1 := hy.1; have h2 := hy.2; have h3 := hf.1; have h4 := hf.2; omega)))
      have HB11 := Lib.hid (HB10.out.trans (hst11.below (fun y hy => by have := hy.1; omega) HB10.out.size))
      clear bx10_paT_0 sz10_paT bx10_x0_0 sz10_x0 HO10_0_vT_2 HO10_R_3 ho11 HO10_R_5 HO10_0_vT_7 hw11 hst11 HB10
      go_wp2_with fail
      refine (laws_heldIntS (cap := c_R_5) (nodeIds vT.fNodes vI).length (by have h1 := nodeIds_len2 hq_vT vI; omega) 1 (by have h1 := nodeIds_len2 hq_vT vI; omega) _ (HO11_R_5.out.kept (Kept.of_below (by repeat (first | (with_reducible exact Below.refl _ _) | (with_reducible apply Below.drew) | (with_reducible refine below_drewN ?_ _) | (refine Below.setCell ?_ (by simp <;> omega) _) | (refine Below.alloc ?_ (by simp <;> omega) _)) : Below w11.heap.size w11 _) (fun y hy => by have := hy.2; omega)))).mono ?_
      rintro e w12 ⟨rfl, hb12⟩
      have hst12 : Below w11.heap.size w11 w12 := Below.trans (by repeat (first | (with_reducible exact Below.refl _ _) | (with_reducible apply Below.drew) | (with_reducible refine below_drewN ?_ _) | (refine Below.setCell ?_ (by simp <;> omega) _) | (refine Below.alloc ?_ (by simp <;> omega) _)) : Below w11.heap.size w11 _) (hb12.mono (Below.size (by repeat (first | (with_reducible exact Below.refl _ _) | (with_reducible apply Below.drew) | (with_reducible refine below_drewN ?_ _) | (refine Below.setCell ?_ (by simp <;> omega) _) | (refine Below.alloc ?_ (by simp <;> omega) _)) : Below w11.heap.size w11 _)))
      have hr12 : w11.heap.size ≤ w12.heap.size := Nat.le_trans (by first | exact Nat.le_refl _ | (simp; done) | (simp; omega) | (simp [World.setCell]; done) | (simp [World.setCell]; omega)) hb12.size
      have sz12_paT : w.heap.size < w12.heap.size := Nat.lt_of_lt_of_le sz11_paT hst12.size
      have bx12_paT_0 : w12.cell? ⟨w.heap.size, 0, none⟩ = some (.slice a0_vT vT.fNodes.length c0_vT) := (hst12.cell (p := ⟨w.heap.size, 0, none⟩) sz11_paT).trans bx11_paT_0
      have sz12_x0 : w4.heap.size < w12.heap.size := Nat.lt_of_lt_of_le sz11_x0 hst12.size
      have bx12_x0_0 : w12.cell? ⟨w4.heap.size, 0, none⟩ = some (.slice a0_vT_4 vT.fNodes.length c0_vT_4) := (hst12.cell (p := ⟨w4.heap.size, 0, none⟩) sz11_x0).trans bx11_x0_0
      have HO12_0_vT_2 := Lib.hid (HO11_0_vT_2.out.kept (Kept.of_below_all hst12))
      have HO12_R_3 := Lib.hid (HO11_R_3.out.kept (Kept.of_below_all hst12))
      have HO12_R_5 := Lib.hid (HO11_R_5.out.kept (Kept.of_below_all hst12))
      have HO12_0_vT_7 := Lib.hid (HO11_0_vT_7.out.kept (Kept.of_below_all hst12))
      have HB12 := Lib.hid (HB11.out.trans (hst12.mono HB11.out.size))
      clear bx11_paT_0 sz11_paT bx11_x0_0 sz11_x0 HO11_0_vT_2 HO11_R_3 HO11_R_5 HO11_0_vT_7 hb12 hst12 HB11
      go_wp2_with fail
      refine (laws_toTree (c0 := c0_vT) vT hq_vT _ (Below.size (by repeat (first | (with_reducible exact Below.refl _ _) | (with_reducible apply Below.drew) | (with_reducible refine below_drewN ?_ _) | (refine Below.setCell ?_ (by simp <;> omega) _) | (refine Below.alloc ?_ (by simp <;> omega) _)) : Below w12.heap.size w12 _)) ((HS_0_vT.out.later (HB12.out.trans ((by repeat (first | (with_reducible exact Below.refl _ _) | (with_reducible apply Below.drew) | (with_reducible refine below_drewN ?_ _) | (refine Below.setCell ?_ (by simp <;> omega) _) | (refine Below.alloc ?_ (by simp <;> omega) _)) : Below w12.heap.size w12 _).mono HB12.out.size)) (Nat.le_refl _)).mono (Nat.le_refl _) HB12.out.size)).mono ?_
      rintro e w13 ⟨a0_vT_13, c0_vT_13, rfl, ho13, hb13⟩
      have hst13 : Below w12.heap.size w12 w13 := Below.trans (by repeat (first | (with_reducible exact Below.refl _ _) | (with_reducible apply Below.drew) | (with_reducible refine below_drewN ?_ _) | (refine Below.setCell ?_ (by simp <;> omega) _) | (refine Below.alloc ?_ (by simp <;> omega) _)) : Below w12.heap.size w12 _) (hb13.mono (Below.size (by repeat (first | (with_reducible exact Below.refl _ _) | (with_reducible apply Below.drew) | (with_reducible refine below_drewN ?_ _) | (refine Below.setCell ?_ (by simp <;> omega) _) | (refine Below.alloc ?_ (by simp <;> omega) _)) : Below w12.heap.size w12 _)))
      have hr13 : w12.heap.size ≤ w13.heap.size := Nat.le_trans (by first | exact Nat.le_refl _ | (simp; done) | (simp; omega) | (simp [World.setCell]; done) | (simp [World.setCell]; omega)) hb13.size
      have sz13_paT : w.heap.size < w13.heap.size := Nat.lt_of_lt_of_le sz12_paT hst13.size
      have bx13_paT_0 : w13.cell? ⟨w.heap.size, 0, none⟩ = some (.slice a0_vT vT.fNodes.length c0_vT) := (hst13.cell (p := ⟨w.heap.size, 0, none⟩) sz12_paT).trans bx12_paT_0
      have sz13_x0 : w4.heap.size < w13.heap.size := Nat.lt_of_lt_of_le sz12_x0 hst13.size
      have bx13_x0_0 : w13.cell? ⟨w4.heap.size, 0, none⟩ = some (.slice a0_vT_4 vT.fNodes.length c0_vT_4) := (hst13.cell (p := ⟨w4.heap.size, 0, none⟩) sz12_x0).trans bx12_x0_0
      have HO13_0_vT_2 := Lib.hid (HO12_0_vT_2.out.kept (Kept.of_below_all hst13))
      have HO13_R_3 := Lib.hid (HO12_R_3.out.kept (Kept.of_below_all hst13))
      have HO13_R_5 := Lib.hid (HO12_R_5.out.kept (Kept.of_below_all hst13))
      have HO13_0_vT_7 := Lib.hid (HO12_0_vT_7.out.kept (Kept.of_below_all hst13))
      have HO13_0_vT_13 := Lib.hid (show Own w13 (fun y => w12.heap.size ≤ y ∧ y < w13.heap.size) (.sl 6 vT.fNodes.length (fun k => DNode.ct (vT.fNodes.getD k default))) (.slice a0_vT_13 vT.fNodes.length c0_vT_13) from Own.sub (F := fun y => _ ≤ y ∧ y < _) (OwnR.at ho13 0 (by decide)) (fun y hy => ⟨Nat.le_trans (by first | exact Nat.le_refl _ | (simp; done) | (simp; omega) | (simp [World.setCell]; done) | (simp [World.setCell]; omega)) hy.1, hy.2⟩))
      have HB13 := Lib.hid (HB12.out.trans (hst13.mono HB12.out.size))
      clear bx12_paT_0 sz12_paT bx12_x0_0 sz12_x0 HO12_0_vT_2 HO12_R_3 HO12_R_5 HO12_0_vT_7 ho13 hb13 hst13 HB12
      go_wp2_with fail
      refine (impl_NodeIds (c0_0 := c0_vT_13) vT OK_vT.out hq_vT vI OK_vI.out _ (Below.size (by repeat (first | (with_reducible exact Below.refl _ _) | (with_reducible apply Below.drew) | (with_reducible refine below_drewN ?_ _) | (refine Below.setCell ?_ (by simp <;> omega) _) | (refine Below.alloc ?_ (by simp <;> omega) _)) : Below w13.heap.size w13 _)) ((Sl.of (HO13_0_vT_13.out.lies (lo := 0) (hi := w13.heap.size) (fun y hy => ⟨Nat.zero_le _, by have := hy.2; omega⟩))).later (by repeat (first | (with_reducible exact Below.refl _ _) | (with_reducible apply Below.drew) | (with_reducible refine below_drewN ?_ _) | (refine Below.setCell ?_ (by simp <;> omega) _) | (refine Below.alloc ?_ (by simp <;> omega) _)) : Below w13.heap.size w13 _) (Nat.le_refl _))).mono ?_
      rintro e w14 ⟨a_R_14, c_R_14, rfl, ho14, hb14⟩
      have hst14 : Below w13.heap.size w13 w14 := Below.trans (by repeat (first | (with_reducible exact Below.refl _ _) | (with_reducible apply Below.drew) | (with_reducible refine below_drewN ?_ _) | (refine Below.setCell ?_ (by simp <;> omega) _) | (refine Below.alloc ?_ (by simp <;> omega) _)) : Below w13.heap.size w13 _) (hb14.mono (Below.size (by repeat (first | (with_reducible exact Below.refl _ _) | (with_reducible apply Below.drew) | (with_reducible refine below_drewN ?_ _) | (refine Below.setCell ?_ (by simp <;> omega) _) | (refine Below.alloc ?_ (by simp <;> omega) _)) : Below w13.heap.size w13 _)))
      have hr14 : w13.heap.size ≤ w14.heap.size := Nat.le_trans (by first | exact Nat.le_refl _ | (simp; done) | (simp; omega) | (simp [World.setCell]; done) | (simp [World.setCell]; omega)) hb14.size
      have sz14_paT : w.heap.size < w14.heap.size := Nat.lt_of_lt_of_le sz13_paT hst14.size
      have bx14_paT_0 : w14.cell? ⟨w.heap.size, 0, none⟩ = some (.slice a0_vT vT.fNodes.length c0_vT) := (hst14.cell (p := ⟨w.heap.size, 0, none⟩) sz13_paT).trans bx13_paT_0
      have sz14_x0 : w4.heap.size < w14.heap.size := Nat.lt_of_lt_of_le sz13_x0 hst14.size
      have bx14_x0_0 : w14.cell? ⟨w4.heap.size, 0, none⟩ = some (.slice a0_vT_4 vT.fNodes.length c0_vT_4) := (hst14.cell (p := ⟨w4.heap.size, 0, none⟩) sz13_x0).trans bx13_x0_0
      have HO14_0_vT_2 := Lib.hid (HO13_0_vT_2.out.kept (Kept.of_below_all hst14))
      have HO14_R_3 := Lib.hid (HO13_R_3.out.kept (Kept.of_below_all hst14))
      have HO14_R_5 := Lib.hid (HO13_R_5.out.kept (Kept.of_below_all hst14))
      have HO14_0_vT_7 := Lib.hid (HO13_0_vT_7.out.kept (Kept.of_below_all hst14))
      have HO14_0_vT_13 := Lib.hid (HO13_0_vT_13.out.kept (Kept.of_below_all hst14))
      have HO14_R_14 := Lib.hid (show Own w14 (fun y => w13.heap.size ≤ y ∧ y < w14.heap.size) (.sl 1 (nodeIds vT.fNodes vI).length (fun k => ictI ((nodeIds vT.fNodes vI).getD k default))) (.slice a_R_14 (nodeIds vT.fNodes vI).length c_R_14) from Own.sub (F := fun y => _ ≤ y ∧ y < _) ho14 (fun y hy => ⟨Nat.le_trans (by first | exact Nat.le_refl _ | (simp; done) | (simp; omega) | (simp [World.setCell]; done) | (simp [World.setCell]; omega)) hy.1, hy.2⟩))
      have HB14 := Lib.hid (HB13.out.trans (hst14.mono HB13.out.size))
      clear bx13_paT_0 sz13_paT bx13_x0_0 sz13_x0 HO13_0_vT_2 HO13_R_3 HO13_R_5 HO13_0_vT_7 HO13_0_vT_13 ho14 hb14 hst14 HB13
      go_wp2_with fail
      refine (laws_eqIntS (cap := c_R_14) (cap2 := c_R_3) (nodeIds vT.fNodes vI) hq_R _ (Below.size (by repeat (first | (with_reducible exact Below.refl _ _) | (with_reducible apply Below.drew) | (with_reducible refine below_drewN ?_ _) | (refine Below.setCell ?_ (by simp <;> omega) _) | (refine Below.alloc ?_ (by simp <;> omega) _)) : Below w14.heap.size w14 _)) (Below.size (by repeat (first | (with_reducible exact Below.refl _ _) | (with_reducible apply Below.drew) | (with_reducible refine below_drewN ?_ _) | (refine Below.setCell ?_ (by simp <;> omega) _) | (refine Below.alloc ?_ (by simp <;> omega) _)) : Below w14.heap.size w14 _)) ((Sl.of (HO14_R_14.out.lies (lo := 0) (hi := w14.heap.size) (fun y hy => ⟨Nat.zero_le _, by have := hy.2; omega⟩))).later (by repeat (first | (with_reducible exact Below.refl _ _) | (with_reducible apply Below.drew) | (with_reducible refine below_drewN ?_ _) | (refine Below.setCell ?_ (by simp <;> omega) _) | (refine Below.alloc ?_ (by simp <;> omega) _)) : Below w14.heap.size w14 _) (Nat.le_refl _)) ((Sl.of (HO14_R_3.out.lies (lo := 0) (hi := w14.heap.size) (fun y hy => ⟨Nat.zero_le _, by have := hy.2; omega⟩))).later (by repeat (first | (with_reducible exact Below.refl _ _) | (with_reducible apply Below.drew) | (with_reducible refine below_drewN ?_ _) | (refine Below.setCell ?_ (by simp <;> omega) _) | (refine Below.alloc ?_ (by simp <;> omega) _)) : Below w14.heap.size w14 _) (Nat.le_refl _))).mono ?_
      rintro e w15 ⟨rfl, hb15⟩
      have hst15 : Below w14.heap.size w14 w15 := Below.trans (by repeat (first | (with_reducible exact Below.refl _ _) | (with_reducible apply Below.drew) | (with_reducible refine below_drewN ?_ _) | (refine Below.setCell ?_ (by simp <;> omega) _) | (refine Below.alloc ?_ (by simp <;> omega) _)) : Below w14.heap.size w14 _) (hb15.mono (Below.size (by repeat (first | (with_reducible exact Below.refl _ _) | (with_reducible apply Below.drew) | (with_reducible refine below_drewN ?_ _) | (refine Below.setCell ?_ (by simp <;> omega) _) | (refine Below.alloc ?_ (by simp <;> omega) _)) : Below w14.heap.size w14 _)))
      have hr15 : w14.heap.size ≤ w15.heap.size := Nat.le_trans (by first | exact Nat.le_refl _ | (simp; done) | (simp; omega) | (simp [World.setCell]; done) | (simp [World.setCell]; omega)) hb15.size
      have sz15_paT : w.heap.size < w15.heap.size := Nat.lt_of_lt_of_le sz14_paT hst15.size
      have bx15_paT_0 : w15.cell? ⟨w.heap.size, 0, none⟩ = some (.slice a0_vT vT.fNodes.length c0_vT) := (hst15.cell (p := ⟨w.heap.size, 0, none⟩) sz14_paT).trans bx14_paT_0
      have sz15_x0 : w4.heap.size < w15.heap.size := Nat.lt_of_lt_of_le sz14_x0 hst15.size
      have bx15_x0_0 : w15.cell? ⟨w4.heap.size, 0, none⟩ = some (.slice a0_vT_4 vT.fNodes.length c0_vT_4) := (hst15.cell (p := ⟨w4.heap.size, 0, none⟩) sz14_x0).trans bx14_x0_0
      have HO15_0_vT_2 := Lib.hid (HO14_0_vT_2.out.kept (Kept.of_below_all hst15))
      have HO15_R_3 := Lib.hid (HO14_R_3.out.kept (Kept.of_below_all hst15))
      have HO15_R_5 := Lib.hid (HO14_R_5.out.kept (Kept.of_below_all hst15))
      have HO15_0_vT_7 := Lib.hid (HO14_0_vT_7.out.kept (Kept.of_below_all hst15))
      have HO15_0_vT_13 := Lib.hid (HO14_0_vT_13.out.kept (Kept.of_below_all hst15))
      have HO15_R_14 := Lib.hid (HO14_R_14.out.kept (Kept.of_below_all hst15))
      have HB15 := Lib.hid (HB14.out.trans (hst15.mono HB14.out.size))
      clear bx14_paT_0 sz14_paT bx14_x0_0 sz14_x0 HO14_0_vT_2 HO14_R_3 HO14_R_5 HO14_0_vT_7 HO14_0_vT_13 HO14_R_14 hb15 hst15 HB14
      go_wp2_with fail
      refine (laws_heldIntS (cap := c_R_5) (nodeIds vT.fNodes vI).length (by have h1 := nodeIds_len2 hq_vT vI; omega) 1 (by have h1 := nodeIds_len2 hq_vT vI; omega) _ (HO15_R_5.out.kept (Kept.of_below (by repeat (first | (with_reducible exact Below.refl _ _) | (with_reducible apply Below.drew) | (with_reducible refine below_drewN ?_ _) | (refine Below.setCell ?_ (by simp <;> omega) _) | (refine Below.alloc ?_ (by simp <;> omega) _)) : Below w15.heap.size w15 _) (fun y hy => by have := hy.2; omega)))).mono ?_
      rintro e w16 ⟨rfl, hb16⟩
      have hst16 : Below w15.heap.size w15 w16 := Below.trans (by repeat (first | (with_reducible exact Below.refl _ _) | (with_reducible apply Below.drew) | (with_reducible refine below_drewN ?_ _) | (refine Below.setCell ?_ (by simp <;> omega) _) | (refine Below.alloc ?_ (by simp <;> omega) _)) : Below w15.heap.size w15 _) (hb16.mono (Below.size (by repeat (first | (with_reducible exact Below.refl _ _) | (with_reducible apply Below.drew) | (with_reducible refine below_drewN ?_ _) | (refine Below.setCell ?_ (by simp <;> omega) _) | (refine Below.alloc ?_ (by simp <;> omega) _)) : Below w15.heap.size w15 _)))
      have hr16 : w15.heap.size ≤ w16.heap.size := Nat.le_trans (by first | exact Nat.le_refl _ | (simp; done) | (simp; omega) | (simp [World.setCell]; done) | (simp [World.setCell]; omega)) hb16.size
      have sz16_paT : w.heap.size < w16.heap.size := Nat.lt_of_lt_of_le sz15_paT hst16.size
      have bx16_paT_0 : w16.cell? ⟨w.heap.size, 0, none⟩ = some (.slice a0_vT vT.fNodes.length c0_vT) := (hst16.cell (p := ⟨w.heap.size, 0, none⟩) sz15_paT).trans bx15_paT_0
      have sz16_x0 : w4.heap.size < w16.heap.size := Nat.lt_of_lt_of_le sz15_x0 hst16.size
      have bx16_x0_0 : w16.cell? ⟨w4.heap.size, 0, none⟩ = some (.slice a0_vT_4 vT.fNodes.length c0_vT_4) := (hst16.cell (p := ⟨w4.heap.size, 0, none⟩) sz15_x0).trans bx15_x0_0
      have HO16_0_vT_2 := Lib.hid (HO15_0_vT_2.out.kept (Kept.of_below_all hst16))
      have HO16_R_3 := Lib.hid (HO15_R_3.out.kept (Kept.of_below_all hst16))
      have HO16_R_5 := Lib.hid (HO15_R_5.out.kept (Kept.of_below_all hst16))
      have HO16_0_vT_7 := Lib.hid (HO15_0_vT_7.out.kept (Kept.of_below_all hst16))
      have HO16_0_vT_13 := Lib.hid (HO15_0_vT_13.out.kept (Kept.of_below_all hst16))
      have HO16_R_14 := Lib.hid (HO15_R_14.out.kept (Kept.of_below_all hst16))
      have HB16 := Lib.hid (HB15.out.trans (hst16.mono HB15.out.size))
      clear bx15_paT_0 sz15_paT bx15_x0_0 sz15_x0 HO15_0_vT_2 HO15_R_3 HO15_R_5 HO15_0_vT_7 HO15_0_vT_13 HO15_R_14 hb16 hst16 HB15
      go_wp2
      go_ret
      exact ⟨rfl, HB16.out⟩
end Go.Proofs.Ytnacnlljhjlmdab.fnExactNodeIds
