/-
  The law FnExactTreeHeight: for every tree and every index the program's TreeHeight answers as the model's. No condition.
-/
import Derived.Test.YtjjbnbhcfhbfdabHeight
import Derived.SizedLaws
namespace Go.Proofs.Ytjjbnbhcfhbfdab.fnExactTreeHeight
open Go.ChangeShapes Go.WideShapes Go.ChangeAt Go.RowKit Go.WideMaps Go.WideElems
open Go.ChangeMaps (open_string)
open Go.Lib Go.Deep

set_option maxHeartbeats 1600000 in
set_option maxRecDepth 100000 in
theorem walk (vT : DTree) (a0_vT : Option Addr) (c0_vT : Nat) (ok_vT : DTree.ok vT) (vI : Int) (ok_vI : okI vI) (w : World) (hs_0_vT : Sl 0 w.heap.size w 6 vT.fNodes.length (fun k => DNode.ct (vT.fNodes.getD k default)) a0_vT) :
    Calls Try.prog 12 #[.agg #[.slice a0_vT vT.fNodes.length c0_vT], .int .i64 vI] w fun e w' => e = .returned (.bool true) ∧ Below w.heap.size w w' := by
  have HS_0_vT := Lib.hid hs_0_vT
  clear hs_0_vT
  have OK_vT := Lib.hid ok_vT
  clear ok_vT
  have okb_vI : -9223372036854775808 ≤ vI ∧ vI ≤ 9223372036854775807 := ok_vI
  have OK_vI := Lib.hid ok_vI
  clear ok_vI
  by_cases h0 : 1048576 < ((DTree.sz vT : Nat) : Int)
  · skip
    have hz := fun (hi : Nat) (w' : World) (hhi : hi ≤ w'.heap.size) (hs_0_vT : Sl 0 hi w' 6 vT.fNodes.length (fun k => DNode.ct (vT.fNodes.getD k default)) a0_vT) => laws_szTree (c0 := c0_vT) vT 1048576 (by omega) (by omega) OK_vT.out w' hhi hs_0_vT
    rw [szR_gt (by omega)] at hz
    have HZ_vT := Lib.hid hz
    clear hz
    go_enter Try.func12, Try.ntmps12
    go_wp2_with fail
    refine (HZ_vT.out w.heap.size _ (Below.size (by repeat (first | (with_reducible exact Below.refl _ _) | (with_reducible apply Below.drew) | (with_reducible refine below_drewN ?_ _) | (refine Below.setCell ?_ (by simp <;> omega) _) | (refine Below.alloc ?_ (by simp <;> omega) _)) : Below w.heap.size w _)) (HS_0_vT.out.later (by repeat (first | (with_reducible exact Below.refl _ _) | (with_reducible apply Below.drew) | (with_reducible refine below_drewN ?_ _) | (refine Below.setCell ?_ (by simp <;> omega) _) | (refine Below.alloc ?_ (by simp <;> omega) _)) : Below w.heap.size w _) (Nat.le_refl _))).mono ?_
    rintro e w1 ⟨rfl, hb1⟩
    have hst1 : Below w.heap.size w w1 := Below.trans (by repeat (first | (with_reducible exact Below.refl _ _) | (with_reducible apply Below.drew) | (with_reducible refine below_drewN ?_ _) | (refine Below.setCell ?_ (by simp <;> omega) _) | (refine Below.alloc ?_ (by simp <;> omega) _)) : Below w.heap.size w _) (hb1.mono (Below.size (by repeat (first | (with_reducible exact Below.refl _ _) | (with_reducible apply Below.drew) | (with_reducible refine below_drewN ?_ _) | (refine Below.setCell ?_ (by simp <;> omega) _) | (refine Below.alloc ?_ (by simp <;> omega) _)) : Below w.heap.size w _)))
    have sz1_paT : w.heap.size < w1.heap.size := Nat.lt_of_lt_of_le (by first | omega | (simp; done) | (simp; omega) | (simp [World.setCell]; omega)) hb1.size
    have bx1_paT_0 : w1.cell? ⟨w.heap.size, 0, none⟩ = some (.slice a0_vT vT.fNodes.length c0_vT) := (hb1.cell (p := ⟨w.heap.size, 0, none⟩) (by first | omega | (simp; done) | (simp; omega) | (simp [World.setCell]; omega))).trans (by go_simp)
    have HS1_0_vT := Lib.hid (HS_0_vT.out.up hst1 (Nat.le_refl _))
    have HB1 := Lib.hid ((Below.refl w.heap.size w).trans (hst1.mono (Below.refl w.heap.size w).size))
    clear hb1 hst1
    go_wp2
    go_ret
    exact ⟨rfl, HB1.out⟩
  · skip
    have hz := fun (hi : Nat) (w' : World) (hhi : hi ≤ w'.heap.size) (hs_0_vT : Sl 0 hi w' 6 vT.fNodes.length (fun k => DNode.ct (vT.fNodes.getD k default)) a0_vT) => laws_szTree (c0 := c0_vT) vT 1048576 (by omega) (by omega) OK_vT.out w' hhi hs_0_vT
    rw [szR_le (by omega)] at hz
    have HZ_vT := Lib.hid hz
    clear hz
    have hq_vT : DTree.sz vT ≤ 1048576 := by omega
    go_enter Try.func12, Try.ntmps12
    go_wp2_with fail
    refine (HZ_vT.out w.heap.size _ (Below.size (by repeat (first | (with_reducible exact Below.refl _ _) | (with_reducible apply Below.drew) | (with_reducible refine below_drewN ?_ _) | (refine Below.setCell ?_ (by simp <;> omega) _) | (refine Below.alloc ?_ (by simp <;> omega) _)) : Below w.heap.size w _)) (HS_0_vT.out.later (by repeat (first | (with_reducible exact Below.refl _ _) | (with_reducible apply Below.drew) | (with_reducible refine below_drewN ?_ _) | (refine Below.setCell ?_ (by simp <;> omega) _) | (refine Below.alloc ?_ (by simp <;> omega) _)) : Below w.heap.size w _) (Nat.le_refl _))).mono ?_
    rintro e w1 ⟨rfl, hb1⟩
    have hst1 : Below w.heap.size w w1 := Below.trans (by repeat (first | (with_reducible exact Below.refl _ _) | (with_reducible apply Below.drew) | (with_reducible refine below_drewN ?_ _) | (refine Below.setCell ?_ (by simp <;> omega) _) | (refine Below.alloc ?_ (by simp <;> omega) _)) : Below w.heap.size w _) (hb1.mono (Below.size (by repeat (first | (with_reducible exact Below.refl _ _) | (with_reducible apply Below.drew) | (with_reducible refine below_drewN ?_ _) | (refine Below.setCell ?_ (by simp <;> omega) _) | (refine Below.alloc ?_ (by simp <;> omega) _)) : Below w.heap.size w _)))
    have sz1_paT : w.heap.size < w1.heap.size := Nat.lt_of_lt_of_le (by first | omega | (simp; done) | (simp; omega) | (simp [World.setCell]; omega)) hb1.size
    have bx1_paT_0 : w1.cell? ⟨w.heap.size, 0, none⟩ = some (.slice a0_vT vT.fNodes.length c0_vT) := (hb1.cell (p := ⟨w.heap.size, 0, none⟩) (by first | omega | (simp; done) | (simp; omega) | (simp [World.setCell]; omega))).trans (by go_simp)
    have HS1_0_vT := Lib.hid (HS_0_vT.out.up hst1 (Nat.le_refl _))
    have HB1 := Lib.hid ((Below.refl w.heap.size w).trans (hst1.mono (Below.refl w.heap.size w).size))
    clear hb1 hst1
    go_wp2_with fail
    refine (laws_toTree (c0 := c0_vT) vT hq_vT _ (Below.size (by repeat (first | (with_reducible exact Below.refl _ _) | (with_reducible apply Below.drew) | (with_reducible refine below_drewN ?_ _) | (refine Below.setCell ?_ (by simp <;> omega) _) | (refine Below.alloc ?_ (by simp <;> omega) _)) : Below w1.heap.size w1 _)) (HS1_0_vT.out.later (by repeat (first | (with_reducible exact Below.refl _ _) | (with_reducible apply Below.drew) | (with_reducible refine below_drewN ?_ _) | (refine Below.setCell ?_ (by simp <;> omega) _) | (refine Below.alloc ?_ (by simp <;> omega) _)) : Below w1.heap.size w1 _) (Nat.le_refl _))).mono ?_
    rintro e w2 ⟨a0_vT_2, c0_vT_2, rfl, ho2, hb2⟩
    have hst2 : Below w1.heap.size w1 w2 := Below.trans (by repeat (first | (with_reducible exact Below.refl _ _) | (with_reducible apply Below.drew) | (with_reducible refine below_drewN ?_ _) | (refine Below.setCell ?_ (by simp <;> omega) _) | (refine Below.alloc ?_ (by simp <;> omega) _)) : Below w1.heap.size w1 _) (hb2.mono (Below.size (by repeat (first | (with_reducible exact Below.refl _ _) | (with_reducible apply Below.drew) | (with_reducible refine below_drewN ?_ _) | (refine Below.setCell ?_ (by simp <;> omega) _) | (refine Below.alloc ?_ (by simp <;> omega) _)) : Below w1.heap.size w1 _)))
    have sz2_paT : w.heap.size < w2.heap.size := Nat.lt_of_lt_of_le sz1_paT hst2.size
    have bx2_paT_0 : w2.cell? ⟨w.heap.size, 0, none⟩ = some (.slice a0_vT vT.fNodes.length c0_vT) := (hst2.cell (p := ⟨w.heap.size, 0, none⟩) sz1_paT).trans bx1_paT_0
    have HS2_0_vT := Lib.hid (HS1_0_vT.out.up hst2 (Nat.le_refl _))
    have HS2_0_vT_2 := Lib.hid (show Sl 0 w2.heap.size w2 6 vT.fNodes.length (fun k => DNode.ct (vT.fNodes.getD k default)) a0_vT_2 from Sl.of (cap := c0_vT_2) (l := vT.fNodes.length) (a := a0_vT_2) (ho2.lies (lo := 0) (hi := w2.heap.size) (fun y hy => ⟨Nat.zero_le _, hy.2⟩) 0 (by decide)))
    have HB2 := Lib.hid (HB1.out.trans (hst2.mono HB1.out.size))
    clear bx1_paT_0 sz1_paT HS1_0_vT ho2 hb2 hst2 HB1
    go_wp2_with fail
    refine (spec_TreeHeight (c0_0 := c0_vT_2) vT OK_vT.out hq_vT vI OK_vI.out _ (Below.size (by repeat (first | (with_reducible exact Below.refl _ _) | (with_reducible apply Below.drew) | (with_reducible refine below_drewN ?_ _) | (refine Below.setCell ?_ (by simp <;> omega) _) | (refine Below.alloc ?_ (by simp <;> omega) _)) : Below w2.heap.size w2 _)) (HS2_0_vT_2.out.later (by repeat (first | (with_reducible exact Below.refl _ _) | (with_reducible apply Below.drew) | (with_reducible refine below_drewN ?_ _) | (refine Below.setCell ?_ (by simp <;> omega) _) | (refine Below.alloc ?_ (by simp <;> omega) _)) : Below w2.heap.size w2 _) (Nat.le_refl _))).mono ?_
    rintro e w3 ⟨rfl, hb3⟩
    have hst3 : Below w2.heap.size w2 w3 := Below.trans (by repeat (first | (with_reducible exact Below.refl _ _) | (with_reducible apply Below.drew) | (with_reducible refine below_drewN ?_ _) | (refine Below.setCell ?_ (by simp <;> omega) _) | (refine Below.alloc ?_ (by simp <;> omega) _)) : Below w2.heap.size w2 _) (hb3.mono (Below.size (by repeat (first | (with_reducible exact Below.refl _ _) | (with_reducible apply Below.drew) | (with_reducible refine below_drewN ?_ _) | (refine Below.setCell ?_ (by simp <;> omega) _) | (refine Below.alloc ?_ (by simp <;> omega) _)) : Below w2.heap.size w2 _)))
    have sz3_paT : w.heap.size < w3.heap.size := Nat.lt_of_lt_of_le sz2_paT hst3.size
    have bx3_paT_0 : w3.cell? ⟨w.heap.size, 0, none⟩ = some (.slice a0_vT vT.fNodes.length c0_vT) := (hst3.cell (p := ⟨w.heap.size, 0, none⟩) sz2_paT).trans bx2_paT_0
    have HS3_0_vT := Lib.hid (HS2_0_vT.out.up hst3 (Nat.le_refl _))
    have HS3_0_vT_2 := Lib.hid (HS2_0_vT_2.out.up hst3 (Nat.le_refl _))
    have HB3 := Lib.hid (HB2.out.trans (hst3.mono HB2.out.size))
    clear bx2_paT_0 sz2_paT HS2_0_vT HS2_0_vT_2 hb3 hst3 HB2
    go_wp2_with fail
    refine (laws_toTree (c0 := c0_vT) vT hq_vT _ (Below.size (by repeat (first | (with_reducible exact Below.refl _ _) | (with_reducible apply Below.drew) | (with_reducible refine below_drewN ?_ _) | (refine Below.setCell ?_ (by simp <;> omega) _) | (refine Below.alloc ?_ (by simp <;> omega) _)) : Below w3.heap.size w3 _)) (HS3_0_vT.out.later (by repeat (first | (with_reducible exact Below.refl _ _) | (with_reducible apply Below.drew) | (with_reducible refine below_drewN ?_ _) | (refine Below.setCell ?_ (by simp <;> omega) _) | (refine Below.alloc ?_ (by simp <;> omega) _)) : Below w3.heap.size w3 _) (Nat.le_refl _))).mono ?_
    rintro e w4 ⟨a0_vT_4, c0_vT_4, rfl, ho4, hb4⟩
    have hst4 : Below w3.heap.size w3 w4 := Below.trans (by repeat (first | (with_reducible exact Below.refl _ _) | (with_reducible apply Below.drew) | (with_reducible refine below_drewN ?_ _) | (refine Below.setCell ?_ (by simp <;> omega) _) | (refine Below.alloc ?_ (by simp <;> omega) _)) : Below w3.heap.size w3 _) (hb4.mono (Below.size (by repeat (first | (with_reducible exact Below.refl _ _) | (with_reducible apply Below.drew) | (with_reducible refine below_drewN ?_ _) | (refine Below.setCell ?_ (by simp <;> omega) _) | (refine Below.alloc ?_ (by simp <;> omega) _)) : Below w3.heap.size w3 _)))
    have sz4_paT : w.heap.size < w4.heap.size := Nat.lt_of_lt_of_le sz3_paT hst4.size
    have bx4_paT_0 : w4.cell? ⟨w.heap.size, 0, none⟩ = some (.slice a0_vT vT.fNodes.length c0_vT) := (hst4.cell (p := ⟨w.heap.size, 0, none⟩) sz3_paT).trans bx3_paT_0
    have HS4_0_vT := Lib.hid (HS3_0_vT.out.up hst4 (Nat.le_refl _))
    have HS4_0_vT_2 := Lib.hid (HS3_0_vT_2.out.up hst4 (Nat.le_refl _))
    have HS4_0_vT_4 := Lib.hid (show Sl 0 w4.heap.size w4 6 vT.fNodes.length (fun k => DNode.ct (vT.fNodes.getD k default)) a0_vT_4 from Sl.of (cap := c0_vT_4) (l := vT.fNodes.length) (a := a0_vT_4) (ho4.lies (lo := 0) (hi := w4.heap.size) (fun y hy => ⟨Nat.zero_le _, hy.2⟩) 0 (by decide)))
    have HB4 := Lib.hid (HB3.out.trans (hst4.mono HB3.out.size))
    clear bx3_paT_0 sz3_paT HS3_0_vT HS3_0_vT_2 ho4 hb4 hst4 HB3
    go_wp2_with fail
    refine (impl_TreeHeight (c0_0 := c0_vT_4) vT OK_vT.out hq_vT vI OK_vI.out _ (Below.size (by repeat (first | (with_reducible exact Below.refl _ _) | (with_reducible apply Below.drew) | (with_reducible refine below_drewN ?_ _) | (refine Below.setCell ?_ (by simp <;> omega) _) | (refine Below.alloc ?_ (by simp <;> omega) _)) : Below w4.heap.size w4 _)) (HS4_0_vT_4.out.later (by repeat (first | (with_reducible exact Below.refl _ _) | (with_reducible apply Below.drew) | (with_reducible refine below_drewN ?_ _) | (refine Below.setCell ?_ (by simp <;> omega) _) | (refine Below.alloc ?_ (by simp <;> omega) _)) : Below w4.heap.size w4 _) (Nat.le_refl _))).mono ?_
    rintro e w5 ⟨rfl, hb5⟩
    have hst5 : Below w4.heap.size w4 w5 := Below.trans (by repeat (first | (with_reducible exact Below.refl _ _) | (with_reducible apply Below.drew) | (with_reducible refine below_drewN ?_ _) | (refine Below.setCell ?_ (by simp <;> omega) _) | (refine Below.alloc ?_ (by simp <;> omega) _)) : Below w4.heap.size w4 _) (hb5.mono (Below.size (by repeat (first | (with_reducible exact Below.refl _ _) | (with_reducible apply Below.drew) | (with_reducible refine below_drewN ?_ _) | (refine Below.setCell ?_ (by simp <;> omega) _) | (refine Below.alloc ?_ (by simp <;> omega) _)) : Below w4.heap.size w4 _)))
    have sz5_paT : w.heap.size < w5.heap.size := Nat.lt_of_lt_of_le sz4_paT hst5.size
    have bx5_paT_0 : w5.cell? ⟨w.heap.size, 0, none⟩ = some (.slice a0_vT vT.fNodes.length c0_vT) := (hst5.cell (p := ⟨w.heap.size, 0, none⟩) sz4_paT).trans bx4_paT_0
    have sz5_x0 : w4.heap.size < w5.heap.size := Nat.lt_of_lt_of_le (by first | omega | (simp; done) | (simp; omega) | (simp [World.setCell]; omega)) hb5.size
    have bx5_x0_0 : w5.cell? ⟨w4.heap.size, 0, none⟩ = some (.slice a0_vT_4 vT.fNodes.length c0_vT_4) := (hb5.cell (p := ⟨w4.heap.size, 0, none⟩) (by first | omega | (simp; done) | (simp; omega) | (simp [World.setCell]; omega))).trans (by go_simp)
    have HS5_0_vT := Lib.hid (HS4_0_vT.out.up hst5 (Nat.le_refl _))
    have HS5_0_vT_2 := Lib.hid (HS4_0_vT_2.out.up hst5 (Nat.le_refl _))
    have HS5_0_vT_4 := Lib.hid (HS4_0_vT_4.out.up hst5 (Nat.le_refl _))
    have HB5 := Lib.hid (HB4.out.trans (hst5.mono HB4.out.size))
    clear bx4_paT_0 sz4_paT HS4_0_vT HS4_0_vT_2 HS4_0_vT_4 hb5 hst5 HB4
    go_wp2_with fail
    go_region_with ((first | (go_at_call 45; refine (laws_toTree (c0 := c0_vT) vT hq_vT _ (Below.size (by repeat (first | (with_reducible exact Below.refl _ _) | (with_reducible apply Below.drew) | (with_reducible refine below_drewN ?_ _) | (refine Below.setCell ?_ (by simp <;> omega) _) | (refine Below.alloc ?_ (by simp <;> omega) _)) : Below w5.heap.size w5 _)) (HS5_0_vT.out.later (by repeat (first | (with_reducible exact Below.refl _ _) | (with_reducible apply Below.drew) | (with_reducible refine below_drewN ?_ _) | (refine Below.setCell ?_ (by simp <;> omega) _) | (refine Below.alloc ?_ (by simp <;> omega) _)) : Below w5.heap.size w5 _) (Nat.le_refl _))).mono ?_; rintro e w6 ⟨a0_vT_6, c0_vT_6, rfl, ho6, hb6⟩; have hst6 : Below w5.heap.size w5 w6 := Below.trans (by repeat (first | (with_reducible exact Below.refl _ _) | (with_reducible apply Below.drew) | (with_reducible refine below_drewN ?_ _) | (refine Below.setCell ?_ (by simp <;> omega) _) | (refine Below.alloc ?_ (by simp <;> omega) _)) : Below w5.heap.size w5 _) (hb6.mono (Below.size (by repeat (first | (with_reducible exact Below.refl _ _) | (with_reducible apply Below.drew) | (with_reducible refine below_drewN ?_ _) | (refine Below.setCell ?_ (by simp <;> omega) _) | (refine Below.alloc ?_ (by simp <;> omega) _)) : Below w5.heap.size w5 _))); have sz6_paT : w.heap.size < w6.heap.size := Nat.lt_of_lt_of_le sz5_paT hst6.size; have bx6_paT_0 : w6.cell? ⟨w.heap.size, 0, none⟩ = some (.slice a0_vT vT.fNodes.length c0_vT) := (hst6.cell (p := ⟨w.heap.size, 0, none⟩) sz5_paT).trans bx5_paT_0; have sz6_x0 : w4.heap.size < w6.heap.size := Nat.lt_of_lt_of_le sz5_x0 hst6.size; have bx6_x0_0 : w6.cell? ⟨w4.heap.size, 0, none⟩ = some (.slice a0_vT_4 vT.fNodes.length c0_vT_4) := (hst6.cell (p := ⟨w4.heap.size, 0, none⟩) sz5_x0).trans bx5_x0_0; have HS6_0_vT := Lib.hid (HS5_0_vT.out.up hst6 (Nat.le_refl _)); have HS6_0_vT_2 := Lib.hid (HS5_0_vT_2.out.up hst6 (Nat.le_refl _)); have HS6_0_vT_4 := Lib.hid (HS5_0_vT_4.out.up hst6 (Nat.le_refl _)); have HS6_0_vT_6 := Lib.hid (show Sl 0 w6.heap.size w6 6 vT.fNodes.length (fun k => DNode.ct (vT.fNodes.getD k default)) a0_vT_6 from Sl.of (cap := c0_vT_6) (l := vT.fNodes.length) (a := a0_vT_6) (ho6.lies (lo := 0) (hi := w6.heap.size) (fun y hy => ⟨Nat.zero_le _, hy.2⟩) 0 (by decide))); have HB6 := Lib.hid (HB5.out.trans (hst6.mono HB5.out.size)); clear bx5_paT_0 sz5_paT bx5_x0_0 sz5_x0 HS5_0_vT HS5_0_vT_2 HS5_0_vT_4 ho6 hb6 hst6 HB5) | (go_at_call 47; refine (laws_eqTree (c0 := c0_vT_4) (c0q := c0_vT_6) vT hq_vT _ (Below.size (by repeat (first | (with_reducible exact Below.refl _ _) | (with_reducible apply Below.drew) | (with_reducible refine below_drewN ?_ _) | (refine Below.setCell ?_ (by simp <;> omega) _) | (refine Below.alloc ?_ (by simp <;> omega) _)) : Below w6.heap.size w6 _)) (Below.size (by repeat (first | (with_reducible exact Below.refl _ _) | (with_reducible apply Below.drew) | (with_reducible refine below_drewN ?_ _) | (refine Below.setCell ?_ (by simp <;> omega) _) | (refine Below.alloc ?_ (by simp <;> omega) _)) : Below w6.heap.size w6 _)) (HS6_0_vT_4.out.later (by repeat (first | (with_reducible exact Below.refl _ _) | (with_reducible apply Below.drew) | (with_reducible refine below_drewN ?_ _) | (refine Below.setCell ?_ (by simp <;> omega) _) | (refine Below.alloc ?_ (by simp <;> omega) _)) : Below w6.heap.size w6 _) (Nat.le_refl _)) (HS6_0_vT_6.out.later (by repeat (first | (with_reducible exact Below.refl _ _) | (with_reducible apply Below.drew) | (with_reducible refine below_drewN ?_ _) | (refine Below.setCell ?_ (by simp <;> omega) _) | (refine Below.alloc ?_ (by simp <;> omega) _)) : Below w6.heap.size w6 _) (Nat.le_refl _))).mono ?_; rintro e w7 ⟨rfl, hb7⟩; have hst7 : Below w6.heap.size w6 w7 := Below.trans (by repeat (first | (with_reducible exact Below.refl _ _) | (with_reducible apply Below.drew) | (with_reducible refine below_drewN ?_ _) | (refine Below.setCell ?_ (by simp <;> omega) _) | (refine Below.alloc ?_ (by simp <;> omega) _)) : Below w6.heap.size w6 _) (hb7.mono (Below.size (by repeat (first | (with_reducible exact Below.refl _ _) | (with_reducible apply Below.drew) | (with_reducible refine below_drewN ?_ _) | (refine Below.setCell ?_ (by simp <;> omega) _) | (refine Below.alloc ?_ (by simp <;> omega) _)) : Below w6.heap.size w6 _))); have sz7_paT : w.heap.size < w7.heap.size := Nat.lt_of_lt_of_le sz6_paT hst7.size; have bx7_paT_0 : w7.cell? ⟨w.heap.size, 0, none⟩ = some (.slice a0_vT vT.fNodes.length c0_vT) := (hst7.cell (p := ⟨w.heap.size, 0, none⟩) sz6_paT).trans bx6_paT_0; have sz7_x0 : w4.heap.size < w7.heap.size := Nat.lt_of_lt_of_le sz6_x0 hst7.size; have bx7_x0_0 : w7.cell? ⟨w4.heap.size, 0, none⟩ = some (.slice a0_vT_4 vT.fNodes.length c0_vT_4) := (hst7.cell (p := ⟨w4.heap.size, 0, none⟩) sz6_x0).trans bx6_x0_0; have HS7_0_vT := Lib.hid (HS6_0_vT.out.up hst7 (Nat.le_refl _)); have HS7_0_vT_2 := Lib.hid (HS6_0_vT_2.out.up hst7 (Nat.le_refl _)); have HS7_0_vT_4 := Lib.hid (HS6_0_vT_4.out.up hst7 (Nat.le_refl _)); have HS7_0_vT_6 := Lib.hid (HS6_0_vT_6.out.up hst7 (Nat.le_refl _)); have HB7 := Lib.hid (HB6.out.trans (hst7.mono HB6.out.size)); clear bx6_paT_0 sz6_paT bx6_x0_0 sz6_x0 HS6_0_vT HS6_0_vT_2 HS6_0_vT_4 HS6_0_vT_6 hb7 hst7 HB6)))
    all_goals
      go_wp2
      go_ret
      exact ⟨rfl, HB7.out⟩

set_option maxRecDepth 100000 in
theorem lifted (os : Os) (started : os.Started) (H : Type) (enc : TypeId × Value → H) :
    ReturnsInHanded {} Try.checked os 12 .any (Rows.fnExactTreeHeightSpec.pre6 enc Try.prog Try.f12 Rows.fnExactTreeHeightRow.domain false) (Rows.fnExactTreeHeightSpec.post enc Try.prog Try.f12 false true false false) := by
  refine returnsInHanded_of_change_sized (C := Try.checked) own started (by kernel_rfl) Try.func12
    (ChangeSpec.witness6 (enc := enc) (C := Try.checked) false ⟨#[], #[.agg #[.slice none 0 0], .int .i64 0], []⟩ 8 (by kernel_rfl) (by kernel_rfl) (by kernel_rfl) (by kernel_rfl)) ?_
  intro W base args ds gs before hval0 hW _ hsz0 _
  have hval : ∀ (j : Nat) t v, Try.f12.params[j]? = some t → args[j]? = some v → Value.okWide Try.prog W .any base t v := hval0
  obtain ⟨p, q, hA0, hV, hps, hfz, hnd⟩ := id hW
  have hA : DataW.TrodAll enc Try.prog W 0 (fun _ => true) true Try.f12.params.toList args.toList ds p := hA0
  have hsz : (DataW.weightsEach Try.prog (Try.f12.params.toList ++ Rows.fnExactTreeHeightSpec.plain.varTypes Try.prog) (ds ++ gs)).all (· ≤ reachBytes) = true := hsz0
  rw [Try.params12] at hA hval hsz
  obtain ⟨v0, vs0, d0, ds0, p0, q0, hargs, rfl, rfl, h0, r0⟩ := trodAll_cons hA
  obtain ⟨v1, vs1, d1, ds1, p1, q1, rfl, rfl, rfl, h1, r1⟩ := trodAll_cons r0
  obtain ⟨rfl, rfl, rfl⟩ := trodAll_nil r1
  obtain rfl : args = #[v0, v1] := by cases args; simp_all
  obtain ⟨vT, a0_vT, c0_vT, rfl, ok_vT, hs_0_vT⟩ := arg_tree (hval 0 57 v0 rfl rfl) h0
  obtain ⟨vI, rfl, rfl, rfl, w1⟩ := open_int Try.underlying3 (hval 1 3 v1 rfl rfl) h1
  have ok_vI := bounds_i64 w1
  refine (walk vT a0_vT c0_vT ok_vT vI ok_vI W hs_0_vT).mono fun e W' ⟨he, hg⟩ => ?_
  subst he
  exact ⟨_, rfl, law_post laidOut (by kernel_rfl) rfl Try.underlying4 rfl rfl hW hg⟩

theorem said : Rows.FnExactTreeHeightSaid :=
  OpenClaim.holds_of_wide 12 Try.f12 rfl rfl rfl rfl rfl rfl rfl ⟨rfl, rfl, rfl, rfl, rfl⟩ rfl rfl rfl rfl rfl (by kernel_rfl) Try.func12 (by kernel_rfl)
    (of_decide_eq_true (by kernel_rfl)) (by unfold Func.isWrapper; first | (rw [if_pos (by decide +kernel)]; kernel_rfl) | (rw [if_neg (by decide +kernel)]; exact ⟨rfl, rfl⟩))
    (fun os started H enc _ => lifted os started H enc)
#print axioms said
end Go.Proofs.Ytjjbnbhcfhbfdab.fnExactTreeHeight
