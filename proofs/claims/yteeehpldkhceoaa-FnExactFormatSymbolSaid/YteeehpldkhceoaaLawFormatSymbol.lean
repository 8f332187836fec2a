/-
  The law FnExactFormatSymbol: for every symbol the program's FormatSymbol answers as the model's. No condition.
-/
import Derived.Test.YteeehpldkhceoaaFmtSymW
import Derived.SizedLaws
namespace Go.Proofs.Yteeehpldkhceoaa.fnExactFormatSymbol
open Go.ChangeShapes Go.WideShapes Go.ChangeAt Go.RowKit Go.WideMaps Go.WideElems
open Go.ChangeMaps (open_string)
open Go.Lib Go.Deep

set_option maxHeartbeats 1600000 in
set_option maxRecDepth 100000 in
theorem walk (vS : DSymbol) (a1_vS : Option Addr) (c1_vS : Nat) (ok_vS : DSymbol.ok vS) (w : World) (hs_1_vS : Sl 0 w.heap.size w 4 vS.fAttributes.length (fun k => DAttribute.ct (vS.fAttributes.getD k default)) a1_vS) :
    Calls Try.prog 3 #[.agg #[.string vS.fName, .slice a1_vS vS.fAttributes.length c1_vS]] w fun e w' => e = .returned (.bool true) ∧ Below w.heap.size w w' := by
  have HS_1_vS := Lib.hid hs_1_vS
  clear hs_1_vS
  have OK_vS := Lib.hid ok_vS
  clear ok_vS
  by_cases h0 : 1048576 < ((DSymbol.sz vS : Nat) : Int)
  · skip
    have hz := fun (hi : Nat) (w' : World) (hhi : hi ≤ w'.heap.size) (hs_1_vS : Sl 0 hi w' 4 vS.fAttributes.length (fun k => DAttribute.ct (vS.fAttributes.getD k default)) a1_vS) => laws_szSymbol (c1 := c1_vS) vS 1048576 (by omega) (by omega) OK_vS.out w' hhi hs_1_vS
    rw [szR_gt (by omega)] at hz
    have HZ_vS := Lib.hid hz
    clear hz
    go_enter Try.func3, Try.ntmps3
    go_wp2_with fail
    refine (HZ_vS.out w.heap.size _ (Below.size (by repeat (first | (with_reducible exact Below.refl _ _) | (with_reducible apply Below.drew) | (with_reducible refine below_drewN ?_ _) | (refine Below.setCell ?_ (by simp <;> omega) _) | (refine Below.alloc ?_ (by simp <;> omega) _)) : Below w.heap.size w _)) (HS_1_vS.out.later (by repeat (first | (with_reducible exact Below.refl _ _) | (with_reducible apply Below.drew) | (with_reducible refine below_drewN ?_ _) | (refine Below.setCell ?_ (by simp <;> omega) _) | (refine Below.alloc ?_ (by simp <;> omega) _)) : Below w.heap.size w _) (Nat.le_refl _))).mono ?_
    rintro e w1 ⟨rfl, hb1⟩
    have hst1 : Below w.heap.size w w1 := Below.trans (by repeat (first | (with_reducible exact Below.refl _ _) | (with_reducible apply Below.drew) | (with_reducible refine below_drewN ?_ _) | (refine Below.setCell ?_ (by simp <;> omega) _) | (refine Below.alloc ?_ (by simp <;> omega) _)) : Below w.heap.size w _) (hb1.mono (Below.size (by repeat (first | (with_reducible exact Below.refl _ _) | (with_reducible apply Below.drew) | (with_reducible refine below_drewN ?_ _) | (refine Below.setCell ?_ (by simp <;> omega) _) | (refine Below.alloc ?_ (by simp <;> omega) _)) : Below w.heap.size w _)))
    have sz1_paS : w.heap.size < w1.heap.size := Nat.lt_of_lt_of_le (by first | omega | (simp; done) | (simp; omega) | (simp [World.setCell]; omega)) hb1.size
    have bx1_paS_0 : w1.cell? ⟨w.heap.size, 0, none⟩ = some (.string vS.fName) := (hb1.cell (p := ⟨w.heap.size, 0, none⟩) (by first | omega | (simp; done) | (simp; omega) | (simp [World.setCell]; omega))).trans (by go_simp)
    have bx1_paS_1 : w1.cell? ⟨w.heap.size, 1, none⟩ = some (.slice a1_vS vS.fAttributes.length c1_vS) := (hb1.cell (p := ⟨w.heap.size, 1, none⟩) (by first | omega | (simp; done) | (simp; omega) | (simp [World.setCell]; omega))).trans (by go_simp)
    have HS1_1_vS := Lib.hid (HS_1_vS.out.up hst1 (Nat.le_refl _))
    have HB1 := Lib.hid ((Below.refl w.heap.size w).trans (hst1.mono (Below.refl w.heap.size w).size))
    clear hb1 hst1
    go_wp2
    go_ret
    exact ⟨rfl, HB1.out⟩
  · skip
    have hz := fun (hi : Nat) (w' : World) (hhi : hi ≤ w'.heap.size) (hs_1_vS : Sl 0 hi w' 4 vS.fAttributes.length (fun k => DAttribute.ct (vS.fAttributes.getD k default)) a1_vS) => laws_szSymbol (c1 := c1_vS) vS 1048576 (by omega) (by omega) OK_vS.out w' hhi hs_1_vS
    rw [szR_le (by omega)] at hz
    have HZ_vS := Lib.hid hz
    clear hz
    have hq_vS : DSymbol.sz vS ≤ 1048576 := by omega
    go_enter Try.func3, Try.ntmps3
    go_wp2_with fail
    refine (HZ_vS.out w.heap.size _ (Below.size (by repeat (first | (with_reducible exact Below.refl _ _) | (with_reducible apply Below.drew) | (with_reducible refine below_drewN ?_ _) | (refine Below.setCell ?_ (by simp <;> omega) _) | (refine Below.alloc ?_ (by simp <;> omega) _)) : Below w.heap.size w _)) (HS_1_vS.out.later (by repeat (first | (with_reducible exact Below.refl _ _) | (with_reducible apply Below.drew) | (with_reducible refine below_drewN ?_ _) | (refine Below.setCell ?_ (by simp <;> omega) _) | (refine Below.alloc ?_ (by simp <;> omega) _)) : Below w.heap.size w _) (Nat.le_refl _))).mono ?_
    rintro e w1 ⟨rfl, hb1⟩
    have hst1 : Below w.heap.size w w1 := Below.trans (by repeat (first | (with_reducible exact Below.refl _ _) | (with_reducible apply Below.drew) | (with_reducible refine below_drewN ?_ _) | (refine Below.setCell ?_ (by simp <;> omega) _) | (refine Below.alloc ?_ (by simp <;> omega) _)) : Below w.heap.size w _) (hb1.mono (Below.size (by repeat (first | (with_reducible exact Below.refl _ _) | (with_reducible apply Below.drew) | (with_reducible refine below_drewN ?_ _) | (refine Below.setCell ?_ (by simp <;> omega) _) | (refine Below.alloc ?_ (by simp <;> omega) _)) : Below w.heap.size w _)))
    have sz1_paS : w.heap.size < w1.heap.size := Nat.lt_of_lt_of_le (by first | omega | (simp; done) | (simp; omega) | (simp [World.setCell]; omega)) hb1.size
    have bx1_paS_0 : w1.cell? ⟨w.heap.size, 0, none⟩ = some (.string vS.fName) := (hb1.cell (p := ⟨w.heap.size, 0, none⟩) (by first | omega | (simp; done) | (simp; omega) | (simp [World.setCell]; omega))).trans (by go_simp)
    have bx1_paS_1 : w1.cell? ⟨w.heap.size, 1, none⟩ = some (.slice a1_vS vS.fAttributes.length c1_vS) := (hb1.cell (p := ⟨w.heap.size, 1, none⟩) (by first | omega | (simp; done) | (simp; omega) | (simp [World.setCell]; omega))).trans (by go_simp)
    have HS1_1_vS := Lib.hid (HS_1_vS.out.up hst1 (Nat.le_refl _))
    have HB1 := Lib.hid ((Below.refl w.heap.size w).trans (hst1.mono (Below.refl w.heap.size w).size))
    clear hb1 hst1
    go_wp2_with fail
    refine (laws_toSymbol (c1 := c1_vS) vS hq_vS _ (Below.size (by repeat (first | (with_reducible exact Below.refl _ _) | (with_reducible apply Below.drew) | (with_reducible refine below_drewN ?_ _) | (refine Below.setCell ?_ (by simp <;> omega) _) | (refine Below.alloc ?_ (by simp <;> omega) _)) : Below w1.heap.size w1 _)) (HS1_1_vS.out.later (by repeat (first | (with_reducible exact Below.refl _ _) | (with_reducible apply Below.drew) | (with_reducible refine below_drewN ?_ _) | (refine Below.setCell ?_ (by simp <;> omega) _) | (refine Below.alloc ?_ (by simp <;> omega) _)) : Below w1.heap.size w1 _) (Nat.le_refl _))).mono ?_
    rintro e w2 ⟨a1_vS_2, c1_vS_2, rfl, ho2, hb2⟩
    have hst2 : Below w1.heap.size w1 w2 := Below.trans (by repeat (first | (with_reducible exact Below.refl _ _) | (with_reducible apply Below.drew) | (with_reducible refine below_drewN ?_ _) | (refine Below.setCell ?_ (by simp <;> omega) _) | (refine Below.alloc ?_ (by simp <;> omega) _)) : Below w1.heap.size w1 _) (hb2.mono (Below.size (by repeat (first | (with_reducible exact Below.refl _ _) | (with_reducible apply Below.drew) | (with_reducible refine below_drewN ?_ _) | (refine Below.setCell ?_ (by simp <;> omega) _) | (refine Below.alloc ?_ (by simp <;> omega) _)) : Below w1.heap.size w1 _)))
    have sz2_paS : w.heap.size < w2.heap.size := Nat.lt_of_lt_of_le sz1_paS hst2.size
    have bx2_paS_0 : w2.cell? ⟨w.heap.size, 0, none⟩ = some (.string vS.fName) := (hst2.cell (p := ⟨w.heap.size, 0, none⟩) sz1_paS).trans bx1_paS_0
    have bx2_paS_1 : w2.cell? ⟨w.heap.size, 1, none⟩ = some (.slice a1_vS vS.fAttributes.length c1_vS) := (hst2.cell (p := ⟨w.heap.size, 1, none⟩) sz1_paS).trans bx1_paS_1
    have HS2_1_vS := Lib.hid (HS1_1_vS.out.up hst2 (Nat.le_refl _))
    have HS2_1_vS_2 := Lib.hid (show Sl 0 w2.heap.size w2 4 vS.fAttributes.length (fun k => DAttribute.ct (vS.fAttributes.getD k default)) a1_vS_2 from Sl.of (cap := c1_vS_2) (l := vS.fAttributes.length) (a := a1_vS_2) (ho2.lies (lo := 0) (hi := w2.heap.size) (fun y hy => ⟨Nat.zero_le _, hy.2⟩) 1 (by decide)))
    have HB2 := Lib.hid (HB1.out.trans (hst2.mono HB1.out.size))
    clear bx1_paS_0 bx1_paS_1 sz1_paS HS1_1_vS ho2 hb2 hst2 HB1
    go_wp2_with fail
    refine (spec_FormatSymbol (c0_0 := c1_vS_2) vS OK_vS.out hq_vS _ (Below.size (by repeat (first | (with_reducible exact Below.refl _ _) | (with_reducible apply Below.drew) | (with_reducible refine below_drewN ?_ _) | (refine Below.setCell ?_ (by simp <;> omega) _) | (refine Below.alloc ?_ (by simp <;> omega) _)) : Below w2.heap.size w2 _)) (HS2_1_vS_2.out.later (by repeat (first | (with_reducible exact Below.refl _ _) | (with_reducible apply Below.drew) | (with_reducible refine below_drewN ?_ _) | (refine Below.setCell ?_ (by simp <;> omega) _) | (refine Below.alloc ?_ (by simp <;> omega) _)) : Below w2.heap.size w2 _) (Nat.le_refl _))).mono ?_
    rintro e w3 ⟨rfl, hb3⟩
    have hst3 : Below w2.heap.size w2 w3 := Below.trans (by repeat (first | (with_reducible exact Below.refl _ _) | (with_reducible apply Below.drew) | (with_reducible refine below_drewN ?_ _) | (refine Below.setCell ?_ (by simp <;> omega) _) | (refine Below.alloc ?_ (by simp <;> omega) _)) : Below w2.heap.size w2 _) (hb3.mono (Below.size (by repeat (first | (with_reducible exact Below.refl _ _) | (with_reducible apply Below.drew) | (with_reducible refine below_drewN ?_ _) | (refine Below.setCell ?_ (by simp <;> omega) _) | (refine Below.alloc ?_ (by simp <;> omega) _)) : Below w2.heap.size w2 _)))
    have sz3_paS : w.heap.size < w3.heap.size := Nat.lt_of_lt_of_le sz2_paS hst3.size
    have bx3_paS_0 : w3.cell? ⟨w.heap.size, 0, none⟩ = some (.string vS.fName) := (hst3.cell (p := ⟨w.heap.size, 0, none⟩) sz2_paS).trans bx2_paS_0
    have bx3_paS_1 : w3.cell? ⟨w.heap.size, 1, none⟩ = some (.slice a1_vS vS.fAttributes.length c1_vS) := (hst3.cell (p := ⟨w.heap.size, 1, none⟩) sz2_paS).trans bx2_paS_1
    have HS3_1_vS := Lib.hid (HS2_1_vS.out.up hst3 (Nat.le_refl _))
    have HS3_1_vS_2 := Lib.hid (HS2_1_vS_2.out.up hst3 (Nat.le_refl _))
    have HB3 := Lib.hid (HB2.out.trans (hst3.mono HB2.out.size))
    clear bx2_paS_0 bx2_paS_1 sz2_paS HS2_1_vS HS2_1_vS_2 hb3 hst3 HB2
    go_wp2_with fail
    refine (laws_toSymbol (c1 := c1_vS) vS hq_vS _ (Below.size (by repeat (first | (with_reducible exact Below.refl _ _) | (with_reducible apply Below.drew) | (with_reducible refine below_drewN ?_ _) | (refine Below.setCell ?_ (by simp <;> omega) _) | (refine Below.alloc ?_ (by simp <;> omega) _)) : Below w3.heap.size w3 _)) (HS3_1_vS.out.later (by repeat (first | (with_reducible exact Below.refl _ _) | (with_reducible apply Below.drew) | (with_reducible refine below_drewN ?_ _) | (refine Below.setCell ?_ (by simp <;> omega) _) | (refine Below.alloc ?_ (by simp <;> omega) _)) : Below w3.heap.size w3 _) (Nat.le_refl _))).mono ?_
    rintro e w4 ⟨a1_vS_4, c1_vS_4, rfl, ho4, hb4⟩
    have hst4 : Below w3.heap.size w3 w4 := Below.trans (by repeat (first | (with_reducible exact Below.refl _ _) | (with_reducible apply Below.drew) | (with_reducible refine below_drewN ?_ _) | (refine Below.setCell ?_ (by simp <;> omega) _) | (refine Below.alloc ?_ (by simp <;> omega) _)) : Below w3.heap.size w3 _) (hb4.mono (Below.size (by repeat (first | (with_reducible exact Below.refl _ _) | (with_reducible apply Below.drew) | (with_reducible refine below_drewN ?_ _) | (refine Below.setCell ?_ (by simp <;> omega) _) | (refine Below.alloc ?_ (by simp <;> omega) _)) : Below w3.heap.size w3 _)))
    have sz4_paS : w.heap.size < w4.heap.size := Nat.lt_of_lt_of_le sz3_paS hst4.size
    have bx4_paS_0 : w4.cell? ⟨w.heap.size, 0, none⟩ = some (.string vS.fName) := (hst4.cell (p := ⟨w.heap.size, 0, none⟩) sz3_paS).trans bx3_paS_0
    have bx4_paS_1 : w4.cell? ⟨w.heap.size, 1, none⟩ = some (.slice a1_vS vS.fAttributes.length c1_vS) := (hst4.cell (p := ⟨w.heap.size, 1, none⟩) sz3_paS).trans bx3_paS_1
    have HS4_1_vS := Lib.hid (HS3_1_vS.out.up hst4 (Nat.le_refl _))
    have HS4_1_vS_2 := Lib.hid (HS3_1_vS_2.out.up hst4 (Nat.le_refl _))
    have HS4_1_vS_4 := Lib.hid (show Sl 0 w4.heap.size w4 4 vS.fAttributes.length (fun k => DAttribute.ct (vS.fAttributes.getD k default)) a1_vS_4 from Sl.of (cap := c1_vS_4) (l := vS.fAttributes.length) (a := a1_vS_4) (ho4.lies (lo := 0) (hi := w4.heap.size) (fun y hy => ⟨Nat.zero_le _, hy.2⟩) 1 (by decide)))
    have HB4 := Lib.hid (HB3.out.trans (hst4.mono HB3.out.size))
    clear bx3_paS_0 bx3_paS_1 sz3_paS HS3_1_vS HS3_1_vS_2 ho4 hb4 hst4 HB3
    go_wp2_with fail
    refine (impl_FormatSymbol (c0_0 := c1_vS_4) vS OK_vS.out hq_vS _ (Below.size (by repeat (first | (with_reducible exact Below.refl _ _) | (with_reducible apply Below.drew) | (with_reducible refine below_drewN ?_ _) | (refine Below.setCell ?_ (by simp <;> omega) _) | (refine Below.alloc ?_ (by simp <;> omega) _)) : Below w4.heap.size w4 _)) (HS4_1_vS_4.out.later (by repeat (first | (with_reducible exact Below.refl _ _) | (with_reducible apply Below.drew) | (with_reducible refine below_drewN ?_ _) | (refine Below.setCell ?_ (by simp <;> omega) _) | (refine Below.alloc ?_ (by simp <;> omega) _)) : Below w4.heap.size w4 _) (Nat.le_refl _))).mono ?_
    rintro e w5 ⟨rfl, hb5⟩
    have hst5 : Below w4.heap.size w4 w5 := Below.trans (by repeat (first | (with_reducible exact Below.refl _ _) | (with_reducible apply Below.drew) | (with_reducible refine below_drewN ?_ _) | (refine Below.setCell ?_ (by simp <;> omega) _) | (refine Below.alloc ?_ (by simp <;> omega) _)) : Below w4.heap.size w4 _) (hb5.mono (Below.size (by repeat (first | (with_reducible exact Below.refl _ _) | (with_reducible apply Below.drew) | (with_reducible refine below_drewN ?_ _) | (refine Below.setCell ?_ (by simp <;> omega) _) | (refine Below.alloc ?_ (by simp <;> omega) _)) : Below w4.heap.size w4 _)))
    have sz5_paS : w.heap.size < w5.heap.size := Nat.lt_of_lt_of_le sz4_paS hst5.size
    have bx5_paS_0 : w5.cell? ⟨w.heap.size, 0, none⟩ = some (.string vS.fName) := (hst5.cell (p := ⟨w.heap.size, 0, none⟩) sz4_paS).trans bx4_paS_0
    have bx5_paS_1 : w5.cell? ⟨w.heap.size, 1, none⟩ = some (.slice a1_vS vS.fAttributes.length c1_vS) := (hst5.cell (p := ⟨w.heap.size, 1, none⟩) sz4_paS).trans bx4_paS_1
    have sz5_x0 : w4.heap.size < w5.heap.size := Nat.lt_of_lt_of_le (by first | omega | (simp; done) | (simp; omega) | (simp [World.setCell]; omega)) hb5.size
    have bx5_x0_0 : w5.cell? ⟨w4.heap.size, 0, none⟩ = some (.string vS.fName) := (hb5.cell (p := ⟨w4.heap.size, 0, none⟩) (by first | omega | (simp; done) | (simp; omega) | (simp [World.setCell]; omega))).trans (by go_simp)
    have bx5_x0_1 : w5.cell? ⟨w4.heap.size, 1, none⟩ = some (.slice a1_vS_4 vS.fAttributes.length c1_vS_4) := (hb5.cell (p := ⟨w4.heap.size, 1, none⟩) (by first | omega | (simp; done) | (simp; omega) | (simp [World.setCell]; omega))).trans (by go_simp)
    have HS5_1_vS := Lib.hid (HS4_1_vS.out.up hst5 (Nat.le_refl _))
    have HS5_1_vS_2 := Lib.hid (HS4_1_vS_2.out.up hst5 (Nat.le_refl _))
    have HS5_1_vS_4 := Lib.hid (HS4_1_vS_4.out.up hst5 (Nat.le_refl _))
    have HB5 := Lib.hid (HB4.out.trans (hst5.mono HB4.out.size))
    clear bx4_paS_0 bx4_paS_1 sz4_paS HS4_1_vS HS4_1_vS_2 HS4_1_vS_4 hb5 hst5 HB4
    go_wp2_with fail
    go_region_with ((first | (go_at_call 6; refine (laws_toSymbol (c1 := c1_vS) vS hq_vS _ (Below.size (by repeat (first | (with_reducible exact Below.refl _ _) | (with_reducible apply Below.drew) | (with_reducible refine below_drewN ?_ _) | (refine Below.setCell ?_ (by simp <;> omega) _) | (refine Below.alloc ?_ (by simp <;> omega) _)) : Below w5.heap.size w5 _)) (HS5_1_vS.out.later (by repeat (first | (with_reducible exact Below.refl _ _) | (with_reducible apply Below.drew) | (with_reducible refine below_drewN ?_ _) | (refine Below.setCell ?_ (by simp <;> omega) _) | (refine Below.alloc ?_ (by simp <;> omega) _)) : Below w5.heap.size w5 _) (Nat.le_refl _))).mono ?_; rintro e w6 ⟨a1_vS_6, c1_vS_6, rfl, ho6, hb6⟩; have hst6 : Below w5.heap.size w5 w6 := Below.trans (by repeat (first | (with_reducible exact Below.refl _ _) | (with_reducible apply Below.drew) | (with_reducible refine below_drewN ?_ _) | (refine Below.setCell ?_ (by simp <;> omega) _) | (refine Below.alloc ?_ (by simp <;> omega) _)) : Below w5.heap.size w5 _) (hb6.mono (Below.size (by repeat (first | (with_reducible exact Below.refl _ _) | (with_reducible apply Below.drew) | (with_reducible refine below_drewN ?_ _) | (refine Below.setCell ?_ (by simp <;> omega) _) | (refine Below.alloc ?_ (by simp <;> omega) _)) : Below w5.heap.size w5 _))); have sz6_paS : w.heap.size < w6.heap.size := Nat.lt_of_lt_of_le sz5_paS hst6.size; have bx6_paS_0 : w6.cell? ⟨w.heap.size, 0, none⟩ = some (.string vS.fName) := (hst6.cell (p := ⟨w.heap.size, 0, none⟩) sz5_paS).trans bx5_paS_0; have bx6_paS_1 : w6.cell? ⟨w.heap.size, 1, none⟩ = some (.slice a1_vS vS.fAttributes.length c1_vS) := (hst6.cell (p := ⟨w.heap.size, 1, none⟩) sz5_paS).trans bx5_paS_1; have sz6_x0 : w4.heap.size < w6.heap.size := Nat.lt_of_lt_of_le sz5_x0 hst6.size; have bx6_x0_0 : w6.cell? ⟨w4.heap.size, 0, none⟩ = some (.string vS.fName) := (hst6.cell (p := ⟨w4.heap.size, 0, none⟩) sz5_x0).trans bx5_x0_0; have bx6_x0_1 : w6.cell? ⟨w4.heap.size, 1, none⟩ = some (.slice a1_vS_4 vS.fAttributes.length c1_vS_4) := (hst6.cell (p := ⟨w4.heap.size, 1, none⟩) sz5_x0).trans bx5_x0_1; have HS6_1_vS := Lib.hid (HS5_1_vS.out.up hst6 (Nat.le_refl _)); have HS6_1_vS_2 := Lib.hid (HS5_1_vS_2.out.up hst6 (Nat.le_refl _)); have HS6_1_vS_4 := Lib.hid (HS5_1_vS_4.out.up hst6 (Nat.le_refl _)); have HS6_1_vS_6 := Lib.hid (show Sl 0 w6.heap.size w6 4 vS.fAttributes.length (fun k => DAttribute.ct (vS.fAttributes.getD k default)) a1_vS_6 from Sl.of (cap := c1_vS_6) (l := vS.fAttributes.length) (a := a1_vS_6) (ho6.lies (lo := 0) (hi := w6.heap.size) (fun y hy => ⟨Nat.zero_le _, hy.2⟩) 1 (by decide))); have HB6 := Lib.hid (HB5.out.trans (hst6.mono HB5.out.size)); clear bx5_paS_0 bx5_paS_1 sz5_paS bx5_x0_0 bx5_x0_1 sz5_x0 HS5_1_vS HS5_1_vS_2 HS5_1_vS_4 ho6 hb6 hst6 HB5) | (go_at_call 8; refine (laws_eqSymbol (c1 := c1_vS_4) (c1q := c1_vS_6) vS hq_vS _ (Below.size (by repeat (first | (with_reducible exact Below.refl _ _) | (with_reducible apply Below.drew) | (with_reducible refine below_drewN ?_ _) | (refine Below.setCell ?_ (by simp <;> omega) _) | (refine Below.alloc ?_ (by simp <;> omega) _)) : Below w6.heap.size w6 _)) (Below.size (by repeat (first | (with_reducible exact Below.refl _ _) | (with_reducible apply Below.drew) | (with_reducible refine below_drewN ?_ _) | (refine Below.setCell ?_ (by simp <;> omega) _) | (refine Below.alloc ?_ (by simp <;> omega) _)) : Below w6.heap.size w6 _)) (HS6_1_vS_4.out.later (by repeat (first | (with_reducible exact Below.refl _ _) | (with_reducible apply Below.drew) | (with_reducible refine below_drewN ?_ _) | (refine Below.setCell ?_ (by simp <;> omega) _) | (refine Below.alloc ?_ (by simp <;> omega) _)) : Below w6.heap.size w6 _) (Nat.le_refl _)) (HS6_1_vS_6.out.later (by repeat (first | (with_reducible exact Below.refl _ _) | (with_reducible apply Below.drew) | (with_reducible refine below_drewN ?_ _) | (refine Below.setCell ?_ (by simp <;> omega) _) | (refine Below.alloc ?_ (by simp <;> omega) _)) : Below w6.heap.size w6 _) (Nat.le_refl _))).mono ?_; rintro e w7 ⟨rfl, hb7⟩; have hst7 : Below w6.heap.size w6 w7 := Below.trans (by repeat (first | (with_reducible exact Below.refl _ _) | (with_reducible apply Below.drew) | (with_reducible refine below_drewN ?_ _) | (refine Below.setCell ?_ (by simp <;> omega) _) | (refine Below.alloc ?_ (by simp <;> omega) _)) : Below w6.heap.size w6 _) (hb7.mono (Below.size (by repeat (first | (with_reducible exact Below.refl _ _) | (with_reducible apply Below.drew) | (with_reducible refine below_drewN ?_ _) | (refine Below.setCell ?_ (by simp <;> omega) _) | (refine Below.alloc ?_ (by simp <;> omega) _)) : Below w6.heap.size w6 _))); have sz7_paS : w.heap.size < w7.heap.size := Nat.lt_of_lt_of_le sz6_paS hst7.size; have bx7_paS_0 : w7.cell? ⟨w.heap.size, 0, none⟩ = some (.string vS.fName) := (hst7.cell (p := ⟨w.heap.size, 0, none⟩) sz6_paS).trans bx6_paS_0; have bx7_paS_1 : w7.cell? ⟨w.heap.size, 1, none⟩ = some (.slice a1_vS vS.fAttributes.length c1_vS) := (hst7.cell (p := ⟨w.heap.size, 1, none⟩) sz6_paS).trans bx6_paS_1; have sz7_x0 : w4.heap.size < w7.heap.size := Nat.lt_of_lt_of_le sz6_x0 hst7.size; have bx7_x0_0 : w7.cell? ⟨w4.heap.size, 0, none⟩ = some (.string vS.fName) := (hst7.cell (p := ⟨w4.heap.size, 0, none⟩) sz6_x0).trans bx6_x0_0; have bx7_x0_1 : w7.cell? ⟨w4.heap.size, 1, none⟩ = some (.slice a1_vS_4 vS.fAttributes.length c1_vS_4) := (hst7.cell (p := ⟨w4.heap.size, 1, none⟩) sz6_x0).trans bx6_x0_1; have HS7_1_vS := Lib.hid (HS6_1_vS.out.up hst7 (Nat.le_refl _)); have HS7_1_vS_2 := Lib.hid (HS6_1_vS_2.out.up hst7 (Nat.le_refl _)); have HS7_1_vS_4 := Lib.hid (HS6_1_vS_4.out.up hst7 (Nat.le_refl _)); have HS7_1_vS_6 := Lib.hid (HS6_1_vS_6.out.up hst7 (Nat.le_refl _)); have HB7 := Lib.hid (HB6.out.trans (hst7.mono HB6.out.size)); clear bx6_paS_0 bx6_paS_1 sz6_paS bx6_x0_0 bx6_x0_1 sz6_x0 HS6_1_vS HS6_1_vS_2 HS6_1_vS_4 HS6_1_vS_6 hb7 hst7 HB6)))
    all_goals
      go_wp2
      go_ret
      exact ⟨rfl, HB7.out⟩

set_option maxRecDepth 100000 in
theorem lifted (os : Os) (started : os.Started) (H : Type) (enc : TypeId × Value → H) :
    ReturnsInHanded {} Try.checked os 3 .any (Rows.fnExactFormatSymbolSpec.pre6 enc Try.prog Try.f3 Rows.fnExactFormatSymbolRow.domain false) (Rows.fnExactFormatSymbolSpec.post enc Try.prog Try.f3 false true false false) := by
  refine returnsInHanded_of_change_sized (C := Try.checked) own started (by kernel_rfl) Try.func3
    (ChangeSpec.witness6 (enc := enc) (C := Try.checked) false ⟨#[], #[.agg #[.string ⟨#[]⟩, .slice none 0 0]], []⟩ 8 (by kernel_rfl) (by kernel_rfl) (by kernel_rfl) (by kernel_rfl)) ?_
  intro W base args ds gs before hval0 hW _ hsz0 _
  have hval : ∀ (j : Nat) t v, Try.f3.params[j]? = some t → args[j]? = some v → Value.okWide Try.prog W .any base t v := hval0
  obtain ⟨p, q, hA0, hV, hps, hfz, hnd⟩ := id hW
  have hA : DataW.TrodAll enc Try.prog W 0 (fun _ => true) true Try.f3.params.toList args.toList ds p := hA0
  have hsz : (DataW.weightsEach Try.prog (Try.f3.params.toList ++ Rows.fnExactFormatSymbolSpec.plain.varTypes Try.prog) (ds ++ gs)).all (· ≤ reachBytes) = true := hsz0
  rw [Try.params3] at hA hval hsz
  obtain ⟨v0, vs0, d0, ds0, p0, q0, hargs, rfl, rfl, h0, r0⟩ := trodAll_cons hA
  obtain ⟨rfl, rfl, rfl⟩ := trodAll_nil r0
  obtain rfl : args = #[v0] := by cases args; simp_all
  obtain ⟨vS, a1_vS, c1_vS, rfl, ok_vS, hs_1_vS⟩ := arg_symbol (hval 0 24 v0 rfl rfl) h0
  refine (walk vS a1_vS c1_vS ok_vS W hs_1_vS).mono fun e W' ⟨he, hg⟩ => ?_
  subst he
  exact ⟨_, rfl, law_post laidOut (by kernel_rfl) rfl Try.underlying4 rfl rfl hW hg⟩

theorem said : Rows.FnExactFormatSymbolSaid :=
  OpenClaim.holds_of_wide 3 Try.f3 rfl rfl rfl rfl rfl rfl rfl ⟨rfl, rfl, rfl, rfl, rfl⟩ rfl rfl rfl rfl rfl (by kernel_rfl) Try.func3 (by kernel_rfl)
    (of_decide_eq_true (by kernel_rfl)) (by unfold Func.isWrapper; first | (rw [if_pos (by decide +kernel)]; kernel_rfl) | (rw [if_neg (by decide +kernel)]; exact ⟨rfl, rfl⟩))
    (fun os started H enc _ => lifted os started H enc)
#print axioms said
end Go.Proofs.Yteeehpldkhceoaa.fnExactFormatSymbol
