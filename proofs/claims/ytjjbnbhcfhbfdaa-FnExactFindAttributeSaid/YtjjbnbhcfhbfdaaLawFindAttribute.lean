/-
  The law FnExactFindAttribute: for every symbol and every name the program's FindAttribute answers as the model's. No condition.
-/
import Derived.Test.YtjjbnbhcfhbfdaaFindAttr
import Derived.SizedLaws
namespace Go.Proofs.Ytjjbnbhcfhbfdaa.fnExactFindAttribute
open Go.ChangeShapes Go.WideShapes Go.ChangeAt Go.RowKit Go.WideMaps Go.WideElems
open Go.ChangeMaps (open_string)
open Go.Lib Go.Deep

set_option maxHeartbeats 1600000 in
set_option maxRecDepth 100000 in
theorem walk (vS : DSymbol) (a1_vS : Option Addr) (c1_vS : Nat) (ok_vS : DSymbol.ok vS) (vName : ByteArray) (ok_vName : okS vName) (w : World) (hs_1_vS : Sl 0 w.heap.size w 4 vS.fAttributes.length (fun k => DAttribute.ct (vS.fAttributes.getD k default)) a1_vS) :
    Calls Try.prog 13 #[.agg #[.string vS.fName, .slice a1_vS vS.fAttributes.length c1_vS], .string vName] w fun e w' => e = .returned (.bool true) ∧ Below w.heap.size w w' := by
  have HS_1_vS := Lib.hid hs_1_vS
  clear hs_1_vS
  have OK_vS := Lib.hid ok_vS
  clear ok_vS
  have okb_vName : vName.size ≤ 9223372036854775807 := ok_vName
  have OK_vName := Lib.hid ok_vName
  clear ok_vName
  by_cases hl0 : (1048576 : Int) < ((vName.size : Nat) : Int)
  · skip
    go_enter Try.func13, Try.ntmps13
    go_wp2
    go_ret
    exact ⟨rfl, (by repeat (first | (with_reducible exact Below.refl _ _) | (refine Below.alloc ?_ (by simp <;> omega) _)))⟩
  · have hq_vName : vName.size ≤ 1048576 := by omega
    clear hl0
    by_cases h0 : 1048576 < ((DSymbol.sz vS : Nat) : Int)
    · skip
      have hz := fun (hi : Nat) (w' : World) (hhi : hi ≤ w'.heap.size) (hs_1_vS : Sl 0 hi w' 4 vS.fAttributes.length (fun k => DAttribute.ct (vS.fAttributes.getD k default)) a1_vS) => laws_szSymbol (c1 := c1_vS) vS 1048576 (by omega) (by omega) OK_vS.out w' hhi hs_1_vS
      rw [szR_gt (by omega)] at hz
      have HZ_vS := Lib.hid hz
      clear hz
      go_enter Try.func13, Try.ntmps13
      go_wp2_with fail
      refine (HZ_vS.out w.heap.size _ (Below.size (by repeat (first | (with_reducible exact Below.refl _ _) | (with_reducible apply Below.drew) | (with_reducible refine below_drewN ?_ _) | (refine Below.setCell ?_ (by simp <;> omega) _) | (refine Below.alloc ?_ (by simp <;> omega) _)) : Below w.heap.size w _)) (HS_1_vS.out.later (by repeat (first | (with_reducible exact Below.refl _ _) | (with_reducible apply Below.drew) | (with_reducible refine below_drewN ?_ _) | (refine Below.setCell ?_ (by simp <;> omega) _) | (refine Below.alloc ?_ (by simp <;> omega) _)) : Below w.heap.size w _) (Nat.le_refl _))).mono ?_
      rintro e w1 ⟨rfl, hb1⟩
      have hst1 : Below w.heap.size w w1 := Below.trans (by repeat (first | (with_reducible exact Below.refl _ _) | (with_reducible apply Below.drew) | (with_reducible refine below_drewN ?_ _) | (refine Below.setCell ?_ (by simp <;> omega) _) | (refine Below.alloc ?_ (by simp <;> omega) _)) : Below w.heap.size w _) (hb1.mono (Below.size (by repeat (first | (with_reducible exact Below.refl _ _) | (with_reducible apply Below.drew) | (with_reducible refine below_drewN ?_ _) | (refine Below.setCell ?_ (by simp <;> omega) _) | (refine Below.alloc ?_ (by simp <;> omega) _)) : Below w.heap.size w _)))
      have sz1_paS : w.heap.size < w1.heap.size := Nat.lt_of_lt_of_le (by first | omega | (simp; done) | (simp; omega) | (simp [World.setCell]; omega)) hb1.size
      have bx1_paS_0 : w1.cell? ⟨w.heap.size, 0, none⟩ = some (.string vS.fName) := (hb1.cell (p := ⟨w.heap.size, 0, none⟩) (by first | omega | (simp; done) | (simp; omega) | (simp [World.setCell]; omega))).trans (by go_simp)
      have bx1_paS_1 : w1.cell? ⟨w.heap.size, 1, none⟩ = some (.slice a1_vS vS.fAttributes.length c1_vS) := (hb1.cell (p := ⟨w.heap.size, 1, none⟩) (by first | omega | (simp; done) | (simp; omega) | (simp [World.setCell]; omega))).trans (by go_simp)
      have HS1_1_vS := Lib.hid (HS_1_vS.out.up hst1 (Nat.le_refl _))
      have HB1 := Lib.hid ((Below.refl w.heap.size w).trans (hst1.mono (Below.refl w.heap.size w).size))
      clear hb1 hst1
      go_wp2
      go_ret
      exact ⟨rfl, HB1.out⟩
    · skip
      have hz := fun (hi : Nat) (w' : World) (hhi : hi ≤ w'.heap.size) (hs_1_vS : Sl 0 hi w' 4 vS.fAttributes.length (fun k => DAttribute.ct (vS.fAttributes.getD k default)) a1_vS) => laws_szSymbol (c1 := c1_vS) vS 1048576 (by omega) (by omega) OK_vS.out w' hhi hs_1_vS
      rw [szR_le (by omega)] at hz
      have HZ_vS := Lib.hid hz
      clear hz
      have hq_vS : DSymbol.sz vS ≤ 1048576 := by omega
      go_enter Try.func13, Try.ntmps13
      go_wp2_with fail
      refine (HZ_vS.out w.heap.size _ (Below.size (by repeat (first | (with_reducible exact Below.refl _ _) | (with_reducible apply Below.drew) | (with_reducible refine below_drewN ?_ _) | (refine Below.setCell ?_ (by simp <;> omega) _) | (refine Below.alloc ?_ (by simp <;> omega) _)) : Below w.heap.size w _)) (HS_1_vS.out.later (by repeat (first | (with_reducible exact Below.refl _ _) | (with_reducible apply Below.drew) | (with_reducible refine below_drewN ?_ _) | (refine Below.setCell ?_ (by simp <;> omega) _) | (refine Below.alloc ?_ (by simp <;> omega) _)) : Below w.heap.size w _) (Nat.le_refl _))).mono ?_
      rintro e w1 ⟨rfl, hb1⟩
      have hst1 : Below w.heap.size w w1 := Below.trans (by repeat (first | (with_reducible exact Below.refl _ _) | (with_reducible apply Below.drew) | (with_reducible refine below_drewN ?_ _) | (refine Below.setCell ?_ (by simp <;> omega) _) | (refine Below.alloc ?_ (by simp <;> omega) _)) : Below w.heap.size w _) (hb1.mono (Below.size (by repeat (first | (with_reducible exact Below.refl _ _) | (with_reducible apply Below.drew) | (with_reducible refine below_drewN ?_ _) | (refine Below.setCell ?_ (by simp <;> omega) _) | (refine Below.alloc ?_ (by simp <;> omega) _)) : Below w.heap.size w _)))
      have sz1_paS : w.heap.size < w1.heap.size := Nat.lt_of_lt_of_le (by first | omega | (simp; done) | (simp; omega) | (simp [World.setCell]; omega)) hb1.size
      have bx1_paS_0 : w1.cell? ⟨w.heap.size, 0, none⟩ = some (.string vS.fName) := (hb1.cell (p := ⟨w.heap.size, 0, none⟩) (by first | omega | (simp; done) | (simp; omega) | (simp [World.setCell]; omega))).trans (by go_simp)
      have bx1_paS_1 : w1.cell? ⟨w.heap.size, 1, none⟩ = some (.slice a1_vS vS.fAttributes.length c1_vS) := (hb1.cell (p := ⟨w.heap.size, 1, none⟩) (by first | omega | (simp; done) | (simp; omega) | (simp [World.setCell]; omega))).trans (by go_simp)
      have HS1_1_vS := Lib.hid (HS_1_vS.out.up hst1 (Nat.le_refl _))
      have HB1 := Lib.hid ((Below.refl w.heap.size w).trans (hst1.mono (Below.refl w.heap.size w).size))
      clear hb1 hst1
      go_wp2_with fail
      refine (laws_toSymbol (c1 := c1_vS) vS hq_vS _ (Below.size (by repeat (first | (with_reducible exact Below.refl _ _) | (with_reducible apply Below.drew) | (with_reducible refine below_drewN ?_ _) | (refine Below.setCell ?_ (by simp <;> omega) _) | (refine Below.alloc ?_ (by simp <;> omega) _)) : Below w1.heap.size w1 _)) (HS1_1_vS.out.later (by repeat (first | (with_reducible exact Below.refl _ _) | (with_reducible apply Below.drew) | (with_reducible refine below_drewN ?_ _) | (refine Below.setCell ?_ (by simp <;> omega) _) | (refine Below.alloc ?_ (by simp <;> omega) _)) : Below w1.heap.size w1 _) (Nat.le_refl _))).mono ?_
      rintro e w2 ⟨a1_vS_2, c1_vS_2, rfl, ho2, hb2⟩
      have hst2 : Below w1.heap.size w1 w2 := Below.trans (by repeat (first | (with_reducible exact Below.refl _ _) | (with_reducible apply Below.drew) | (with_reducible refine below_drewN ?_ _) | (refine Below.setCell ?_ (by simp <;> omega) _) | (refine Below.alloc ?_ (by simp <;> omega) _)) : Below w1.heap.size w1 _) (hb2.mono (Below.size (by repeat (first | (with_reducible exact Below.refl _ _) | (with_reducible apply Below.drew) | (with_reducible refine below_drewN ?_ _) | (refine Below.setCell ?_ (by simp <;> omega) _) | (refine Below.alloc ?_ (by simp <;> omega) _)) : Below w1.heap.size w1 _)))
      have sz2_paS : w.heap.size < w2.heap.size := Nat.lt_of_lt_of_le sz1_paS hst2.size
      have bx2_paS_0 : w2.cell? ⟨w.heap.size, 0, none⟩ = some (.string vS.fName) := (hst2.cell (p := ⟨w.heap.size, 0, none⟩) sz1_paS).trans bx1_paS_0
      have bx2_paS_1 : w2.cell? ⟨w.heap.size, 1, none⟩ = some (.slice a1_vS vS.fAttributes.length c1_vS) := (hst2.cell (p := ⟨w.heap.size, 1, none⟩) sz1_paS).trans bx1_paS_1
      have HS2_1_vS := Lib.hid (HS1_1_vS.out.up hst2 (Nat.le_refl _))
      have HS2_1_vS_2 := Lib.hid (show Sl 0 w2.heap.size w2 4 vS.fAttributes.length (fun k => DAttribute.ct (vS.fAttributes.getD k default)) a1_vS_2 from Sl.of (cap := c1_vS_2) (l := vS.fAttributes.length) (a := a1_vS_2) (ho2.lies (lo := 0) (hi := w2.heap.size) (fun y hy => ⟨Nat.zero_le _, hy.2⟩) 1 (by decide)))
      have HB2 := Lib.hid (HB1.out.trans (hst2.mono HB1.out.size))
      clear bx1_paS_0 bx1_paS_1 sz1_paS HS1_1_vS ho2 hb2 hst2 HB1
      go_wp2_with fail
      refine (spec_FindAttribute (c0_0 := c1_vS_2) vS OK_vS.out hq_vS vName OK_vName.out hq_vName _ (Below.size (by repeat (first | (with_reducible exact Below.refl _ _) | (with_reducible apply Below.drew) | (with_reducible refine below_drewN ?_ _) | (refine Below.setCell ?_ (by simp <;> omega) _) | (refine Below.alloc ?_ (by simp <;> omega) _)) : Below w2.heap.size w2 _)) (HS2_1_vS_2.out.later (by repeat (first | (with_reducible exact Below.refl _ _) | (with_reducible apply Below.drew) | (with_reducible refine below_drewN ?_ _) | (refine Below.setCell ?_ (by simp <;> omega) _) | (refine Below.alloc ?_ (by simp <;> omega) _)) : Below w2.heap.size w2 _) (Nat.le_refl _))).mono ?_
      rintro e w3 ⟨rfl, hb3⟩
      have hst3 : Below w2.heap.size w2 w3 := Below.trans (by repeat (first | (with_reducible exact Below.refl _ _) | (with_reducible apply Below.drew) | (with_reducible refine below_drewN ?_ _) | (refine Below.setCell ?_ (by simp <;> omega) _) | (refine Below.alloc ?_ (by simp <;> omega) _)) : Below w2.heap.size w2 _) (hb3.mono (Below.size (by repeat (first | (with_reducible exact Below.refl _ _) | (with_reducible apply Below.drew) | (with_reducible refine below_drewN ?_ _) | (refine Below.setCell ?_ (by simp <;> omega) _) | (refine Below.alloc ?_ (by simp <;> omega) _)) : Below w2.heap.size w2 _)))
      have sz3_paS : w.heap.size < w3.heap.size := Nat.lt_of_lt_of_le sz2_paS hst3.size
      have bx3_paS_0 : w3.cell? ⟨w.heap.size, 0, none⟩ = some (.string vS.fName) := (hst3.cell (p := ⟨w.heap.size, 0, none⟩) sz2_paS).trans bx2_paS_0
      have bx3_paS_1 : w3.cell? ⟨w.heap.size, 1, none⟩ = some (.slice a1_vS vS.fAttributes.length c1_vS) := (hst3.cell (p := ⟨w.heap.size, 1, none⟩) sz2_paS).trans bx2_paS_1
      have HS3_1_vS := Lib.hid (HS2_1_vS.out.up hst3 (Nat.le_refl _))
      have HS3_1_vS_2 := Lib.hid (HS2_1_vS_2.out.up hst3 (Nat.le_refl _))
      have HB3 := Lib.hid (HB2.out.trans (hst3.mono HB2.out.size))
      clear bx2_paS_0 bx2_paS_1 sz2_paS HS2_1_vS HS2_1_vS_2 hb3 hst3 HB2
      go_wp2_with fail
      refine (laws_toSymbol (c1 := c1_vS) vS hq_vS _ (Below.size (by repeat (first | (with_reducible exact Below.refl _ _) | (with_reducible apply Below.drew) | (with_reducible refine below_drewN ?_ _) | (refine Below.setCell ?_ (by simp <;> omega) _) | (refine Below.alloc ?_ (by simp <;> omega) _)) : Below w3.heap.size w3 _)) (HS3_1_vS.out.later (by repeat (first | (with_reducible exact Below.refl _ _) | (with_reducible apply Below.drew) | (with_reducible refine below_drewN ?_ _) | (refine Below.setCell ?_ (by simp <;> omega) _) | (refine Below.alloc ?_ (by simp <;> omega) _)) : Below w3.heap.size w3 _) (Nat.le_refl _))).mono ?_
      rintro e w4 ⟨a1_vS_4, c1_vS_4, rfl, ho4, hb4⟩
      have hst4 : Below w3.heap.size w3 w4 := Below.trans (by repeat (first | (with_reducible exact Below.refl _ _) | (with_reducible apply Below.drew) | (with_reducible refine below_drewN ?_ _) | (refine Below.setCell ?_ (by simp <;> omega) _) | (refine Below.alloc ?_ (by simp <;> omega) _)) : Below w3.heap.size w3 _) (hb4.mono (Below.size (by repeat (first | (with_reducible exact Below.refl _ _) | (with_reducible apply Below.drew) | (with_reducible refine below_drewN ?_ _) | (refine Below.setCell ?_ (by simp <;> omega) _) | (refine Below.alloc ?_ (by simp <;> omega) _)) : Below w3.heap.size w3 _)))
      have sz4_paS : w.heap.size < w4.heap.size := Nat.lt_of_lt_of_le sz3_paS hst4.size
      have bx4_paS_0 : w4.cell? ⟨w.heap.size, 0, none⟩ = some (.string vS.fName) := (hst4.cell (p := ⟨w.heap.size, 0, none⟩) sz3_paS).trans bx3_paS_0
      have bx4_paS_1 : w4.cell? ⟨w.heap.size, 1, none⟩ = some (.slice a1_vS vS.fAttributes.length c1_vS) := (hst4.cell (p := ⟨w.heap.size, 1, none⟩) sz3_paS).trans bx3_paS_1
      have sz4_w0 : w3.heap.size < w4.heap.size := Nat.lt_of_lt_of_le (by first | omega | (simp; done) | (simp; omega) | (simp [World.setCell]; omega)) hb4.size
      have bx4_w0_0 : w4.cell? ⟨w3.heap.size, 0, none⟩ = some (.string (findAttr vS vName).1.fName) := (hb4.cell (p := ⟨w3.heap.size, 0, none⟩) (by first | omega | (simp; done) | (simp; omega) | (simp [World.setCell]; omega))).trans (by go_simp)
      have bx4_w0_1 : w4.cell? ⟨w3.heap.size, 1, none⟩ = some (.int .i64 (findAttr vS vName).1.fType) := (hb4.cell (p := ⟨w3.heap.size, 1, none⟩) (by first | omega | (simp; done) | (simp; omega) | (simp [World.setCell]; omega))).trans (by go_simp)
      have bx4_w0_2 : w4.cell? ⟨w3.heap.size, 2, none⟩ = some (.int .i64 (findAttr vS vName).1.fMode) := (hb4.cell (p := ⟨w3.heap.size, 2, none⟩) (by first | omega | (simp; done) | (simp; omega) | (simp [World.setCell]; omega))).trans (by go_simp)
      have bx4_w0_3 : w4.cell? ⟨w3.heap.size, 3, none⟩ = some (.bool (findAttr vS vName).1.fCircular) := (hb4.cell (p := ⟨w3.heap.size, 3, none⟩) (by first | omega | (simp; done) | (simp; omega) | (simp [World.setCell]; omega))).trans (by go_simp)
      have HS4_1_vS := Lib.hid (HS3_1_vS.out.up hst4 (Nat.le_refl _))
      have HS4_1_vS_2 := Lib.hid (HS3_1_vS_2.out.up hst4 (Nat.le_refl _))
      have HS4_1_vS_4 := Lib.hid (show Sl 0 w4.heap.size w4 4 vS.fAttributes.length (fun k => DAttribute.ct (vS.fAttributes.getD k default)) a1_vS_4 from Sl.of (cap := c1_vS_4) (l := vS.fAttributes.length) (a := a1_vS_4) (ho4.lies (lo := 0) (hi := w4.heap.size) (fun y hy => ⟨Nat.zero_le _, hy.2⟩) 1 (by decide)))
      have HB4 := Lib.hid (HB3.out.trans (hst4.mono HB3.out.size))
      clear bx3_paS_0 bx3_paS_1 sz3_paS HS3_1_vS HS3_1_vS_2 ho4 hb4 hst4 HB3
      go_wp2_with fail
      refine (impl_FindAttribute (c0_0 := c1_vS_4) vS OK_vS.out hq_vS vName OK_vName.out hq_vName _ (Below.size (by repeat (first | (with_reducible exact Below.refl _ _) | (with_reducible apply Below.drew) | (with_reducible refine below_drewN ?_ _) | (refine Below.setCell ?_ (by simp <;> omega) _) | (refine Below.alloc ?_ (by simp <;> omega) _)) : Below w4.heap.size w4 _)) (HS4_1_vS_4.out.later (by repeat (first | (with_reducible exact Below.refl _ _) | (with_reducible apply Below.drew) | (with_reducible refine below_drewN ?_ _) | (refine Below.setCell ?_ (by simp <;> omega) _) | (refine Below.alloc ?_ (by simp <;> omega) _)) : Below w4.heap.size w4 _) (Nat.le_refl _))).mono ?_
      rintro e w5 ⟨rfl, hb5⟩
      have hst5 : Below w4.heap.size w4 w5 := Below.trans (by repeat (first | (with_reducible exact Below.refl _ _) | (with_reducible apply Below.drew) | (with_reducible refine below_drewN ?_ _) | (refine Below.setCell ?_ (by simp <;> omega) _) | (refine Below.alloc ?_ (by simp <;> omega) _)) : Below w4.heap.size w4 _) (hb5.mono (Below.size (by repeat (first | (with_reducible exact Below.refl _ _) | (with_reducible apply Below.drew) | (with_reducible refine below_drewN ?_ _) | (refine Below.setCell ?_ (by simp <;> omega) _) | (refine Below.alloc ?_ (by simp <;> omega) _)) : Below w4.heap.size w4 _)))
      have sz5_paS : w.heap.size < w5.heap.size := Nat.lt_of_lt_of_le sz4_paS hst5.size
      have bx5_paS_0 : w5.cell? ⟨w.heap.size, 0, none⟩ = some (.string vS.fName) := (hst5.cell (p := ⟨w.heap.size, 0, none⟩) sz4_paS).trans bx4_paS_0
      have bx5_paS_1 : w5.cell? ⟨w.heap.size, 1, none⟩ = some (.slice a1_vS vS.fAttributes.length c1_vS) := (hst5.cell (p := ⟨w.heap.size, 1, none⟩) sz4_paS).trans bx4_paS_1
      have sz5_w0 : w3.heap.size < w5.heap.size := Nat.lt_of_lt_of_le sz4_w0 hst5.size
      have bx5_w0_0 : w5.cell? ⟨w3.heap.size, 0, none⟩ = some (.string (findAttr vS vName).1.fName) := (hst5.cell (p := ⟨w3.heap.size, 0, none⟩) sz4_w0).trans bx4_w0_0
      have bx5_w0_1 : w5.cell? ⟨w3.heap.size, 1, none⟩ = some (.int .i64 (findAttr vS vName).1.fType) := (hst5.cell (p := ⟨w3.heap.size, 1, none⟩) sz4_w0).trans bx4_w0_1
      have bx5_w0_2 : w5.cell? ⟨w3.heap.size, 2, none⟩ = some (.int .i64 (findAttr vS vName).1.fMode) := (hst5.cell (p := ⟨w3.heap.size, 2, none⟩) sz4_w0).trans bx4_w0_2
      have bx5_w0_3 : w5.cell? ⟨w3.heap.size, 3, none⟩ = some (.bool (findAttr vS vName).1.fCircular) := (hst5.cell (p := ⟨w3.heap.size, 3, none⟩) sz4_w0).trans bx4_w0_3
      have sz5_x0 : w4.heap.size < w5.heap.size := Nat.lt_of_lt_of_le (by first | omega | (simp; done) | (simp; omega) | (simp [World.setCell]; omega)) hb5.size
      have bx5_x0_0 : w5.cell? ⟨w4.heap.size, 0, none⟩ = some (.string vS.fName) := (hb5.cell (p := ⟨w4.heap.size, 0, none⟩) (by first | omega | (simp; done) | (simp; omega) | (simp [World.setCell]; omega))).trans (by go_simp)
      have bx5_x0_1 : w5.cell? ⟨w4.heap.size, 1, none⟩ = some (.slice a1_vS_4 vS.fAttributes.length c1_vS_4) := (hb5.cell (p := ⟨w4.heap.size, 1, none⟩) (by first | omega | (simp; done) | (simp; omega) | (simp [World.setCell]; omega))).trans (by go_simp)
      have HS5_1_vS := Lib.hid (HS4_1_vS.out.up hst5 (Nat.le_refl _))
      have HS5_1_vS_2 := Lib.hid (HS4_1_vS_2.out.up hst5 (Nat.le_refl _))
      have HS5_1_vS_4 := Lib.hid (HS4_1_vS_4.out.up hst5 (Nat.le_refl _))
      have HB5 := Lib.hid (HB4.out.trans (hst5.mono HB4.out.size))
      clear bx4_paS_0 bx4_paS_1 sz4_paS bx4_w0_0 bx4_w0_1 bx4_w0_2 bx4_w0_3 sz4_w0 HS4_1_vS HS4_1_vS_2 HS4_1_vS_4 hb5 hst5 HB4
      go_wp2_with fail
      refine (laws_eqAttribute (findAttr vS vName).1 _).mono ?_
      rintro e w6 ⟨rfl, hb6⟩
      have hst6 : Below w5.heap.size w5 w6 := Below.trans (by repeat (first | (with_reducible exact Below.refl _ _) | (with_reducible apply Below.drew) | (with_reducible refine below_drewN ?_ _) | (refine Below.setCell ?_ (by simp <;> omega) _) | (refine Below.alloc ?_ (by simp <;> omega) _)) : Below w5.heap.size w5 _) (hb6.mono (Below.size (by repeat (first | (with_reducible exact Below.refl _ _) | (with_reducible apply Below.drew) | (with_reducible refine below_drewN ?_ _) | (refine Below.setCell ?_ (by simp <;> omega) _) | (refine Below.alloc ?_ (by simp <;> omega) _)) : Below w5.heap.size w5 _)))
      have sz6_paS : w.heap.size < w6.heap.size := Nat.lt_of_lt_of_le sz5_paS hst6.size
      have bx6_paS_0 : w6.cell? ⟨w.heap.size, 0, none⟩ = some (.string vS.fName) := (hst6.cell (p := ⟨w.heap.size, 0, none⟩) sz5_paS).trans bx5_paS_0
      have bx6_paS_1 : w6.cell? ⟨w.heap.size, 1, none⟩ = some (.slice a1_vS vS.fAttributes.length c1_vS) := (hst6.cell (p := ⟨w.heap.size, 1, none⟩) sz5_paS).trans bx5_paS_1
      have sz6_w0 : w3.heap.size < w6.heap.size := Nat.lt_of_lt_of_le sz5_w0 hst6.size
      have bx6_w0_0 : w6.cell? ⟨w3.heap.size, 0, none⟩ = some (.string (findAttr vS vName).1.fName) := (hst6.cell (p := ⟨w3.heap.size, 0, none⟩) sz5_w0).trans bx5_w0_0
      have bx6_w0_1 : w6.cell? ⟨w3.heap.size, 1, none⟩ = some (.int .i64 (findAttr vS vName).1.fType) := (hst6.cell (p := ⟨w3.heap.size, 1, none⟩) sz5_w0).trans bx5_w0_1
      have bx6_w0_2 : w6.cell? ⟨w3.heap.size, 2, none⟩ = some (.int .i64 (findAttr vS vName).1.fMode) := (hst6.cell (p := ⟨w3.heap.size, 2, none⟩) sz5_w0).trans bx5_w0_2
      have bx6_w0_3 : w6.cell? ⟨w3.heap.size, 3, none⟩ = some (.bool (findAttr vS vName).1.fCircular) := (hst6.cell (p := ⟨w3.heap.size, 3, none⟩) sz5_w0).trans bx5_w0_3
      have sz6_x0 : w4.heap.size < w6.heap.size := Nat.lt_of_lt_of_le sz5_x0 hst6.size
      have bx6_x0_0 : w6.cell? ⟨w4.heap.size, 0, none⟩ = some (.string vS.fName) := (hst6.cell (p := ⟨w4.heap.size, 0, none⟩) sz5_x0).trans bx5_x0_0
      have bx6_x0_1 : w6.cell? ⟨w4.heap.size, 1, none⟩ = some (.slice a1_vS_4 vS.fAttributes.length c1_vS_4) := (hst6.cell (p := ⟨w4.heap.size, 1, none⟩) sz5_x0).trans bx5_x0_1
      have sz6_g0 : w5.heap.size < w6.heap.size := Nat.lt_of_lt_of_le (by first | omega | (simp; done) | (simp; omega) | (simp [World.setCell]; omega)) hb6.size
      have bx6_g0_0 : w6.cell? ⟨w5.heap.size, 0, none⟩ = some (.string (findAttr vS vName).1.fName) := (hb6.cell (p := ⟨w5.heap.size, 0, none⟩) (by first | omega | (simp; done) | (simp; omega) | (simp [World.setCell]; omega))).trans (by go_simp)
      have bx6_g0_1 : w6.cell? ⟨w5.heap.size, 1, none⟩ = some (.int .i64 (findAttr vS vName).1.fType) := (hb6.cell (p := ⟨w5.heap.size, 1, none⟩) (by first | omega | (simp; done) | (simp; omega) | (simp [World.setCell]; omega))).trans (by go_simp)
      have bx6_g0_2 : w6.cell? ⟨w5.heap.size, 2, none⟩ = some (.int .i64 (findAttr vS vName).1.fMode) := (hb6.cell (p := ⟨w5.heap.size, 2, none⟩) (by first | omega | (simp; done) | (simp; omega) | (simp [World.setCell]; omega))).trans (by go_simp)
      have bx6_g0_3 : w6.cell? ⟨w5.heap.size, 3, none⟩ = some (.bool (findAttr vS vName).1.fCircular) := (hb6.cell (p := ⟨w5.heap.size, 3, none⟩) (by first | omega | (simp; done) | (simp; omega) | (simp [World.setCell]; omega))).trans (by go_simp)
      have HS6_1_vS := Lib.hid (HS5_1_vS.out.up hst6 (Nat.le_refl _))
      have HS6_1_vS_2 := Lib.hid (HS5_1_vS_2.out.up hst6 (Nat.le_refl _))
      have HS6_1_vS_4 := Lib.hid (HS5_1_vS_4.out.up hst6 (Nat.le_refl _))
      have HB6 := Lib.hid (HB5.out.trans (hst6.mono HB5.out.size))
      clear bx5_paS_0 bx5_paS_1 sz5_paS bx5_w0_0 bx5_w0_1 bx5_w0_2 bx5_w0_3 sz5_w0 bx5_x0_0 bx5_x0_1 sz5_x0 HS5_1_vS HS5_1_vS_2 HS5_1_vS_4 hb6 hst6 HB5
      go_wp2_with fail
      go_region_with ((first | (go_at_call 55; refine (laws_toSymbol (c1 := c1_vS) vS hq_vS _ (Below.size (by repeat (first | (with_reducible exact Below.refl _ _) | (with_reducible apply Below.drew) | (with_reducible refine below_drewN ?_ _) | (refine Below.setCell ?_ (by simp <;> omega) _) | (refine Below.alloc ?_ (by simp <;> omega) _)) : Below w6.heap.size w6 _)) (HS6_1_vS.out.later (by repeat (first | (with_reducible exact Below.refl _ _) | (with_reducible apply Below.drew) | (with_reducible refine below_drewN ?_ _) | (refine Below.setCell ?_ (by simp <;> omega) _) | (refine Below.alloc ?_ (by simp <;> omega) _)) : Below w6.heap.size w6 _) (Nat.le_refl _))).mono ?_; rintro e w7 ⟨a1_vS_7, c1_vS_7, rfl, ho7, hb7⟩; have hst7 : Below w6.heap.size w6 w7 := Below.trans (by repeat (first | (with_reducible exact Below.refl _ _) | (with_reducible apply Below.drew) | (with_reducible refine below_drewN ?_ _) | (refine Below.setCell ?_ (by simp <;> omega) _) | (refine Below.alloc ?_ (by simp <;> omega) _)) : Below w6.heap.size w6 _) (hb7.mono (Below.size (by repeat (first | (with_reducible exact Below.refl _ _) | (with_reducible apply Below.drew) | (with_reducible refine below_drewN ?_ _) | (refine Below.setCell ?_ (by simp <;> omega) _) | (refine Below.alloc ?_ (by simp <;> omega) _)) : Below w6.heap.size w6 _))); have sz7_paS : w.heap.size < w7.heap.size := Nat.lt_of_lt_of_le sz6_paS hst7.size; have bx7_paS_0 : w7.cell? ⟨w.heap.size, 0, none⟩ = some (.string vS.fName) := (hst7.cell (p := ⟨w.heap.size, 0, none⟩) sz6_paS).trans bx6_paS_0; have bx7_paS_1 : w7.cell? ⟨w.heap.size, 1, none⟩ = some (.slice a1_vS vS.fAttributes.length c1_vS) := (hst7.cell (p := ⟨w.heap.size, 1, none⟩) sz6_paS).trans bx6_paS_1; have sz7_w0 : w3.heap.size < w7.heap.size := Nat.lt_of_lt_of_le sz6_w0 hst7.size; have bx7_w0_0 : w7.cell? ⟨w3.heap.size, 0, none⟩ = some (.string (findAttr vS vName).1.fName) := (hst7.cell (p := ⟨w3.heap.size, 0, none⟩) sz6_w0).trans bx6_w0_0; have bx7_w0_1 : w7.cell? ⟨w3.heap.size, 1, none⟩ = some (.int .i64 (findAttr vS vName).1.fType) := (hst7.cell (p := ⟨w3.heap.size, 1, none⟩) sz6_w0).trans bx6_w0_1; have bx7_w0_2 : w7.cell? ⟨w3.heap.size, 2, none⟩ = some (.int .i64 (findAttr vS vName).1.fMode) := (hst7.cell (p := ⟨w3.heap.size, 2, none⟩) sz6_w0).trans bx6_w0_2; have bx7_w0_3 : w7.cell? ⟨w3.heap.size, 3, none⟩ = some (.bool (findAttr vS vName).1.fCircular) := (hst7.cell (p := ⟨w3.heap.size, 3, none⟩) sz6_w0).trans bx6_w0_3; have sz7_x0 : w4.heap.size < w7.heap.size := Nat.lt_of_lt_of_le sz6_x0 hst7.size; have bx7_x0_0 : w7.cell? ⟨w4.heap.size, 0, none⟩ = some (.string vS.fName) := (hst7.cell (p := ⟨w4.heap.size, 0, none⟩) sz6_x0).trans bx6_x0_0; have bx7_x0_1 : w7.cell? ⟨w4.heap.size, 1, none⟩ = some (.slice a1_vS_4 vS.fAttributes.length c1_vS_4) := (hst7.cell (p := ⟨w4.heap.size, 1, none⟩) sz6_x0).trans bx6_x0_1; have sz7_g0 : w5.heap.size < w7.heap.size := Nat.lt_of_lt_of_le sz6_g0 hst7.size; have bx7_g0_0 : w7.cell? ⟨w5.heap.size, 0, none⟩ = some (.string (findAttr vS vName).1.fName) := (hst7.cell (p := ⟨w5.heap.size, 0, none⟩) sz6_g0).trans bx6_g0_0; have bx7_g0_1 : w7.cell? ⟨w5.heap.size, 1, none⟩ = some (.int .i64 (findAttr vS vName).1.fType) := (hst7.cell (p := ⟨w5.heap.size, 1, none⟩) sz6_g0).trans bx6_g0_1; have bx7_g0_2 : w7.cell? ⟨w5.heap.size, 2, none⟩ = some (.int .i64 (findAttr vS vName).1.fMode) := (hst7.cell (p := ⟨w5.heap.size, 2, none⟩) sz6_g0).trans bx6_g0_2; have bx7_g0_3 : w7.cell? ⟨w5.heap.size, 3, none⟩ = some (.bool (findAttr vS vName).1.fCircular) := (hst7.cell (p := ⟨w5.heap.size, 3, none⟩) sz6_g0).trans bx6_g0_3; have HS7_1_vS := Lib.hid (HS6_1_vS.out.up hst7 (Nat.le_refl _)); have HS7_1_vS_2 := Lib.hid (HS6_1_vS_2.out.up hst7 (Nat.le_refl _)); have HS7_1_vS_4 := Lib.hid (HS6_1_vS_4.out.up hst7 (Nat.le_refl _)); have HS7_1_vS_7 := Lib.hid (show Sl 0 w7.heap.size w7 4 vS.fAttributes.length (fun k => DAttribute.ct (vS.fAttributes.getD k default)) a1_vS_7 from Sl.of (cap := c1_vS_7) (l := vS.fAttributes.length) (a := a1_vS_7) (ho7.lies (lo := 0) (hi := w7.heap.size) (fun y hy => ⟨Nat.zero_le _, hy.2⟩) 1 (by decide))); have HB7 := Lib.hid (HB6.out.trans (hst7.mono HB6.out.size)); clear bx6_paS_0 bx6_paS_1 sz6_paS bx6_w0_0 bx6_w0_1 bx6_w0_2 bx6_w0_3 sz6_w0 bx6_x0_0 bx6_x0_1 sz6_x0 bx6_g0_0 bx6_g0_1 bx6_g0_2 bx6_g0_3 sz6_g0 HS6_1_vS HS6_1_vS_2 HS6_1_vS_4 ho7 hb7 hst7 HB6) | (go_at_call 58; refine (laws_eqSymbol (c1 := c1_vS_4) (c1q := c1_vS_7) vS hq_vS _ (Below.size (by repeat (first | (with_reducible exact Below.refl _ _) | (with_reducible apply Below.drew) | (with_reducible refine below_drewN ?_ _) | (refine Below.setCell ?_ (by simp <;> omega) _) | (refine Below.alloc ?_ (by simp <;> omega) _)) : Below w7.heap.size w7 _)) (Below.size (by repeat (first | (with_reducible exact Below.refl _ _) | (with_reducible apply Below.drew) | (with_reducible refine below_drewN ?_ _) | (refine Below.setCell ?_ (by simp <;> omega) _) | (refine Below.alloc ?_ (by simp <;> omega) _)) : Below w7.heap.size w7 _)) (HS7_1_vS_4.out.later (by repeat (first | (with_reducible exact Below.refl _ _) | (with_reducible apply Below.drew) | (with_reducible refine below_drewN ?_ _) | (refine Below.setCell ?_ (by simp <;> omega) _) | (refine Below.alloc ?_ (by simp <;> omega) _)) : Below w7.heap.size w7 _) (Nat.le_refl _)) (HS7_1_vS_7.out.later (by repeat (first | (with_reducible exact Below.refl _ _) | (with_reducible apply Below.drew) | (with_reducible refine below_drewN ?_ _) | (refine Below.setCell ?_ (by simp <;> omega) _) | (refine Below.alloc ?_ (by simp <;> omega) _)) : Below w7.heap.size w7 _) (Nat.le_refl _))).mono ?_; rintro e w8 ⟨rfl, hb8⟩; have hst8 : Below w7.heap.size w7 w8 := Below.trans (by repeat (first | (with_reducible exact Below.refl _ _) | (with_reducible apply Below.drew) | (with_reducible refine below_drewN ?_ _) | (refine Below.setCell ?_ (by simp <;> omega) _) | (refine Below.alloc ?_ (by simp <;> omega) _)) : Below w7.heap.size w7 _) (hb8.mono (Below.size (by repeat (first | (with_reducible exact Below.refl _ _) | (with_reducible apply Below.drew) | (with_reducible refine below_drewN ?_ _) | (refine Below.setCell ?_ (by simp <;> omega) _) | (refine Below.alloc ?_ (by simp <;> omega) _)) : Below w7.heap.size w7 _))); have sz8_paS : w.heap.size < w8.heap.size := Nat.lt_of_lt_of_le sz7_paS hst8.size; have bx8_paS_0 : w8.cell? ⟨w.heap.size, 0, none⟩ = some (.string vS.fName) := (hst8.cell (p := ⟨w.heap.size, 0, none⟩) sz7_paS).trans bx7_paS_0; have bx8_paS_1 : w8.cell? ⟨w.heap.size, 1, none⟩ = some (.slice a1_vS vS.fAttributes.length c1_vS) := (hst8.cell (p := ⟨w.heap.size, 1, none⟩) sz7_paS).trans bx7_paS_1; have sz8_w0 : w3.heap.size < w8.heap.size := Nat.lt_of_lt_of_le sz7_w0 hst8.size; have bx8_w0_0 : w8.cell? ⟨w3.heap.size, 0, none⟩ = some (.string (findAttr vS vName).1.fName) := (hst8.cell (p := ⟨w3.heap.size, 0, none⟩) sz7_w0).trans bx7_w0_0; have bx8_w0_1 : w8.cell? ⟨w3.heap.size, 1, none⟩ = some (.int .i64 (findAttr vS vName).1.fType) := (hst8.cell (p := ⟨w3.heap.size, 1, none⟩) sz7_w0).trans bx7_w0_1; have bx8_w0_2 : w8.cell? ⟨w3.heap.size, 2, none⟩ = some (.int .i64 (findAttr vS vName).1.fMode) := (hst8.cell (p := ⟨w3.heap.size, 2, none⟩) sz7_w0).trans bx7_w0_2; have bx8_w0_3 : w8.cell? ⟨w3.heap.size, 3, none⟩ = some (.bool (findAttr vS vName).1.fCircular) := (hst8.cell (p := ⟨w3.heap.size, 3, none⟩) sz7_w0).trans bx7_w0_3; have sz8_x0 : w4.heap.size < w8.heap.size := Nat.lt_of_lt_of_le sz7_x0 hst8.size; have bx8_x0_0 : w8.cell? ⟨w4.heap.size, 0, none⟩ = some (.string vS.fName) := (hst8.cell (p := ⟨w4.heap.size, 0, none⟩) sz7_x0).trans bx7_x0_0; have bx8_x0_1 : w8.cell? ⟨w4.heap.size, 1, none⟩ = some (.slice a1_vS_4 vS.fAttributes.length c1_vS_4) := (hst8.cell (p := ⟨w4.heap.size, 1, none⟩) sz7_x0).trans bx7_x0_1; have sz8_g0 : w5.heap.size < w8.heap.size := Nat.lt_of_lt_of_le sz7_g0 hst8.size; have bx8_g0_0 : w8.cell? ⟨w5.heap.size, 0, none⟩ = some (.string (findAttr vS vName).1.fName) := (hst8.cell (p := ⟨w5.heap.size, 0, none⟩) sz7_g0).trans bx7_g0_0; have bx8_g0_1 : w8.cell? ⟨w5.heap.size, 1, none⟩ = some (.int .i64 (findAttr vS vName).1.fType) := (hst8.cell (p := ⟨w5.heap.size, 1, none⟩) sz7_g0).trans bx7_g0_1; have bx8_g0_2 : w8.cell? ⟨w5.heap.size, 2, none⟩ = some (.int .i64 (findAttr vS vName).1.fMode) := (hst8.cell (p := ⟨w5.heap.size, 2, none⟩) sz7_g0).trans bx7_g0_2; have bx8_g0_3 : w8.cell? ⟨w5.heap.size, 3, none⟩ = some (.bool (findAttr vS vName).1.fCircular) := (hst8.cell (p := ⟨w5.heap.size, 3, none⟩) sz7_g0).trans bx7_g0_3; have HS8_1_vS := Lib.hid (HS7_1_vS.out.up hst8 (Nat.le_refl _)); have HS8_1_vS_2 := Lib.hid (HS7_1_vS_2.out.up hst8 (Nat.le_refl _)); have HS8_1_vS_4 := Lib.hid (HS7_1_vS_4.out.up hst8 (Nat.le_refl _)); have HS8_1_vS_7 := Lib.hid (HS7_1_vS_7.out.up hst8 (Nat.le_refl _)); have HB8 := Lib.hid (HB7.out.trans (hst8.mono HB7.out.size)); clear bx7_paS_0 bx7_paS_1 sz7_paS bx7_w0_0 bx7_w0_1 bx7_w0_2 bx7_w0_3 sz7_w0 bx7_x0_0 bx7_x0_1 sz7_x0 bx7_g0_0 bx7_g0_1 bx7_g0_2 bx7_g0_3 sz7_g0 HS7_1_vS HS7_1_vS_2 HS7_1_vS_4 HS7_1_vS_7 hb8 hst8 HB7)))
      all_goals
        go_wp2
        go_ret
        exact ⟨rfl, HB8.out⟩

set_option maxRecDepth 100000 in
theorem lifted (os : Os) (started : os.Started) (H : Type) (enc : TypeId × Value → H) :
    ReturnsInHanded {} Try.checked os 13 .any (Rows.fnExactFindAttributeSpec.pre6 enc Try.prog Try.f13 Rows.fnExactFindAttributeRow.domain false) (Rows.fnExactFindAttributeSpec.post enc Try.prog Try.f13 false true false false) := by
  refine returnsInHanded_of_change_sized (C := Try.checked) own started (by kernel_rfl) Try.func13
    (ChangeSpec.witness6 (enc := enc) (C := Try.checked) false ⟨#[], #[.agg #[.string ⟨#[]⟩, .slice none 0 0], .string ⟨#[]⟩], []⟩ 8 (by kernel_rfl) (by kernel_rfl) (by kernel_rfl) (by kernel_rfl)) ?_
  intro W base args ds gs before hval0 hW _ hsz0 _
  have hval : ∀ (j : Nat) t v, Try.f13.params[j]? = some t → args[j]? = some v → Value.okWide Try.prog W .any base t v := hval0
  obtain ⟨p, q, hA0, hV, hps, hfz, hnd⟩ := id hW
  have hA : DataW.TrodAll enc Try.prog W 0 (fun _ => true) true Try.f13.params.toList args.toList ds p := hA0
  have hsz : (DataW.weightsEach Try.prog (Try.f13.params.toList ++ Rows.fnExactFindAttributeSpec.plain.varTypes Try.prog) (ds ++ gs)).all (· ≤ reachBytes) = true := hsz0
  rw [Try.params13] at hA hval hsz
  obtain ⟨v0, vs0, d0, ds0, p0, q0, hargs, rfl, rfl, h0, r0⟩ := trodAll_cons hA
  obtain ⟨v1, vs1, d1, ds1, p1, q1, rfl, rfl, rfl, h1, r1⟩ := trodAll_cons r0
  obtain ⟨rfl, rfl, rfl⟩ := trodAll_nil r1
  obtain rfl : args = #[v0, v1] := by cases args; simp_all
  obtain ⟨vS, a1_vS, c1_vS, rfl, ok_vS, hs_1_vS⟩ := arg_symbol (hval 0 75 v0 rfl rfl) h0
  obtain ⟨vName, rfl, rfl, rfl, b1⟩ := open_string Try.underlying9 (hval 1 9 v1 rfl rfl) h1
  have ok_vName : okS vName := by unfold maxLen at b1; exact b1
  refine (walk vS a1_vS c1_vS ok_vS vName ok_vName W hs_1_vS).mono fun e W' ⟨he, hg⟩ => ?_
  subst he
  exact ⟨_, rfl, law_post laidOut (by kernel_rfl) rfl Try.underlying4 rfl rfl hW hg⟩

theorem said : Rows.FnExactFindAttributeSaid :=
  OpenClaim.holds_of_wide 13 Try.f13 rfl rfl rfl rfl rfl rfl rfl ⟨rfl, rfl, rfl, rfl, rfl⟩ rfl rfl rfl rfl rfl (by kernel_rfl) Try.func13 (by kernel_rfl)
    (of_decide_eq_true (by kernel_rfl)) (by unfold Func.isWrapper; first | (rw [if_pos (by decide +kernel)]; kernel_rfl) | (rw [if_neg (by decide +kernel)]; exact ⟨rfl, rfl⟩))
    (fun os started H enc _ => lifted os started H enc)
#print axioms said
end Go.Proofs.Ytjjbnbhcfhbfdaa.fnExactFindAttribute
