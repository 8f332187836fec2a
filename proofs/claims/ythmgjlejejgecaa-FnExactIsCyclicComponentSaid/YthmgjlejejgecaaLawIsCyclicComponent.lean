/-
  The law FnExactIsCyclicComponent: for every table and list the program's IsCyclicComponent answers as the model's. No condition.
-/
import Derived.Test.YthmgjlejejgecaaCyc
import Derived.Test.YthmgjlejejgecaaTIntA
import Derived.SizedLaws
namespace Go.Proofs.Ythmgjlejejgecaa.fnExactIsCyclicComponent
open Go.ChangeShapes Go.WideShapes Go.ChangeAt Go.RowKit Go.WideMaps Go.WideElems
open Go.ChangeMaps (open_string)
open Go.Lib Go.Deep

set_option maxHeartbeats 1600000 in
set_option maxRecDepth 100000 in
theorem walk (vTable : List (List (Int))) (a_vTable : Option Addr) (c_vTable : Nat) (ok_vTable : (okL (okL okI)) vTable) (vList : List (Int)) (a_vList : Option Addr) (c_vList : Nat) (ok_vList : (okL okI) vList) (w : World) (hs_vTable : Sl 0 w.heap.size w 1 vTable.length (fun k => (lct 1 ictI) (vTable.getD k default)) a_vTable) (hs_vList : Sl 0 w.heap.size w 1 vList.length (fun k => ictI (vList.getD k default)) a_vList) :
    Calls Try.prog 5 #[.slice a_vTable vTable.length c_vTable, .slice a_vList vList.length c_vList] w fun e w' => e = .returned (.bool true) ∧ Below w.heap.size w w' := by
  have HS_vTable := Lib.hid hs_vTable
  clear hs_vTable
  have OK_vTable := Lib.hid ok_vTable
  clear ok_vTable
  have HS_vList := Lib.hid hs_vList
  clear hs_vList
  have OK_vList := Lib.hid ok_vList
  clear ok_vList
  by_cases hl0 : (1048576 : Int) < ((vList.length : Nat) : Int)
  · skip
    go_enter Try.func5, Try.ntmps5
    go_wp2
    go_ret
    exact ⟨rfl, (by repeat (first | (with_reducible exact Below.refl _ _) | (refine Below.alloc ?_ (by simp <;> omega) _)))⟩
  · have hq_vList : (lsz (fun _ => 0)) vList ≤ 1048576 := by have := lsz_zero vList; omega
    clear hl0
    have hqn_vList : vList.length ≤ 1048576 := by have := lsz_zero vList; omega
    by_cases h0 : 1048576 < (((lsz (lsz (fun _ => 0))) vTable : Nat) : Int)
    · skip
      have hz := fun (hi : Nat) (w' : World) (hhi : hi ≤ w'.heap.size) (hs_vTable : Sl 0 hi w' 1 vTable.length (fun k => (lct 1 ictI) (vTable.getD k default)) a_vTable) => laws_szIntSS (cap := c_vTable) vTable 1048576 (by omega) (by omega) OK_vTable.out w' hhi hs_vTable
      rw [szR_gt (by omega)] at hz
      have HZ_vTable := Lib.hid hz
      clear hz
      go_enter Try.func5, Try.ntmps5
      go_wp2_with fail
      refine (HZ_vTable.out w.heap.size _ (Below.size (by repeat (first | (with_reducible exact Below.refl _ _) | (with_reducible apply Below.drew) | (with_reducible refine below_drewN ?_ _) | (refine Below.setCell ?_ (by simp <;> omega) _) | (refine Below.alloc ?_ (by simp <;> omega) _)) : Below w.heap.size w _)) (HS_vTable.out.later (by repeat (first | (with_reducible exact Below.refl _ _) | (with_reducible apply Below.drew) | (with_reducible refine below_drewN ?_ _) | (refine Below.setCell ?_ (by simp <;> omega) _) | (refine Below.alloc ?_ (by simp <;> omega) _)) : Below w.heap.size w _) (Nat.le_refl _))).mono ?_
      rintro e w1 ⟨rfl, hb1⟩
      have hst1 : Below w.heap.size w w1 := Below.trans (by repeat (first | (with_reducible exact Below.refl _ _) | (with_reducible apply Below.drew) | (with_reducible refine below_drewN ?_ _) | (refine Below.setCell ?_ (by simp <;> omega) _) | (refine Below.alloc ?_ (by simp <;> omega) _)) : Below w.heap.size w _) (hb1.mono (Below.size (by repeat (first | (with_reducible exact Below.refl _ _) | (with_reducible apply Below.drew) | (with_reducible refine below_drewN ?_ _) | (refine Below.setCell ?_ (by simp <;> omega) _) | (refine Below.alloc ?_ (by simp <;> omega) _)) : Below w.heap.size w _)))
      have HS1_vTable := Lib.hid (HS_vTable.out.up hst1 (Nat.le_refl _))
      have HS1_vList := Lib.hid (HS_vList.out.up hst1 (Nat.le_refl _))
      have HB1 := Lib.hid ((Below.refl w.heap.size w).trans (hst1.mono (Below.refl w.heap.size w).size))
      clear hb1 hst1
      go_wp2
      go_ret
      exact ⟨rfl, HB1.out⟩
    · skip
      have hz := fun (hi : Nat) (w' : World) (hhi : hi ≤ w'.heap.size) (hs_vTable : Sl 0 hi w' 1 vTable.length (fun k => (lct 1 ictI) (vTable.getD k default)) a_vTable) => laws_szIntSS (cap := c_vTable) vTable 1048576 (by omega) (by omega) OK_vTable.out w' hhi hs_vTable
      rw [szR_le (by omega)] at hz
      have HZ_vTable := Lib.hid hz
      clear hz
      have hq_vTable : (lsz (lsz (fun _ => 0))) vTable ≤ 1048576 := by omega
      go_enter Try.func5, Try.ntmps5
      go_wp2_with fail
      refine (HZ_vTable.out w.heap.size _ (Below.size (by repeat (first | (with_reducible exact Below.refl _ _) | (with_reducible apply Below.drew) | (with_reducible refine below_drewN ?_ _) | (refine Below.setCell ?_ (by simp <;> omega) _) | (refine Below.alloc ?_ (by simp <;> omega) _)) : Below w.heap.size w _)) (HS_vTable.out.later (by repeat (first | (with_reducible exact Below.refl _ _) | (with_reducible apply Below.drew) | (with_reducible refine below_drewN ?_ _) | (refine Below.setCell ?_ (by simp <;> omega) _) | (refine Below.alloc ?_ (by simp <;> omega) _)) : Below w.heap.size w _) (Nat.le_refl _))).mono ?_
      rintro e w1 ⟨rfl, hb1⟩
      have hst1 : Below w.heap.size w w1 := Below.trans (by repeat (first | (with_reducible exact Below.refl _ _) | (with_reducible apply Below.drew) | (with_reducible refine below_drewN ?_ _) | (refine Below.setCell ?_ (by simp <;> omega) _) | (refine Below.alloc ?_ (by simp <;> omega) _)) : Below w.heap.size w _) (hb1.mono (Below.size (by repeat (first | (with_reducible exact Below.refl _ _) | (with_reducible apply Below.drew) | (with_reducible refine below_drewN ?_ _) | (refine Below.setCell ?_ (by simp <;> omega) _) | (refine Below.alloc ?_ (by simp <;> omega) _)) : Below w.heap.size w _)))
      have HS1_vTable := Lib.hid (HS_vTable.out.up hst1 (Nat.le_refl _))
      have HS1_vList := Lib.hid (HS_vList.out.up hst1 (Nat.le_refl _))
      have HB1 := Lib.hid ((Below.refl w.heap.size w).trans (hst1.mono (Below.refl w.heap.size w).size))
      clear hb1 hst1
      go_wp2_with fail
      refine (laws_toIntSS (cap := c_vTable) vTable hq_vTable _ (Below.size (by repeat (first | (with_reducible exact Below.refl _ _) | (with_reducible apply Below.drew) | (with_reducible refine below_drewN ?_ _) | (refine Below.setCell ?_ (by simp <;> omega) _) | (refine Below.alloc ?_ (by simp <;> omega) _)) : Below w1.heap.size w1 _)) (HS1_vTable.out.later (by repeat (first | (with_reducible exact Below.refl _ _) | (with_reducible apply Below.drew) | (with_reducible refine below_drewN ?_ _) | (refine Below.setCell ?_ (by simp <;> omega) _) | (refine Below.alloc ?_ (by simp <;> omega) _)) : Below w1.heap.size w1 _) (Nat.le_refl _))).mono ?_
      rintro e w2 ⟨a_vTable_2, c_vTable_2, rfl, ho2, hb2⟩
      have hst2 : Below w1.heap.size w1 w2 := Below.trans (by repeat (first | (with_reducible exact Below.refl _ _) | (with_reducible apply Below.drew) | (with_reducible refine below_drewN ?_ _) | (refine Below.setCell ?_ (by simp <;> omega) _) | (refine Below.alloc ?_ (by simp <;> omega) _)) : Below w1.heap.size w1 _) (hb2.mono (Below.size (by repeat (first | (with_reducible exact Below.refl _ _) | (with_reducible apply Below.drew) | (with_reducible refine below_drewN ?_ _) | (refine Below.setCell ?_ (by simp <;> omega) _) | (refine Below.alloc ?_ (by simp <;> omega) _)) : Below w1.heap.size w1 _)))
      have HS2_vTable := Lib.hid (HS1_vTable.out.up hst2 (Nat.le_refl _))
      have HS2_vList := Lib.hid (HS1_vList.out.up hst2 (Nat.le_refl _))
      have HS2_vTable_2 := Lib.hid (show Sl 0 w2.heap.size w2 1 vTable.length (fun k => (lct 1 ictI) (vTable.getD k default)) a_vTable_2 from Sl.of (ho2.lies (lo := 0) (hi := w2.heap.size) (fun y hy => ⟨Nat.zero_le _, hy.2⟩)))
      have HB2 := Lib.hid (HB1.out.trans (hst2.mono HB1.out.size))
      clear HS1_vTable HS1_vList ho2 hb2 hst2 HB1
      go_wp2_with fail
      refine (laws_toIntS (cap := c_vList) vList hq_vList _ (Below.size (by repeat (first | (with_reducible exact Below.refl _ _) | (with_reducible apply Below.drew) | (with_reducible refine below_drewN ?_ _) | (refine Below.setCell ?_ (by simp <;> omega) _) | (refine Below.alloc ?_ (by simp <;> omega) _)) : Below w2.heap.size w2 _)) (HS2_vList.out.later (by repeat (first | (with_reducible exact Below.refl _ _) | (with_reducible apply Below.drew) | (with_reducible refine below_drewN ?_ _) | (refine Below.setCell ?_ (by simp <;> omega) _) | (refine Below.alloc ?_ (by simp <;> omega) _)) : Below w2.heap.size w2 _) (Nat.le_refl _))).mono ?_
      rintro e w3 ⟨a_vList_3, c_vList_3, rfl, ho3, hb3⟩
      have hst3 : Below w2.heap.size w2 w3 := Below.trans (by repeat (first | (with_reducible exact Below.refl _ _) | (with_reducible apply Below.drew) | (with_reducible refine below_drewN ?_ _) | (refine Below.setCell ?_ (by simp <;> omega) _) | (refine Below.alloc ?_ (by simp <;> omega) _)) : Below w2.heap.size w2 _) (hb3.mono (Below.size (by repeat (first | (with_reducible exact Below.refl _ _) | (with_reducible apply Below.drew) | (with_reducible refine below_drewN ?_ _) | (refine Below.setCell ?_ (by simp <;> omega) _) | (refine Below.alloc ?_ (by simp <;> omega) _)) : Below w2.heap.size w2 _)))
      have HS3_vTable := Lib.hid (HS2_vTable.out.up hst3 (Nat.le_refl _))
      have HS3_vList := Lib.hid (HS2_vList.out.up hst3 (Nat.le_refl _))
      have HS3_vTable_2 := Lib.hid (HS2_vTable_2.out.up hst3 (Nat.le_refl _))
      have HS3_vList_3 := Lib.hid (show Sl 0 w3.heap.size w3 1 vList.length (fun k => ictI (vList.getD k default)) a_vList_3 from Sl.of (ho3.lies (lo := 0) (hi := w3.heap.size) (fun y hy => ⟨Nat.zero_le _, hy.2⟩)))
      have HB3 := Lib.hid (HB2.out.trans (hst3.mono HB2.out.size))
      clear HS2_vTable HS2_vList HS2_vTable_2 ho3 hb3 hst3 HB2
      go_wp2_with fail
      refine (spec_IsCyclicComponent (c0_0 := c_vTable_2) (c1_0 := c_vList_3) vTable OK_vTable.out hq_vTable vList OK_vList.out hq_vList _ (Below.size (by repeat (first | (with_reducible exact Below.refl _ _) | (with_reducible apply Below.drew) | (with_reducible refine below_drewN ?_ _) | (refine Below.setCell ?_ (by simp <;> omega) _) | (refine Below.alloc ?_ (by simp <;> omega) _)) : Below w3.heap.size w3 _)) (HS3_vTable_2.out.later (by repeat (first | (with_reducible exact Below.refl _ _) | (with_reducible apply Below.drew) | (with_reducible refine below_drewN ?_ _) | (refine Below.setCell ?_ (by simp <;> omega) _) | (refine Below.alloc ?_ (by simp <;> omega) _)) : Below w3.heap.size w3 _) (Nat.le_refl _)) (HS3_vList_3.out.later (by repeat (first | (with_reducible exact Below.refl _ _) | (with_reducible apply Below.drew) | (with_reducible refine below_drewN ?_ _) | (refine Below.setCell ?_ (by simp <;> omega) _) | (refine Below.alloc ?_ (by simp <;> omega) _)) : Below w3.heap.size w3 _) (Nat.le_refl _))).mono ?_
      rintro e w4 ⟨rfl, hb4⟩
      have hst4 : Below w3.heap.size w3 w4 := Below.trans (by repeat (first | (with_reducible exact Below.refl _ _) | (with_reducible apply Below.drew) | (with_reducible refine below_drewN ?_ _) | (refine Below.setCell ?_ (by simp <;> omega) _) | (refine Below.alloc ?_ (by simp <;> omega) _)) : Below w3.heap.size w3 _) (hb4.mono (Below.size (by repeat (first | (with_reducible exact Below.refl _ _) | (with_reducible apply Below.drew) | (with_reducible refine below_drewN ?_ _) | (refine Below.setCell ?_ (by simp <;> omega) _) | (refine Below.alloc ?_ (by simp <;> omega) _)) : Below w3.heap.size w3 _)))
      have HS4_vTable := Lib.hid (HS3_vTable.out.up hst4 (Nat.le_refl _))
      have HS4_vList := Lib.hid (HS3_vList.out.up hst4 (Nat.le_refl _))
      have HS4_vTable_2 := Lib.hid (HS3_vTable_2.out.up hst4 (Nat.le_refl _))
      have HS4_vList_3 := Lib.hid (HS3_vList_3.out.up hst4 (Nat.le_refl _))
      have HB4 := Lib.hid (HB3.out.trans (hst4.mono HB3.out.size))
      clear HS3_vTable HS3_vList HS3_vTable_2 HS3_vList_3 hb4 hst4 HB3
      go_wp2_with fail
      refine (laws_toIntSS (cap := c_vTable) vTable hq_vTable _ (Below.size (by repeat (first | (with_reducible exact Below.refl _ _) | (with_reducible apply Below.drew) | (with_reducible refine below_drewN ?_ _) | (refine Below.setCell ?_ (by simp <;> omega) _) | (refine Below.alloc ?_ (by simp <;> omega) _)) : Below w4.heap.size w4 _)) (HS4_vTable.out.later (by repeat (first | (with_reducible exact Below.refl _ _) | (with_reducible apply Below.drew) | (with_reducible refine below_drewN ?_ _) | (refine Below.setCell ?_ (by simp <;> omega) _) | (refine Below.alloc ?_ (by simp <;> omega) _)) : Below w4.heap.size w4 _) (Nat.le_refl _))).mono ?_
      rintro e w5 ⟨a_vTable_5, c_vTable_5, rfl, ho5, hb5⟩
      have hst5 : Below w4.heap.size w4 w5 := Below.trans (by repeat (first | (with_reducible exact Below.refl _ _) | (with_reducible apply Below.drew) | (with_reducible refine below_drewN ?_ _) | (refine Below.setCell ?_ (by simp <;> omega) _) | (refine Below.alloc ?_ (by simp <;> omega) _)) : Below w4.heap.size w4 _) (hb5.mono (Below.size (by repeat (first | (with_reducible exact Below.refl _ _) | (with_reducible apply Below.drew) | (with_reducible refine below_drewN ?_ _) | (refine Below.setCell ?_ (by simp <;> omega) _) | (refine Below.alloc ?_ (by simp <;> omega) _)) : Below w4.heap.size w4 _)))
      have HS5_vTable := Lib.hid (HS4_vTable.out.up hst5 (Nat.le_refl _))
      have HS5_vList := Lib.hid (HS4_vList.out.up hst5 (Nat.le_refl _))
      have HS5_vTable_2 := Lib.hid (HS4_vTable_2.out.up hst5 (Nat.le_refl _))
      have HS5_vList_3 := Lib.hid (HS4_vList_3.out.up hst5 (Nat.le_refl _))
      have HS5_vTable_5 := Lib.hid (show Sl 0 w5.heap.size w5 1 vTable.length (fun k => (lct 1 ictI) (vTable.getD k default)) a_vTable_5 from Sl.of (ho5.lies (lo := 0) (hi := w5.heap.size) (fun y hy => ⟨Nat.zero_le _, hy.2⟩)))
      have HB5 := Lib.hid (HB4.out.trans (hst5.mono HB4.out.size))
      clear HS4_vTable HS4_vList HS4_vTable_2 HS4_vList_3 ho5 hb5 hst5 HB4
      go_wp2_with fail
      refine (laws_toIntS (cap := c_vList) vList hq_vList _ (Below.size (by repeat (first | (with_reducible exact Below.refl _ _) | (with_reducible apply Below.drew) | (with_reducible refine below_drewN ?_ _) | (refine Below.setCell ?_ (by simp <;> omega) _) | (refine Below.alloc ?_ (by simp <;> omega) _)) : Below w5.heap.size w5 _)) (HS5_vList.out.later (by repeat (first | (with_reducible exact Below.refl _ _) | (with_reducible apply Below.drew) | (with_reducible refine below_drewN ?_ _) | (refine Below.setCell ?_ (by simp <;> omega) _) | (refine Below.alloc ?_ (by simp <;> omega) _)) : Below w5.heap.size w5 _) (Nat.le_refl _))).mono ?_
      rintro e w6 ⟨a_vList_6, c_vList_6, rfl, ho6, hb6⟩
      have hst6 : Below w5.heap.size w5 w6 := Below.trans (by repeat (first | (with_reducible exact Below.refl _ _) | (with_reducible apply Below.drew) | (with_reducible refine below_drewN ?_ _) | (refine Below.setCell ?_ (by simp <;> omega) _) | (refine Below.alloc ?_ (by simp <;> omega) _)) : Below w5.heap.size w5 _) (hb6.mono (Below.size (by repeat (first | (with_reducible exact Below.refl _ _) | (with_reducible apply Below.drew) | (with_reducible refine below_drewN ?_ _) | (refine Below.setCell ?_ (by simp <;> omega) _) | (refine Below.alloc ?_ (by simp <;> omega) _)) : Below w5.heap.size w5 _)))
      have HS6_vTable := Lib.hid (HS5_vTable.out.up hst6 (Nat.le_refl _))
      have HS6_vList := Lib.hid (HS5_vList.out.up hst6 (Nat.le_refl _))
      have HS6_vTable_2 := Lib.hid (HS5_vTable_2.out.up hst6 (Nat.le_refl _))
      have HS6_vList_3 := Lib.hid (HS5_vList_3.out.up hst6 (Nat.le_refl _))
      have HS6_vTable_5 := Lib.hid (HS5_vTable_5.out.up hst6 (Nat.le_refl _))
      have HS6_vList_6 := Lib.hid (show Sl 0 w6.heap.size w6 1 vList.length (fun k => ictI (vList.getD k default)) a_vList_6 from Sl.of (ho6.lies (lo := 0) (hi := w6.heap.size) (fun y hy => ⟨Nat.zero_le _, hy.2⟩)))
      have HB6 := Lib.hid (HB5.out.trans (hst6.mono HB5.out.size))
      clear HS5_vTable HS5_vList HS5_vTable_2 HS5_vList_3 HS5_vTable_5 ho6 hb6 hst6 HB5
      go_wp2_with fail
      refine (impl_IsCyclicComponent (c0_0 := c_vTable_5) (c1_0 := c_vList_6) vTable OK_vTable.out hq_vTable vList OK_vList.out hq_vList _ (Below.size (by repeat (first | (with_reducible exact Below.refl _ _) | (with_reducible apply Below.drew) | (with_reducible refine below_drewN ?_ _) | (refine Below.setCell ?_ (by simp <;> omega) _) | (refine Below.alloc ?_ (by simp <;> omega) _)) : Below w6.heap.size w6 _)) (HS6_vTable_5.out.later (by repeat (first | (with_reducible exact Below.refl _ _) | (with_reducible apply Below.drew) | (with_reducible refine below_drewN ?_ _) | (refine Below.setCell ?_ (by simp <;> omega) _) | (refine Below.alloc ?_ (by simp <;> omega) _)) : Below w6.heap.size w6 _) (Nat.le_refl _)) (HS6_vList_6.out.later (by repeat (first | (with_reducible exact Below.refl _ _) | (with_reducible apply Below.drew) | (with_reducible refine below_drewN ?_ _) | (refine Below.setCell ?_ (by simp <;> omega) _) | (refine Below.alloc ?_ (by simp <;> omega) _)) : Below w6.heap.size w6 _) (Nat.le_refl _))).mono ?_
      rintro e w7 ⟨rfl, hb7⟩
      have hst7 : Below w6.heap.size w6 w7 := Below.trans (by repeat (first | (with_reducible exact Below.refl _ _) | (with_reducible apply Below.drew) | (with_reducible refine below_drewN ?_ _) | (refine Below.setCell ?_ (by simp <;> omega) _) | (refine Below.alloc ?_ (by simp <;> omega) _)) : Below w6.heap.size w6 _) (hb7.mono (Below.size (by repeat (first | (with_reducible exact Below.refl _ _) | (with_reducible apply Below.drew) | (with_reducible refine below_drewN ?_ _) | (refine Below.setCell ?_ (by simp <;> omega) _) | (refine Below.alloc ?_ (by simp <;> omega) _)) : Below w6.heap.size w6 _)))
      have HS7_vTable := Lib.hid (HS6_vTable.out.up hst7 (Nat.le_refl _))
      have HS7_vList := Lib.hid (HS6_vList.out.up hst7 (Nat.le_refl _))
      have HS7_vTable_2 := Lib.hid (HS6_vTable_2.out.up hst7 (Nat.le_refl _))
      have HS7_vList_3 := Lib.hid (HS6_vList_3.out.up hst7 (Nat.le_refl _))
      have HS7_vTable_5 := Lib.hid (HS6_vTable_5.out.up hst7 (Nat.le_refl _))
      have HS7_vList_6 := Lib.hid (HS6_vList_6.out.up hst7 (Nat.le_refl _))
      have HB7 := Lib.hid (HB6.out.trans (hst7.mono HB6.out.size))
      clear HS6_vTable HS6_vList HS6_vTable_2 HS6_vList_3 HS6_vTable_5 HS6_vList_6 hb7 hst7 HB6
      go_wp2_with fail
      refine (laws_toIntSS (cap := c_vTable) vTable hq_vTable _ (Below.size (by repeat (first | (with_reducible exact Below.refl _ _) | (with_reducible apply Below.drew) | (with_reducible refine below_drewN ?_ _) | (refine Below.setCell ?_ (by simp <;> omega) _) | (refine Below.alloc ?_ (by simp <;> omega) _)) : Below w7.heap.size w7 _)) (HS7_vTable.out.later (by repeat (first | (with_reducible exact Below.refl _ _) | (with_reducible apply Below.drew) | (with_reducible refine below_drewN ?_ _) | (refine Below.setCell ?_ (by simp <;> omega) _) | (refine Below.alloc ?_ (by simp <;> omega) _)) : Below w7.heap.size w7 _) (Nat.le_refl _))).mono ?_
      rintro e w8 ⟨a_vTable_8, c_vTable_8, rfl, ho8, hb8⟩
      have hst8 : Below w7.heap.size w7 w8 := Below.trans (by repeat (first | (with_reducible exact Below.refl _ _) | (with_reducible apply Below.drew) | (with_reducible refine below_drewN ?_ _) | (refine Below.setCell ?_ (by simp <;> omega) _) | (refine Below.alloc ?_ (by simp <;> omega) _)) : Below w7.heap.size w7 _) (hb8.mono (Below.size (by repeat (first | (with_reducible exact Below.refl _ _) | (with_reducible apply Below.drew) | (with_reducible refine below_drewN ?_ _) | (refine Below.setCell ?_ (by simp <;> omega) _) | (refine Below.alloc ?_ (by simp <;> omega) _)) : Below w7.heap.size w7 _)))
      have HS8_vTable := Lib.hid (HS7_vTable.out.up hst8 (Nat.le_refl _))
      have HS8_vList := Lib.hid (HS7_vList.out.up hst8 (Nat.le_refl _))
      have HS8_vTable_2 := Lib.hid (HS7_vTable_2.out.up hst8 (Nat.le_refl _))
      have HS8_vList_3 := Lib.hid (HS7_vList_3.out.up hst8 (Nat.le_refl _))
      have HS8_vTable_5 := Lib.hid (HS7_vTable_5.out.up hst8 (Nat.le_refl _))
      have HS8_vList_6 := Lib.hid (HS7_vList_6.out.up hst8 (Nat.le_refl _))
      have HS8_vTable_8 := Lib.hid (show Sl 0 w8.heap.size w8 1 vTable.length (fun k => (lct 1 ictI) (vTable.getD k default)) a_vTable_8 from Sl.of (ho8.lies (lo := 0) (hi := w8.heap.size) (fun y hy => ⟨Nat.zero_le _, hy.2⟩)))
      have HB8 := Lib.hid (HB7.out.trans (hst8.mono HB7.out.size))
      clear HS7_vTable HS7_vList HS7_vTable_2 HS7_vList_3 HS7_vTable_5 HS7_vList_6 ho8 hb8 hst8 HB7
      go_wp2_with fail
      refine (laws_eqIntSS (cap := c_vTable_5) (cap2 := c_vTable_8) vTable hq_vTable _ (Below.size (by repeat (first | (with_reducible exact Below.refl _ _) | (with_reducible apply Below.drew) | (with_reducible refine below_drewN ?_ _) | (refine Below.setCell ?_ (by simp <;> omega) _) | (refine Below.alloc ?_ (by simp <;> omega) _)) : Below w8.heap.size w8 _)) (Below.size (by repeat (first | (with_reducible exact Below.refl _ _) | (with_reducible apply Below.drew) | (with_reducible refine below_drewN ?_ _) | (refine Below.setCell ?_ (by simp <;> omega) _) | (refine Below.alloc ?_ (by simp <;> omega) _)) : Below w8.heap.size w8 _)) (HS8_vTable_5.out.later (by repeat (first | (with_reducible exact Below.refl _ _) | (with_reducible apply Below.drew) | (with_reducible refine below_drewN ?_ _) | (refine Below.setCell ?_ (by simp <;> omega) _) | (refine Below.alloc ?_ (by simp <;> omega) _)) : Below w8.heap.size w8 _) (Nat.le_refl _)) (HS8_vTable_8.out.later (by repeat (first | (with_reducible exact Below.refl _ _) | (with_reducible apply Below.drew) | (with_reducible refine below_drewN ?_ _) | (refine Below.setCell ?_ (by simp <;> omega) _) | (refine Below.alloc ?_ (by simp <;> omega) _)) : Below w8.heap.size w8 _) (Nat.le_refl _))).mono ?_
      rintro e w9 ⟨rfl, hb9⟩
      have hst9 : Below w8.heap.size w8 w9 := Below.trans (by repeat (first | (with_reducible exact Below.refl _ _) | (with_reducible apply Below.drew) | (with_reducible refine below_drewN ?_ _) | (refine Below.setCell ?_ (by simp <;> omega) _) | (refine Below.alloc ?_ (by simp <;> omega) _)) : Below w8.heap.size w8 _) (hb9.mono (Below.size (by repeat (first | (with_reducible exact Below.refl _ _) | (with_reducible apply Below.drew) | (with_reducible refine below_drewN ?_ _) | (refine Below.setCell ?_ (by simp <;> omega) _) | (refine Below.alloc ?_ (by simp <;> omega) _)) : Below w8.heap.size w8 _)))
      have HS9_vTable := Lib.hid (HS8_vTable.out.up hst9 (Nat.le_refl _))
      have HS9_vList := Lib.hid (HS8_vList.out.up hst9 (Nat.le_refl _))
      have HS9_vTable_2 := Lib.hid (HS8_vTable_2.out.up hst9 (Nat.le_refl _))
      have HS9_vList_3 := Lib.hid (HS8_vList_3.out.up hst9 (Nat.le_refl _))
      have HS9_vTable_5 := Lib.hid (HS8_vTable_5.out.up hst9 (Nat.le_refl _))
      have HS9_vList_6 := Lib.hid (HS8_vList_6.out.up hst9 (Nat.le_refl _))
      have HS9_vTable_8 := Lib.hid (HS8_vTable_8.out.up hst9 (Nat.le_refl _))
      have HB9 := Lib.hid (HB8.out.trans (hst9.mono HB8.out.size))
      clear HS8_vTable HS8_vList HS8_vTable_2 HS8_vList_3 HS8_vTable_5 HS8_vList_6 HS8_vTable_8 hb9 hst9 HB8
      go_wp2_with fail
      refine (laws_toIntS (cap := c_vList) vList hq_vList _ (Below.size (by repeat (first | (with_reducible exact Below.refl _ _) | (with_reducible apply Below.drew) | (with_reducible refine below_drewN ?_ _) | (refine Below.setCell ?_ (by simp <;> omega) _) | (refine Below.alloc ?_ (by simp <;> omega) _)) : Below w9.heap.size w9 _)) (HS9_vList.out.later (by repeat (first | (with_reducible exact Below.refl _ _) | (with_reducible apply Below.drew) | (with_reducible refine below_drewN ?_ _) | (refine Below.setCell ?_ (by simp <;> omega) _) | (refine Below.alloc ?_ (by simp <;> omega) _)) : Below w9.heap.size w9 _) (Nat.le_refl _))).mono ?_
      rintro e w10 ⟨a_vList_10, c_vList_10, rfl, ho10, hb10⟩
      have hst10 : Below w9.heap.size w9 w10 := Below.trans (by repeat (first | (with_reducible exact Below.refl _ _) | (with_reducible apply Below.drew) | (with_reducible refine below_drewN ?_ _) | (refine Below.setCell ?_ (by simp <;> omega) _) | (refine Below.alloc ?_ (by simp <;> omega) _)) : Below w9.heap.size w9 _) (hb10.mono (Below.size (by repeat (first | (with_reducible exact Below.refl _ _) | (with_reducible apply Below.drew) | (with_reducible refine below_drewN ?_ _) | (refine Below.setCell ?_ (by simp <;> omega) _) | (refine Below.alloc ?_ (by simp <;> omega) _)) : Below w9.heap.size w9 _)))
      have HS10_vTable := Lib.hid (HS9_vTable.out.up hst10 (Nat.le_refl _))
      have HS10_vList := Lib.hid (HS9_vList.out.up hst10 (Nat.le_refl _))
      have HS10_vTable_2 := Lib.hid (HS9_vTable_2.out.up hst10 (Nat.le_refl _))
      have HS10_vList_3 := Lib.hid (HS9_vList_3.out.up hst10 (Nat.le_refl _))
      have HS10_vTable_5 := Lib.hid (HS9_vTable_5.out.up hst10 (Nat.le_refl _))
      have HS10_vList_6 := Lib.hid (HS9_vList_6.out.up hst10 (Nat.le_refl _))
      have HS10_vTable_8 := Lib.hid (HS9_vTable_8.out.up hst10 (Nat.le_refl _))
      have HS10_vList_10 := Lib.hid (show Sl 0 w10.heap.size w10 1 vList.length (fun k => ictI (vList.getD k default)) a_vList_10 from Sl.of (ho10.lies (lo := 0) (hi := w10.heap.size) (fun y hy => ⟨Nat.zero_le _, hy.2⟩)))
      have HB10 := Lib.hid (HB9.out.trans (hst10.mono HB9.out.size))
      clear HS9_vTable HS9_vList HS9_vTable_2 HS9_vList_3 HS9_vTable_5 HS9_vList_6 HS9_vTable_8 ho10 hb10 hst10 HB9
      go_wp2_with fail
      refine (laws_eqIntS (cap := c_vList_6) (cap2 := c_vList_10) vList hq_vList _ (Below.size (by repeat (first | (with_reducible exact Below.refl _ _) | (with_reducible apply Below.drew) | (with_reducible refine below_drewN ?_ _) | (refine Below.setCell ?_ (by simp <;> omega) _) | (refine Below.alloc ?_ (by simp <;> omega) _)) : Below w10.heap.size w10 _)) (Below.size (by repeat (first | (with_reducible exact Below.refl _ _) | (with_reducible apply Below.drew) | (with_reducible refine below_drewN ?_ _) | (refine Below.setCell ?_ (by simp <;> omega) _) | (refine Below.alloc ?_ (by simp <;> omega) _)) : Below w10.heap.size w10 _)) (HS10_vList_6.out.later (by repeat (first | (with_reducible exact Below.refl _ _) | (with_reducible apply Below.drew) | (with_reducible refine below_drewN ?_ _) | (refine Below.setCell ?_ (by simp <;> omega) _) | (refine Below.alloc ?_ (by simp <;> omega) _)) : Below w10.heap.size w10 _) (Nat.le_refl _)) (HS10_vList_10.out.later (by repeat (first | (with_reducible exact Below.refl _ _) | (with_reducible apply Below.drew) | (with_reducible refine below_drewN ?_ _) | (refine Below.setCell ?_ (by simp <;> omega) _) | (refine Below.alloc ?_ (by simp <;> omega) _)) : Below w10.heap.size w10 _) (Nat.le_refl _))).mono ?_
      rintro e w11 ⟨rfl, hb11⟩
      have hst11 : Below w10.heap.size w10 w11 := Below.trans (by repeat (first | (with_reducible exact Below.refl _ _) | (with_reducible apply Below.drew) | (with_reducible refine below_drewN ?_ _) | (refine Below.setCell ?_ (by simp <;> omega) _) | (refine Below.alloc ?_ (by simp <;> omega) _)) : Below w10.heap.size w10 _) (hb11.mono (Below.size (by repeat (first | (with_reducible exact Below.refl _ _) | (with_reducible apply Below.drew) | (with_reducible refine below_drewN ?_ _) | (refine Below.setCell ?_ (by simp <;> omega) _) | (refine Below.alloc ?_ (by simp <;> omega) _)) : Below w10.heap.size w10 _)))
      have HS11_vTable := Lib.hid (HS10_vTable.out.up hst11 (Nat.le_refl _))
      have HS11_vList := Lib.hid (HS10_vList.out.up hst11 (Nat.le_refl _))
      have HS11_vTable_2 := Lib.hid (HS10_vTable_2.out.up hst11 (Nat.le_refl _))
      have HS11_vList_3 := Lib.hid (HS10_vList_3.out.up hst11 (Nat.le_refl _))
      have HS11_vTable_5 := Lib.hid (HS10_vTable_5.out.up hst11 (Nat.le_refl _))
      have HS11_vList_6 := Lib.hid (HS10_vList_6.out.up hst11 (Nat.le_refl _))
      have HS11_vTable_8 := Lib.hid (HS10_vTable_8.out.up hst11 (Nat.le_refl _))
      have HS11_vList_10 := Lib.hid (HS10_vList_10.out.up hst11 (Nat.le_refl _))
      have HB11 := Lib.hid (HB10.out.trans (hst11.mono HB10.out.size))
      clear HS10_vTable HS10_vList HS10_vTable_2 HS10_vList_3 HS10_vTable_5 HS10_vList_6 HS10_vTable_8 HS10_vList_10 hb11 hst11 HB10
      go_wp2
      go_ret
      exact ⟨rfl, HB11.out⟩

set_option maxRecDepth 100000 in
theorem lifted (os : Os) (started : os.Started) (H : Type) (enc : TypeId × Value → H) :
    ReturnsInHanded {} Try.checked os 5 .any (Rows.fnExactIsCyclicComponentSpec.pre6 enc Try.prog Try.f5 Rows.fnExactIsCyclicComponentRow.domain false) (Rows.fnExactIsCyclicComponentSpec.post enc Try.prog Try.f5 false true false false) := by
  refine returnsInHanded_of_change_sized (C := Try.checked) own started (by kernel_rfl) Try.func5
    (ChangeSpec.witness6 (enc := enc) (C := Try.checked) false ⟨#[], #[.slice none 0 0, .slice none 0 0], []⟩ 8 (by kernel_rfl) (by kernel_rfl) (by kernel_rfl) (by kernel_rfl)) ?_
  intro W base args ds gs before hval0 hW _ hsz0 _
  have hval : ∀ (j : Nat) t v, Try.f5.params[j]? = some t → args[j]? = some v → Value.okWide Try.prog W .any base t v := hval0
  obtain ⟨p, q, hA0, hV, hps, hfz, hnd⟩ := id hW
  have hA : DataW.TrodAll enc Try.prog W 0 (fun _ => true) true Try.f5.params.toList args.toList ds p := hA0
  have hsz : (DataW.weightsEach Try.prog (Try.f5.params.toList ++ Rows.fnExactIsCyclicComponentSpec.plain.varTypes Try.prog) (ds ++ gs)).all (· ≤ reachBytes) = true := hsz0
  rw [Try.params5] at hA hval hsz
  obtain ⟨v0, vs0, d0, ds0, p0, q0, hargs, rfl, rfl, h0, r0⟩ := trodAll_cons hA
  obtain ⟨v1, vs1, d1, ds1, p1, q1, rfl, rfl, rfl, h1, r1⟩ := trodAll_cons r0
  obtain ⟨rfl, rfl, rfl⟩ := trodAll_nil r1
  obtain rfl : args = #[v0, v1] := by cases args; simp_all
  obtain ⟨ax0, lx0, cx0, hx0⟩ := okWide_slice Try.underlying24 (hval 0 24 v0 rfl rfl)
  obtain ⟨vTable, a_vTable, c_vTable, rfl, ok_vTable, hs_vTable⟩ := arg_intSS hx0 h0
  obtain ⟨ax1, lx1, cx1, hx1⟩ := okWide_slice Try.underlying25 (hval 1 25 v1 rfl rfl)
  obtain ⟨vList, a_vList, c_vList, rfl, ok_vList, hs_vList⟩ := arg_intS hx1 h1
  refine (walk vTable a_vTable c_vTable ok_vTable vList a_vList c_vList ok_vList W hs_vTable hs_vList).mono fun e W' ⟨he, hg⟩ => ?_
  subst he
  exact ⟨_, rfl, law_post laidOut (by kernel_rfl) rfl Try.underlying4 rfl rfl hW hg⟩

theorem said : Rows.FnExactIsCyclicComponentSaid :=
  OpenClaim.holds_of_wide 5 Try.f5 rfl rfl rfl rfl rfl rfl rfl ⟨rfl, rfl, rfl, rfl, rfl⟩ rfl rfl rfl rfl rfl (by kernel_rfl) Try.func5 (by kernel_rfl)
    (of_decide_eq_true (by kernel_rfl)) (by unfold Func.isWrapper; first | (rw [if_pos (by decide +kernel)]; kernel_rfl) | (rw [if_neg (by decide +kernel)]; exact ⟨rfl, rfl⟩))
    (fun os started H enc _ => lifted os started H enc)
#print axioms said
end Go.Proofs.Ythmgjlejejgecaa.fnExactIsCyclicComponent
