/-
  The law FnRelations: of every drawn relation the closure contains it, is closed and idempotent, and the program tells loops as the closure has them. No condition.
-/
import Derived.Test.YtkfonlejblcknaaDrawRel2
import Derived.Test.YtkfonlejblcknaaRelMath
import Derived.Test.YtkfonlejblcknaaBig
import Derived.SizedLaws
namespace Go.Proofs.Ytkfonlejblcknaa.fnRelations
open Go.ChangeShapes Go.WideShapes Go.ChangeAt Go.RowKit Go.WideMaps Go.WideElems
open Go.ChangeMaps (open_string)
open Go.Lib

set_option maxHeartbeats 3200000 in
set_option maxRecDepth 100000 in
theorem walk {a : Option Addr} {len cap : Nat} (w : World) (hc : Code w.heap.size w a len) :
    Calls Try.prog 4 #[.slice a len cap] w fun e w' => e = .returned (.bool true) ∧ Below w.heap.size w w' := by
  have HC := Lib.hid hc
  clear hc
  by_cases hbig : 1048576 < len
  · go_enter Try.func4, Try.ntmps4
    go_wp2_with fail
    refine (big_yes w hbig).mono ?_
    rintro e w' ⟨rfl, rfl⟩
    go_wp2
    go_ret
    exact ⟨rfl, Below.refl _ _⟩
  · have hsm : len ≤ 1048576 := by omega
    clear hbig
    go_enter Try.func4, Try.ntmps4
    go_wp2_with fail
    refine (big_no w hsm).mono ?_
    rintro e w' ⟨rfl, rfl⟩
    go_wp2_with fail
    refine (spec_DrawCloseRelation w (Nat.le_refl _) hsm HC.out).mono ?_
    rintro e w1 ⟨r, ra, rc, rfl, hsr, ho1, hb1⟩
    have HOK := Lib.hid hsr.ok
    have HSZ := Lib.hid hsr.sz
    have HSM := Lib.hid hsr
    have HB1 := Lib.hid hb1
    have HS1 := Lib.hid (Sl.of (ho1.lies (lo := 0) (hi := w1.heap.size) (fun y hy => ⟨Nat.zero_le _, hy.2⟩)))
    clear hsr ho1 hb1
    obtain ⟨vb, hvb⟩ : ∃ vb, relB r = vb := ⟨_, rfl⟩
    have HVB := Lib.hid hvb
    have HOKC := Lib.hid (show (closeRel r).ok by
      cases h : relB r with
      | false => rw [closeRel_no h]; exact HOK.out
      | true => exact closeRel_ok h)
    have HSZC := Lib.hid (closeRel_sz HSZ.out)
    clear hvb
    go_wp2_with fail
    refine (impl_CloseRelationC (lo := 0) (hi := w1.heap.size) (c0_0 := rc) r HOK.out HSZ.out (w1.alloc (.cells #[.int .i64 (DRelation.fN r), .slice ra (DRelation.fRows r).length rc] 27)) (by simp) (HS1.out.later ((Below.refl _ w1).alloc (Nat.le_refl _) _) (Nat.le_refl _))).mono ?_
    rintro e w2 ⟨a2, c2, rfl, ho2, hb2, hp2⟩
    have hz12 : w1.heap.size + 1 ≤ w2.heap.size := Nat.le_trans (by simp) hb2.size
    have HG3a := Lib.hid ((hb2.block w1.heap.size (by simp)).trans (blk_new rfl))
    have HB2 := Lib.hid ((HB1.out.alloc HB1.out.size (.cells #[.int .i64 (DRelation.fN r), .slice ra (DRelation.fRows r).length rc] 27)).trans (hb2.mono (Nat.le_trans HB1.out.size (by simp))))
    have HR2 := Lib.hid ((HS1.out.later ((Below.refl _ w1).alloc (Nat.le_refl _) (.cells #[.int .i64 (DRelation.fN r), .slice ra (DRelation.fRows r).length rc] 27)) (Nat.le_refl _)).later hb2 (by simp))
    have HK2 := Lib.hid (Sl.of (ho2.lies (lo := 0) (hi := w2.heap.size) (fun y hy => ⟨Nat.zero_le _, hy.2⟩)))
    have HP2 := Lib.hid hp2.le
    have hw1 : w.heap.size ≤ w1.heap.size := HB1.out.size
    clear ho2 hb2 hp2 HS1 HB1
    go_wp2_with fail
    generalize hw3 : World.alloc w2 (.cells #[.int .i64 (DRelation.fN (closeRel r)), .slice a2 (DRelation.fRows (closeRel r)).length c2] 27) = w3
    have hs3 : w3.heap.size = w2.heap.size + 1 := by rw [← hw3]; simp
    have HG3 := Lib.hid (show w3.heap[w1.heap.size]? = some (.cells #[.int .i64 (DRelation.fN r), .slice ra (DRelation.fRows r).length rc] 27) by rw [← hw3]; exact blk_alloc (by omega) HG3a.out)
    have HG4 := Lib.hid (show w3.heap[w2.heap.size]? = some (.cells #[.int .i64 (DRelation.fN (closeRel r)), .slice a2 (DRelation.fRows (closeRel r)).length c2] 27) by rw [← hw3]; exact blk_new rfl)
    have HB3 := Lib.hid (show Below w.heap.size w w3 by rw [← hw3]; exact HB2.out.alloc HB2.out.size _)
    have HR3 := Lib.hid (show Sl 0 w3.heap.size w3 1 r.fRows.length (rowsI r.fRows) ra by rw [hs3, ← hw3]; exact (HR2.out.later ((Below.refl _ w2).alloc (Nat.le_refl _) _) (by omega)).mono (Nat.le_refl _) (by omega))
    have HK3 := Lib.hid (show Sl 0 w3.heap.size w3 1 (closeRel r).fRows.length (rowsI (closeRel r).fRows) a2 by rw [hs3, ← hw3]; exact (HK2.out.later ((Below.refl _ w2).alloc (Nat.le_refl _) _) (Nat.le_refl _)).mono (Nat.le_refl _) (by omega))
    clear HG3a HB2 HR2 HK2 hw3
    refine wp_region_freeJ [([], .none, []), ([], .none, []), ([1], .none, []), ([0, 2], .none, []), ([3], .none, []), ([4], .none, []), ([5], .none, []), ([5, 6], .none, []), ([5], .none, []), ([5, 8], .none, []), ([5, 7, 9], .none, []), ([5, 10], .none, []), ([11], .none, []), ([12], .none, []), ([12, 13], .none, []), ([12], .none, []), ([12, 14, 15], .none, []), ([12, 16], .none, []), ([12, 17], .none, [])] [18] [] (fun _ => False) (fun _ => True) (fun _ => 0) (fun jq9 V L H wx => match jq9 with | 0 => V 0 = .agg #[.int .i64 (DRelation.fN (closeRel r)), .slice a2 (DRelation.fRows (closeRel r)).length c2] | 1 => V 1 = .agg #[.int .i64 (DRelation.fN r), .slice ra (DRelation.fRows r).length rc] | 2 => ∃ a9 c9, V 2 = .agg #[.int .i64 (DRelation.fN (closeRel r)), .slice a9 (DRelation.fRows (closeRel r)).length c9] ∧ Own wx (fun y => L ≤ y ∧ y < H) (.sl 1 (closeRel r).fRows.length (rowsI (closeRel r).fRows)) (.slice a9 (closeRel r).fRows.length c9) | 3 => V 3 = .bool true | 4 => V 4 = .bool false | 5 => V 5 = .bool false | 6 => V 6 = .agg #[.int .i64 (DRelation.fN r), .slice ra (DRelation.fRows r).length rc] | 7 => V 7 = .bool vb | 8 => V 8 = .agg #[.int .i64 (DRelation.fN r), .slice ra (DRelation.fRows r).length rc] | 9 => V 9 = .bool vb | 10 => V 10 = .bool false | 11 => V 11 = .bool false | 12 => V 12 = .bool false | 13 => V 13 = .agg #[.int .i64 (DRelation.fN (closeRel r)), .slice a2 (DRelation.fRows (closeRel r)).length c2] | 14 => ∃ a9 c9, V 14 = .agg #[.int .i64 (DRelation.fN (closeRel r)), .slice a9 (DRelation.fRows (closeRel r)).length c9] ∧ Own wx (fun y => L ≤ y ∧ y < H) (.sl 1 (closeRel r).fRows.length (rowsI (closeRel r).fRows)) (.slice a9 (closeRel r).fRows.length c9) ∧ (closeRel r).fRows.length ≤ c9 | 15 => V 15 = .agg #[.int .i64 (DRelation.fN (closeRel r)), .slice a2 (DRelation.fRows (closeRel r)).length c2] | 16 => V 16 = .bool true | 17 => V 17 = .bool false | 18 => V 18 = .bool false | _ => True) (by kernel_rfl) (by kernel_rfl) ?obs (fun _ h => h.elim) trivial (fun _ _ _ _ _ => trivial) ?loc ?lasts ?walk
    case obs =>
      trivial
    case loc =>
      intro k V V' L H wx h0 h1 hG
      match k with
      | 0 =>
        try dsimp only at hG ⊢
        rw [← h0]
        exact hG
      | 1 =>
        try dsimp only at hG ⊢
        rw [← h0]
        exact hG
      | 2 =>
        try dsimp only at hG ⊢
        rw [← h0]
        exact hG
      | 3 =>
        try dsimp only at hG ⊢
        rw [← h0]
        exact hG
      | 4 =>
        try dsimp only at hG ⊢
        rw [← h0]
        exact hG
      | 5 =>
        try dsimp only at hG ⊢
        rw [← h0]
        exact hG
      | 6 =>
        try dsimp only at hG ⊢
        rw [← h0]
        exact hG
      | 7 =>
        try dsimp only at hG ⊢
        rw [← h0]
        exact hG
      | 8 =>
        try dsimp only at hG ⊢
        rw [← h0]
        exact hG
      | 9 =>
        try dsimp only at hG ⊢
        rw [← h0]
        exact hG
      | 10 =>
        try dsimp only at hG ⊢
        rw [← h0]
        exact hG
      | 11 =>
        try dsimp only at hG ⊢
        rw [← h0]
        exact hG
      | 12 =>
        try dsimp only at hG ⊢
        rw [← h0]
        exact hG
      | 13 =>
        try dsimp only at hG ⊢
        rw [← h0]
        exact hG
      | 14 =>
        try dsimp only at hG ⊢
        rw [← h0]
        exact hG
      | 15 =>
        try dsimp only at hG ⊢
        rw [← h0]
        exact hG
      | 16 =>
        try dsimp only at hG ⊢
        rw [← h0]
        exact hG
      | 17 =>
        try dsimp only at hG ⊢
        rw [← h0]
        exact hG
      | 18 =>
        try dsimp only at hG ⊢
        rw [← h0]
        exact hG
      | n + 19 => trivial
    case lasts =>
      intro i hi V L H wx wy hB hH hk
      match i, hi with
      | 0, _ => exact fun h => h
      | 1, _ => exact fun h => h
      | 2, _ => exact fun ⟨a9, c9, hv, ho0⟩ => ⟨a9, c9, hv, ho0.kept (hk.sub (fun y hy => .inr hy))⟩
      | 3, _ => exact fun h => h
      | 4, _ => exact fun h => h
      | 5, _ => exact fun h => h
      | 6, _ => exact fun h => h
      | 7, _ => exact fun h => h
      | 8, _ => exact fun h => h
      | 9, _ => exact fun h => h
      | 10, _ => exact fun h => h
      | 11, _ => exact fun h => h
      | 12, _ => exact fun h => h
      | 13, _ => exact fun h => h
      | 14, _ => exact fun ⟨a9, c9, hv, ho0, ho1⟩ => ⟨a9, c9, hv, ho0.kept (hk.sub (fun y hy => .inr hy)), ho1⟩
      | 15, _ => exact fun h => h
      | 16, _ => exact fun h => h
      | 17, _ => exact fun h => h
      | 18, _ => exact fun h => h
      | n + 19, hn => exact absurd hn (by simp)
    case walk =>
      simp only [freeJ, effJ, Nat.reduceAdd, Act.put, List.setIfInBounds_toArray, List.set_cons_succ, List.set_cons_zero]
      refine ⟨?_, ?_, ?_, ?_, ?_, ?_, ?_, ?_, ?_, ?_, ?_, ?_, ?_, ?_, ?_, ?_, ?_, ?_, ?_, ?_⟩
      · intro V L H w5 hw hk hj hd
        clear hd
        have hblk0 := (hk.2 w2.heap.size ⟨by omega, fun h => h, trivial⟩ (by omega)).trans HG4.out
        have hc0 := blk_cell (j := 0) (v := .int .i64 (DRelation.fN (closeRel r))) hblk0 rfl
        have hc1 := blk_cell (j := 1) (v := .slice a2 (DRelation.fRows (closeRel r)).length c2) hblk0 rfl
        clear hblk0
        go_wp2_with fail
        exact freePost _ rfl ⟨⟨WritesF.refl _ _, hj⟩, upd_self⟩
      · intro V L H w5 hw hk hj hd
        clear hd
        have hblk0 := (hk.2 w1.heap.size ⟨by omega, fun h => h, trivial⟩ (by omega)).trans HG3.out
        have hc0 := blk_cell (j := 0) (v := .int .i64 (DRelation.fN r)) hblk0 rfl
        have hc1 := blk_cell (j := 1) (v := .slice ra (DRelation.fRows r).length rc) hblk0 rfl
        clear hblk0
        go_wp2_with fail
        exact freePost _ rfl ⟨⟨WritesF.refl _ _, hj⟩, upd_self⟩
      · intro V L H w5 hw hk hj hd
        obtain ⟨⟨hL1, hM1, hH1, hv1⟩, -⟩ := hd
        rw [hv1]
        have HV1 := Lib.hid hv1
        clear hv1
        go_wp2_with fail
        refine (spec_CloseRelation (lo := 0) (hi := w3.heap.size) (c0_0 := rc) r HOK.out HSZ.out _ hw.size (HR3.out.frame (fun b o h1 h2 => hk.cell (p := ⟨b, o, none⟩) ⟨(by show b < _; omega), fun h => h, trivial⟩ (by show b < _; omega)))).mono ?_
        rintro e w6 ⟨a9, c9, rfl, ho9, hb2⟩
        go_wp2_with fail
        exact freePost _ rfl ⟨⟨(WritesF.refl _ _).later hb2, trivial⟩, Exists.intro a9 (Exists.intro c9 (And.intro (upd_self) (ho9)))⟩
      · intro V L H w5 hw hk hj hd
        obtain ⟨⟨hL0, hM0, hH0, hv0⟩, ⟨hL2, hM2, hH2, a9, c9, hv2, ho2_0⟩, -⟩ := hd
        rw [hv0, hv2]
        have HV0 := Lib.hid hv0
        have HV2 := Lib.hid hv2
        clear hv0 hv2
        go_wp2_with fail
        refine (spec_EqualRelation (lo := 0) (hi := w5.heap.size) (c0_0 := c2) (c1_0 := c9) (closeRel r) HOKC.out HSZC.out (closeRel r) HOKC.out HSZC.out _ (Nat.le_refl _) ((HK3.out.frame (fun b o h1 h2 => hk.cell (p := ⟨b, o, none⟩) ⟨(by show b < _; omega), fun h => h, trivial⟩ (by show b < _; omega))).mono (Nat.le_refl _) hw.size) (Sl.of (ho2_0.lies (lo := 0) (hi := w5.heap.size) (fun y hy => ⟨Nat.zero_le _, by omega⟩)))).mono ?_
        rintro e w6 ⟨rfl, hb2⟩
        rw [relEq_refl]
        go_wp2_with fail
        exact freePost _ rfl ⟨⟨(WritesF.refl _ _).later hb2, trivial⟩, upd_self⟩
      · intro V L H w5 hw hk hj hd
        obtain ⟨⟨hL3, hM3, hH3, hv3⟩, -⟩ := hd
        rw [hv3]
        have HV3 := Lib.hid hv3
        clear hv3
        go_wp2_with fail
        exact freePost _ rfl ⟨⟨WritesF.refl _ _, hj⟩, upd_self⟩
      · intro V L H w5 hw hk hj hd
        obtain ⟨⟨hL4, hM4, hH4, hv4⟩, -⟩ := hd
        rw [hv4]
        have HV4 := Lib.hid hv4
        clear hv4
        go_wp2_with fail
        exact freePost _ rfl ⟨⟨WritesF.refl _ _, hj⟩, upd_self⟩
      · intro V L H w5 hw hk hj hd
        obtain ⟨⟨hL5, hM5, hH5, hv5⟩, -⟩ := hd
        rw [hv5]
        have HV5 := Lib.hid hv5
        clear hv5
        have hblk0 := (hk.2 w1.heap.size ⟨by omega, fun h => h, trivial⟩ (by omega)).trans HG3.out
        have hc0 := blk_cell (j := 0) (v := .int .i64 (DRelation.fN r)) hblk0 rfl
        have hc1 := blk_cell (j := 1) (v := .slice ra (DRelation.fRows r).length rc) hblk0 rfl
        clear hblk0
        go_wp2_with fail
        exact freePost _ rfl ⟨⟨WritesF.refl _ _, hj⟩, upd_self⟩
      · intro V L H w5 hw hk hj hd
        obtain ⟨⟨hL5, hM5, hH5, hv5⟩, ⟨hL6, hM6, hH6, hv6⟩, -⟩ := hd
        rw [hv5, hv6]
        have HV5 := Lib.hid hv5
        have HV6 := Lib.hid hv6
        clear hv5 hv6
        go_wp2_with fail
        refine (impl_relValid (lo := 0) (hi := w3.heap.size) (c0 := rc) r (rel_len HSZ.out) vb HVB.out _ hw.size (HR3.out.frame (fun b o h1 h2 => hk.cell (p := ⟨b, o, none⟩) ⟨(by show b < _; omega), fun h => h, trivial⟩ (by show b < _; omega)))).mono ?_
        rintro e w6 ⟨rfl, hb2⟩
        go_wp2_with fail
        exact freePost _ rfl ⟨⟨(WritesF.refl _ _).later hb2, trivial⟩, upd_self⟩
      · intro V L H w5 hw hk hj hd
        obtain ⟨⟨hL5, hM5, hH5, hv5⟩, -⟩ := hd
        rw [hv5]
        have HV5 := Lib.hid hv5
        clear hv5
        have hblk0 := (hk.2 w1.heap.size ⟨by omega, fun h => h, trivial⟩ (by omega)).trans HG3.out
        have hc0 := blk_cell (j := 0) (v := .int .i64 (DRelation.fN r)) hblk0 rfl
        have hc1 := blk_cell (j := 1) (v := .slice ra (DRelation.fRows r).length rc) hblk0 rfl
        clear hblk0
        go_wp2_with fail
        exact freePost _ rfl ⟨⟨WritesF.refl _ _, hj⟩, upd_self⟩
      · intro V L H w5 hw hk hj hd
        obtain ⟨⟨hL5, hM5, hH5, hv5⟩, ⟨hL8, hM8, hH8, hv8⟩, -⟩ := hd
        rw [hv5, hv8]
        have HV5 := Lib.hid hv5
        have HV8 := Lib.hid hv8
        clear hv5 hv8
        go_wp2_with fail
        refine (spec_relValid (lo := 0) (hi := w3.heap.size) (c0 := rc) r (rel_len HSZ.out) vb HVB.out _ hw.size (HR3.out.frame (fun b o h1 h2 => hk.cell (p := ⟨b, o, none⟩) ⟨(by show b < _; omega), fun h => h, trivial⟩ (by show b < _; omega)))).mono ?_
        rintro e w6 ⟨rfl, hb2⟩
        go_wp2_with fail
        exact freePost _ rfl ⟨⟨(WritesF.refl _ _).later hb2, trivial⟩, upd_self⟩
      · intro V L H w5 hw hk hj hd
        obtain ⟨⟨hL5, hM5, hH5, hv5⟩, ⟨hL7, hM7, hH7, hv7⟩, ⟨hL9, hM9, hH9, hv9⟩, -⟩ := hd
        rw [hv5, hv7, hv9]
        have HV5 := Lib.hid hv5
        have HV7 := Lib.hid hv7
        have HV9 := Lib.hid hv9
        clear hv5 hv7 hv9
        go_wp2_with fail
        cases vb <;> exact freePost _ rfl ⟨⟨WritesF.refl _ _, hj⟩, upd_self⟩
      · intro V L H w5 hw hk hj hd
        obtain ⟨⟨hL5, hM5, hH5, hv5⟩, ⟨hL10, hM10, hH10, hv10⟩, -⟩ := hd
        rw [hv5, hv10]
        have HV5 := Lib.hid hv5
        have HV10 := Lib.hid hv10
        clear hv5 hv10
        go_wp2_with fail
        exact freePost _ rfl ⟨⟨WritesF.refl _ _, hj⟩, upd_self⟩
      · intro V L H w5 hw hk hj hd
        obtain ⟨⟨hL11, hM11, hH11, hv11⟩, -⟩ := hd
        rw [hv11]
        have HV11 := Lib.hid hv11
        clear hv11
        go_wp2_with fail
        exact freePost _ rfl ⟨⟨WritesF.refl _ _, hj⟩, upd_self⟩
      · intro V L H w5 hw hk hj hd
        obtain ⟨⟨hL12, hM12, hH12, hv12⟩, -⟩ := hd
        rw [hv12]
        have HV12 := Lib.hid hv12
        clear hv12
        have hblk0 := (hk.2 w2.heap.size ⟨by omega, fun h => h, trivial⟩ (by omega)).trans HG4.out
        have hc0 := blk_cell (j := 0) (v := .int .i64 (DRelation.fN (closeRel r))) hblk0 rfl
        have hc1 := blk_cell (j := 1) (v := .slice a2 (DRelation.fRows (closeRel r)).length c2) hblk0 rfl
        clear hblk0
        go_wp2_with fail
        exact freePost _ rfl ⟨⟨WritesF.refl _ _, hj⟩, upd_self⟩
      · intro V L H w5 hw hk hj hd
        obtain ⟨⟨hL12, hM12, hH12, hv12⟩, ⟨hL13, hM13, hH13, hv13⟩, -⟩ := hd
        rw [hv12, hv13]
        have HV12 := Lib.hid hv12
        have HV13 := Lib.hid hv13
        clear hv12 hv13
        go_wp2_with fail
        refine (impl_CloseRelationC (lo := 0) (hi := w3.heap.size) (c0_0 := c2) (closeRel r) HOKC.out HSZC.out _ hw.size (HK3.out.frame (fun b o h1 h2 => hk.cell (p := ⟨b, o, none⟩) ⟨(by show b < _; omega), fun h => h, trivial⟩ (by show b < _; omega)))).mono ?_
        rintro e w6 ⟨a9, c9, rfl, ho9, hb2, hp9⟩
        rw [close_close] at ho9 hp9 ⊢
        go_wp2_with fail
        exact freePost _ rfl ⟨⟨(WritesF.refl _ _).later hb2, trivial⟩, Exists.intro a9 (Exists.intro c9 (And.intro (upd_self) (And.intro (ho9) (hp9.le))))⟩
      · intro V L H w5 hw hk hj hd
        obtain ⟨⟨hL12, hM12, hH12, hv12⟩, -⟩ := hd
        rw [hv12]
        have HV12 := Lib.hid hv12
        clear hv12
        have hblk0 := (hk.2 w2.heap.size ⟨by omega, fun h => h, trivial⟩ (by omega)).trans HG4.out
        have hc0 := blk_cell (j := 0) (v := .int .i64 (DRelation.fN (closeRel r))) hblk0 rfl
        have hc1 := blk_cell (j := 1) (v := .slice a2 (DRelation.fRows (closeRel r)).length c2) hblk0 rfl
        clear hblk0
        go_wp2_with fail
        exact freePost _ rfl ⟨⟨WritesF.refl _ _, hj⟩, upd_self⟩
      · intro V L H w5 hw hk hj hd
        obtain ⟨⟨hL12, hM12, hH12, hv12⟩, ⟨hL14, hM14, hH14, a9, c9, hv14, ho14_0, ho14_1⟩, ⟨hL15, hM15, hH15, hv15⟩, -⟩ := hd
        rw [hv12, hv14, hv15]
        have HV12 := Lib.hid hv12
        have HV14 := Lib.hid hv14
        have HV15 := Lib.hid hv15
        clear hv12 hv14 hv15
        go_wp2_with fail
        refine (impl_EqualRelation (lo := 0) (hi := w5.heap.size) (c0_0 := c9) (c1_0 := c2) (closeRel r) HOKC.out HSZC.out (closeRel r) HOKC.out HSZC.out ho14_1 HP2.out _ (Nat.le_refl _) (Sl.of (ho14_0.lies (lo := 0) (hi := w5.heap.size) (fun y hy => ⟨Nat.zero_le _, by omega⟩))) ((HK3.out.frame (fun b o h1 h2 => hk.cell (p := ⟨b, o, none⟩) ⟨(by show b < _; omega), fun h => h, trivial⟩ (by show b < _; omega))).mono (Nat.le_refl _) hw.size)).mono ?_
        rintro e w6 ⟨rfl, hb2⟩
        rw [relEq_refl]
        go_wp2_with fail
        exact freePost _ rfl ⟨⟨(WritesF.refl _ _).later hb2, trivial⟩, upd_self⟩
      · intro V L H w5 hw hk hj hd
        obtain ⟨⟨hL12, hM12, hH12, hv12⟩, ⟨hL16, hM16, hH16, hv16⟩, -⟩ := hd
        rw [hv12, hv16]
        have HV12 := Lib.hid hv12
        have HV16 := Lib.hid hv16
        clear hv12 hv16
        go_wp2_with fail
        exact freePost _ rfl ⟨⟨WritesF.refl _ _, hj⟩, upd_self⟩
      · intro V L H w5 hw hk hj hd
        obtain ⟨⟨hL12, hM12, hH12, hv12⟩, ⟨hL17, hM17, hH17, hv17⟩, -⟩ := hd
        rw [hv12, hv17]
        have HV12 := Lib.hid hv12
        have HV17 := Lib.hid hv17
        clear hv12 hv17
        go_wp2_with fail
        exact freePost _ rfl ⟨⟨WritesF.refl _ _, hj⟩, upd_self⟩
      · intro V L H w5 hw hj hd hap hdead
        obtain ⟨⟨hL18, hM18, hH18, hv18⟩, -⟩ := hd
        rw [hv18]
        clear hv18
        have HB5 := Lib.hid (fa_none hw)
        have hz5 : w3.heap.size ≤ w5.heap.size := hw.size
        clear hw hj hap hdead
        have pr0 : w5.cell? ⟨w1.heap.size, 0, none⟩ = some (.int .i64 r.fN) := blk_cell ((HB5.out.block w1.heap.size (by omega)).trans HG3.out) rfl
        have pr1 : w5.cell? ⟨w1.heap.size, 1, none⟩ = some (.slice ra r.fRows.length rc) := blk_cell ((HB5.out.block w1.heap.size (by omega)).trans HG3.out) rfl
        have pc0 : w5.cell? ⟨w2.heap.size, 0, none⟩ = some (.int .i64 (closeRel r).fN) := blk_cell ((HB5.out.block w2.heap.size (by omega)).trans HG4.out) rfl
        have pc1 : w5.cell? ⟨w2.heap.size, 1, none⟩ = some (.slice a2 (closeRel r).fRows.length c2) := blk_cell ((HB5.out.block w2.heap.size (by omega)).trans HG4.out) rfl
        go_wp2_with fail
        refine (spec_relValid (lo := 0) (hi := w3.heap.size) (c0 := rc) r (rel_len HSZ.out) vb HVB.out w5 hz5 (HR3.out.later HB5.out (Nat.le_refl _))).mono ?_
        rintro e w6 ⟨rfl, hb9⟩
        have HB_w6 := Lib.hid (HB5.out.trans (hb9.mono HB5.out.size))
        clear hb9 pr0 pr1 pc0 pc1
        have pr0 : w6.cell? ⟨w1.heap.size, 0, none⟩ = some (.int .i64 r.fN) := blk_cell ((HB_w6.out.block w1.heap.size (by omega)).trans HG3.out) rfl
        have pr1 : w6.cell? ⟨w1.heap.size, 1, none⟩ = some (.slice ra r.fRows.length rc) := blk_cell ((HB_w6.out.block w1.heap.size (by omega)).trans HG3.out) rfl
        have pc0 : w6.cell? ⟨w2.heap.size, 0, none⟩ = some (.int .i64 (closeRel r).fN) := blk_cell ((HB_w6.out.block w2.heap.size (by omega)).trans HG4.out) rfl
        have pc1 : w6.cell? ⟨w2.heap.size, 1, none⟩ = some (.slice a2 (closeRel r).fRows.length c2) := blk_cell ((HB_w6.out.block w2.heap.size (by omega)).trans HG4.out) rfl
        cases vb with
        | false =>
          have hcr : closeRel r = r := closeRel_no HVB.out
          have HCR := Lib.hid hcr
          clear hcr
          go_wp2_with fail
          refine (spec_EqualRelation (lo := 0) (hi := w3.heap.size) (c0_0 := c2) (c1_0 := rc) (closeRel r) HOKC.out HSZC.out r HOK.out HSZ.out w6 HB_w6.out.size (HK3.out.later HB_w6.out (Nat.le_refl _)) (HR3.out.later HB_w6.out (Nat.le_refl _))).mono ?_
          rintro e w7 ⟨rfl, hb9⟩
          rw [show relEq (closeRel r) r = true by rw [HCR.out]; exact relEq_refl r]
          have HB_w7 := Lib.hid (HB_w6.out.trans (hb9.mono HB_w6.out.size))
          clear hb9 pr0 pr1 pc0 pc1
          have pr0 : w7.cell? ⟨w1.heap.size, 0, none⟩ = some (.int .i64 r.fN) := blk_cell ((HB_w7.out.block w1.heap.size (by omega)).trans HG3.out) rfl
          have pr1 : w7.cell? ⟨w1.heap.size, 1, none⟩ = some (.slice ra r.fRows.length rc) := blk_cell ((HB_w7.out.block w1.heap.size (by omega)).trans HG3.out) rfl
          have pc0 : w7.cell? ⟨w2.heap.size, 0, none⟩ = some (.int .i64 (closeRel r).fN) := blk_cell ((HB_w7.out.block w2.heap.size (by omega)).trans HG4.out) rfl
          have pc1 : w7.cell? ⟨w2.heap.size, 1, none⟩ = some (.slice a2 (closeRel r).fRows.length c2) := blk_cell ((HB_w7.out.block w2.heap.size (by omega)).trans HG4.out) rfl
          go_wp2_with fail
          refine (impl_HasLoop (lo := 0) (hi := w3.heap.size) (c0_0 := rc) r HOK.out HSZ.out w7 HB_w7.out.size (HR3.out.later HB_w7.out (Nat.le_refl _))).mono ?_
          rintro e w8 ⟨rfl, hb9⟩
          rw [hasLoop_no HVB.out]
          have HB_w8 := Lib.hid (HB_w7.out.trans (hb9.mono HB_w7.out.size))
          clear hb9 pr0 pr1 pc0 pc1
          have pr0 : w8.cell? ⟨w1.heap.size, 0, none⟩ = some (.int .i64 r.fN) := blk_cell ((HB_w8.out.block w1.heap.size (by omega)).trans HG3.out) rfl
          have pr1 : w8.cell? ⟨w1.heap.size, 1, none⟩ = some (.slice ra r.fRows.length rc) := blk_cell ((HB_w8.out.block w1.heap.size (by omega)).trans HG3.out) rfl
          have pc0 : w8.cell? ⟨w2.heap.size, 0, none⟩ = some (.int .i64 (closeRel r).fN) := blk_cell ((HB_w8.out.block w2.heap.size (by omega)).trans HG4.out) rfl
          have pc1 : w8.cell? ⟨w2.heap.size, 1, none⟩ = some (.slice a2 (closeRel r).fRows.length c2) := blk_cell ((HB_w8.out.block w2.heap.size (by omega)).trans HG4.out) rfl
          go_wp2
          go_ret
          exact ⟨rfl, HB3.out.trans (HB_w8.out.mono HB3.out.size)⟩
        | true =>
          obtain ⟨n, hn16, hN, hL, -⟩ := relB_parts HVB.out
          have HN := Lib.hid hN
          have HLN := Lib.hid hL
          have hN0 : 0 ≤ r.fN ∧ r.fN ≤ 16 := by omega
          clear hN hL
          go_wp2
          go_loopw [5, 6] (fun lv i wr => ∃ k : Nat, k ≤ n ∧ i = .int .i64 (k : Int) ∧ lv = .bool (loopTo r k) ∧ Below w3.heap.size w3 wr) (fun _ i _ => n - (RowKit.intOf i).toNat)
          case atStart => exact ⟨0, Nat.zero_le _, rfl, rfl, HB_w6.out⟩
          case round =>
            obtain ⟨k, hk, rfl, rfl, hbr⟩ := hrel
            obtain ⟨wo, rfl⟩ : ∃ wo : World, wo = wr := ⟨_, rfl⟩
            have HB_wo := Lib.hid hbr
            clear hbr pr0 pr1 pc0 pc1
            have pr0 : wo.cell? ⟨w1.heap.size, 0, none⟩ = some (.int .i64 r.fN) := blk_cell ((HB_wo.out.block w1.heap.size (by omega)).trans HG3.out) rfl
            have pr1 : wo.cell? ⟨w1.heap.size, 1, none⟩ = some (.slice ra r.fRows.length rc) := blk_cell ((HB_wo.out.block w1.heap.size (by omega)).trans HG3.out) rfl
            have pc0 : wo.cell? ⟨w2.heap.size, 0, none⟩ = some (.int .i64 (closeRel r).fN) := blk_cell ((HB_wo.out.block w2.heap.size (by omega)).trans HG4.out) rfl
            have pc1 : wo.cell? ⟨w2.heap.size, 1, none⟩ = some (.slice a2 (closeRel r).fRows.length c2) := blk_cell ((HB_wo.out.block w2.heap.size (by omega)).trans HG4.out) rfl
            by_cases hltk : k < n
            · skip
              have hlt_k : (k : Int) < r.fN := by have h := HN.out; omega
              have hl_k : k < r.fRows.length := by have h := HLN.out; omega
              have hnx := loopTo_next HVB.out hl_k
              cases hlo : loopTo r k with
              | true =>
                rw [hlo, Bool.true_or] at hnx
                have HNX := Lib.hid hnx
                clear hnx hlo
                go_wp2
                go_loopw [7] (fun i wr => ∃ m : Nat, m ≤ n ∧ i = .int .i64 (m : Int) ∧ Below w3.heap.size w3 wr) (fun i _ => n - (RowKit.intOf i).toNat)
                case atStart => exact ⟨0, Nat.zero_le _, rfl, HB_wo.out⟩
                case round =>
                  obtain ⟨m, hm, rfl, hbr⟩ := hrel
                  obtain ⟨wm, rfl⟩ : ∃ wm : World, wm = wr := ⟨_, rfl⟩
                  have HB_wm := Lib.hid hbr
                  clear hbr pr0 pr1 pc0 pc1
                  have pr0 : wm.cell? ⟨w1.heap.size, 0, none⟩ = some (.int .i64 r.fN) := blk_cell ((HB_wm.out.block w1.heap.size (by omega)).trans HG3.out) rfl
                  have pr1 : wm.cell? ⟨w1.heap.size, 1, none⟩ = some (.slice ra r.fRows.length rc) := blk_cell ((HB_wm.out.block w1.heap.size (by omega)).trans HG3.out) rfl
                  have pc0 : wm.cell? ⟨w2.heap.size, 0, none⟩ = some (.int .i64 (closeRel r).fN) := blk_cell ((HB_wm.out.block w2.heap.size (by omega)).trans HG4.out) rfl
                  have pc1 : wm.cell? ⟨w2.heap.size, 1, none⟩ = some (.slice a2 (closeRel r).fRows.length c2) := blk_cell ((HB_wm.out.block w2.heap.size (by omega)).trans HG4.out) rfl
                  by_cases hltm : m < n
                  · skip
                    have hlt_m : (m : Int) < r.fN := by have h := HN.out; omega
                    have hl_m : m < r.fRows.length := by have h := HLN.out; omega
                    cases hq : hasPair r (k : Int) (m : Int) with
                    | false =>
                      have HQ := Lib.hid hq
                      clear hq
                      go_wp2_with fail
                      refine (impl_HasPair (lo := 0) (hi := w3.heap.size) (c0_0 := rc) r HOK.out HSZ.out (k : Int) (ok_nat (by omega)) (m : Int) (ok_nat (by omega)) wm HB_wm.out.size (HR3.out.later HB_wm.out (Nat.le_refl _))).mono ?_
                      rintro e wp ⟨rfl, hb9⟩
                      rw [HQ.out]
                      have HB_wp := Lib.hid (HB_wm.out.trans (hb9.mono HB_wm.out.size))
                      clear hb9 pr0 pr1 pc0 pc1
                      have pr0 : wp.cell? ⟨w1.heap.size, 0, none⟩ = some (.int .i64 r.fN) := blk_cell ((HB_wp.out.block w1.heap.size (by omega)).trans HG3.out) rfl
                      have pr1 : wp.cell? ⟨w1.heap.size, 1, none⟩ = some (.slice ra r.fRows.length rc) := blk_cell ((HB_wp.out.block w1.heap.size (by omega)).trans HG3.out) rfl
                      have pc0 : wp.cell? ⟨w2.heap.size, 0, none⟩ = some (.int .i64 (closeRel r).fN) := blk_cell ((HB_wp.out.block w2.heap.size (by omega)).trans HG4.out) rfl
                      have pc1 : wp.cell? ⟨w2.heap.size, 1, none⟩ = some (.slice a2 (closeRel r).fRows.length c2) := blk_cell ((HB_wp.out.block w2.heap.size (by omega)).trans HG4.out) rfl
                      go_wp2
                      go_loopw [8] (fun i wr => ∃ j : Nat, j ≤ n ∧ i = .int .i64 (j : Int) ∧ Below w3.heap.size w3 wr) (fun i _ => n - (RowKit.intOf i).toNat)
                      case atStart => exact ⟨0, Nat.zero_le _, rfl, HB_wp.out⟩
                      case round =>
                        obtain ⟨j, hj, rfl, hbr⟩ := hrel
                        obtain ⟨wj, rfl⟩ : ∃ wj : World, wj = wr := ⟨_, rfl⟩
                        have HB_wj := Lib.hid hbr
                        clear hbr pr0 pr1 pc0 pc1
                        have pr0 : wj.cell? ⟨w1.heap.size, 0, none⟩ = some (.int .i64 r.fN) := blk_cell ((HB_wj.out.block w1.heap.size (by omega)).trans HG3.out) rfl
                        have pr1 : wj.cell? ⟨w1.heap.size, 1, none⟩ = some (.slice ra r.fRows.length rc) := blk_cell ((HB_wj.out.block w1.heap.size (by omega)).trans HG3.out) rfl
                        have pc0 : wj.cell? ⟨w2.heap.size, 0, none⟩ = some (.int .i64 (closeRel r).fN) := blk_cell ((HB_wj.out.block w2.heap.size (by omega)).trans HG4.out) rfl
                        have pc1 : wj.cell? ⟨w2.heap.size, 1, none⟩ = some (.slice a2 (closeRel r).fRows.length c2) := blk_cell ((HB_wj.out.block w2.heap.size (by omega)).trans HG4.out) rfl
                        by_cases hltj : j < n
                        · skip
                          have hlt_j : (j : Int) < r.fN := by have h := HN.out; omega
                          have hl_j : j < r.fRows.length := by have h := HLN.out; omega
                          cases h1 : hasPair (closeRel r) (k : Int) (m : Int) with
                          | false =>
                            have H1 := Lib.hid h1
                            clear h1
                            go_wp2_with fail
                            refine (spec_HasPair (lo := 0) (hi := w3.heap.size) (c0_0 := c2) (closeRel r) HOKC.out HSZC.out (k : Int) (ok_nat (by omega)) (m : Int) (ok_nat (by omega)) wj HB_wj.out.size (HK3.out.later HB_wj.out (Nat.le_refl _))).mono ?_
                            rintro e wa ⟨rfl, hb9⟩
                            rw [H1.out]
                            have HB_wa := Lib.hid (HB_wj.out.trans (hb9.mono HB_wj.out.size))
                            clear hb9 pr0 pr1 pc0 pc1
                            have pr0 : wa.cell? ⟨w1.heap.size, 0, none⟩ = some (.int .i64 r.fN) := blk_cell ((HB_wa.out.block w1.heap.size (by omega)).trans HG3.out) rfl
                            have pr1 : wa.cell? ⟨w1.heap.size, 1, none⟩ = some (.slice ra r.fRows.length rc) := blk_cell ((HB_wa.out.block w1.heap.size (by omega)).trans HG3.out) rfl
                            have pc0 : wa.cell? ⟨w2.heap.size, 0, none⟩ = some (.int .i64 (closeRel r).fN) := blk_cell ((HB_wa.out.block w2.heap.size (by omega)).trans HG4.out) rfl
                            have pc1 : wa.cell? ⟨w2.heap.size, 1, none⟩ = some (.slice a2 (closeRel r).fRows.length c2) := blk_cell ((HB_wa.out.block w2.heap.size (by omega)).trans HG4.out) rfl
                            go_wp2
                            go_roundw
                            case rel => exact ⟨j + 1, by omega, by go_num, HB_wa.out⟩
                            case measure => simp [RowKit.intOf]; omega
                          | true =>
                            have H1 := Lib.hid h1
                            clear h1
                            go_wp2_with fail
                            refine (spec_HasPair (lo := 0) (hi := w3.heap.size) (c0_0 := c2) (closeRel r) HOKC.out HSZC.out (k : Int) (ok_nat (by omega)) (m : Int) (ok_nat (by omega)) wj HB_wj.out.size (HK3.out.later HB_wj.out (Nat.le_refl _))).mono ?_
                            rintro e wa ⟨rfl, hb9⟩
                            rw [H1.out]
                            have HB_wa := Lib.hid (HB_wj.out.trans (hb9.mono HB_wj.out.size))
                            clear hb9 pr0 pr1 pc0 pc1
                            have pr0 : wa.cell? ⟨w1.heap.size, 0, none⟩ = some (.int .i64 r.fN) := blk_cell ((HB_wa.out.block w1.heap.size (by omega)).trans HG3.out) rfl
                            have pr1 : wa.cell? ⟨w1.heap.size, 1, none⟩ = some (.slice ra r.fRows.length rc) := blk_cell ((HB_wa.out.block w1.heap.size (by omega)).trans HG3.out) rfl
                            have pc0 : wa.cell? ⟨w2.heap.size, 0, none⟩ = some (.int .i64 (closeRel r).fN) := blk_cell ((HB_wa.out.block w2.heap.size (by omega)).trans HG4.out) rfl
                            have pc1 : wa.cell? ⟨w2.heap.size, 1, none⟩ = some (.slice a2 (closeRel r).fRows.length c2) := blk_cell ((HB_wa.out.block w2.heap.size (by omega)).trans HG4.out) rfl
                            cases h2 : hasPair (closeRel r) (m : Int) (j : Int) with
                            | false =>
                              have H2 := Lib.hid h2
                              clear h2
                              go_wp2_with fail
                              refine (spec_HasPair (lo := 0) (hi := w3.heap.size) (c0_0 := c2) (closeRel r) HOKC.out HSZC.out (m : Int) (ok_nat (by omega)) (j : Int) (ok_nat (by omega)) wa HB_wa.out.size (HK3.out.later HB_wa.out (Nat.le_refl _))).mono ?_
                              rintro e wb ⟨rfl, hb9⟩
                              rw [H2.out]
                              have HB_wb := Lib.hid (HB_wa.out.trans (hb9.mono HB_wa.out.size))
                              clear hb9 pr0 pr1 pc0 pc1
                              have pr0 : wb.cell? ⟨w1.heap.size, 0, none⟩ = some (.int .i64 r.fN) := blk_cell ((HB_wb.out.block w1.heap.size (by omega)).trans HG3.out) rfl
                              have pr1 : wb.cell? ⟨w1.heap.size, 1, none⟩ = some (.slice ra r.fRows.length rc) := blk_cell ((HB_wb.out.block w1.heap.size (by omega)).trans HG3.out) rfl
                              have pc0 : wb.cell? ⟨w2.heap.size, 0, none⟩ = some (.int .i64 (closeRel r).fN) := blk_cell ((HB_wb.out.block w2.heap.size (by omega)).trans HG4.out) rfl
                              have pc1 : wb.cell? ⟨w2.heap.size, 1, none⟩ = some (.slice a2 (closeRel r).fRows.length c2) := blk_cell ((HB_wb.out.block w2.heap.size (by omega)).trans HG4.out) rfl
                              go_wp2
                              go_roundw
                              case rel => exact ⟨j + 1, by omega, by go_num, HB_wb.out⟩
                              case measure => simp [RowKit.intOf]; omega
                            | true =>
                              have H2 := Lib.hid h2
                              clear h2
                              have H3 := Lib.hid (pair_trans HVB.out hl_k hl_m hl_j H1.out H2.out)
                              go_wp2_with fail
                              refine (spec_HasPair (lo := 0) (hi := w3.heap.size) (c0_0 := c2) (closeRel r) HOKC.out HSZC.out (m : Int) (ok_nat (by omega)) (j : Int) (ok_nat (by omega)) wa HB_wa.out.size (HK3.out.later HB_wa.out (Nat.le_refl _))).mono ?_
                              rintro e wb ⟨rfl, hb9⟩
                              rw [H2.out]
                              have HB_wb := Lib.hid (HB_wa.out.trans (hb9.mono HB_wa.out.size))
                              clear hb9 pr0 pr1 pc0 pc1
                              have pr0 : wb.cell? ⟨w1.heap.size, 0, none⟩ = some (.int .i64 r.fN) := blk_cell ((HB_wb.out.block w1.heap.size (by omega)).trans HG3.out) rfl
                              have pr1 : wb.cell? ⟨w1.heap.size, 1, none⟩ = some (.slice ra r.fRows.length rc) := blk_cell ((HB_wb.out.block w1.heap.size (by omega)).trans HG3.out) rfl
                              have pc0 : wb.cell? ⟨w2.heap.size, 0, none⟩ = some (.int .i64 (closeRel r).fN) := blk_cell ((HB_wb.out.block w2.heap.size (by omega)).trans HG4.out) rfl
                              have pc1 : wb.cell? ⟨w2.heap.size, 1, none⟩ = some (.slice a2 (closeRel r).fRows.length c2) := blk_cell ((HB_wb.out.block w2.heap.size (by omega)).trans HG4.out) rfl
                              go_wp2_with fail
                              refine (spec_HasPair (lo := 0) (hi := w3.heap.size) (c0_0 := c2) (closeRel r) HOKC.out HSZC.out (k : Int) (ok_nat (by omega)) (j : Int) (ok_nat (by omega)) wb HB_wb.out.size (HK3.out.later HB_wb.out (Nat.le_refl _))).mono ?_
                              rintro e wd ⟨rfl, hb9⟩
                              rw [H3.out]
                              have HB_wd := Lib.hid (HB_wb.out.trans (hb9.mono HB_wb.out.size))
                              clear hb9 pr0 pr1 pc0 pc1
                              have pr0 : wd.cell? ⟨w1.heap.size, 0, none⟩ = some (.int .i64 r.fN) := blk_cell ((HB_wd.out.block w1.heap.size (by omega)).trans HG3.out) rfl
                              have pr1 : wd.cell? ⟨w1.heap.size, 1, none⟩ = some (.slice ra r.fRows.length rc) := blk_cell ((HB_wd.out.block w1.heap.size (by omega)).trans HG3.out) rfl
                              have pc0 : wd.cell? ⟨w2.heap.size, 0, none⟩ = some (.int .i64 (closeRel r).fN) := blk_cell ((HB_wd.out.block w2.heap.size (by omega)).trans HG4.out) rfl
                              have pc1 : wd.cell? ⟨w2.heap.size, 1, none⟩ = some (.slice a2 (closeRel r).fRows.length c2) := blk_cell ((HB_wd.out.block w2.heap.size (by omega)).trans HG4.out) rfl
                              go_wp2
                              go_roundw
                              case rel => exact ⟨j + 1, by omega, by go_num, HB_wd.out⟩
                              case measure => simp [RowKit.intOf]; omega
                        · skip
                          obtain rfl : j = n := by omega
                          have hge_j : ¬ (j : Int) < r.fN := by have h := HN.out; omega
                          go_wp2
                          go_roundw
                          case rel => exact ⟨m + 1, by omega, by go_num, HB_wj.out⟩
                          case measure => simp [RowKit.intOf]; omega
                    | true =>
                      have HQ := Lib.hid hq
                      clear hq
                      have HQ2 := Lib.hid (pair_close HVB.out hl_k hl_m HQ.out)
                      go_wp2_with fail
                      refine (impl_HasPair (lo := 0) (hi := w3.heap.size) (c0_0 := rc) r HOK.out HSZ.out (k : Int) (ok_nat (by omega)) (m : Int) (ok_nat (by omega)) wm HB_wm.out.size (HR3.out.later HB_wm.out (Nat.le_refl _))).mono ?_
                      rintro e wp ⟨rfl, hb9⟩
                      rw [HQ.out]
                      have HB_wp := Lib.hid (HB_wm.out.trans (hb9.mono HB_wm.out.size))
                      clear hb9 pr0 pr1 pc0 pc1
                      have pr0 : wp.cell? ⟨w1.heap.size, 0, none⟩ = some (.int .i64 r.fN) := blk_cell ((HB_wp.out.block w1.heap.size (by omega)).trans HG3.out) rfl
                      have pr1 : wp.cell? ⟨w1.heap.size, 1, none⟩ = some (.slice ra r.fRows.length rc) := blk_cell ((HB_wp.out.block w1.heap.size (by omega)).trans HG3.out) rfl
                      have pc0 : wp.cell? ⟨w2.heap.size, 0, none⟩ = some (.int .i64 (closeRel r).fN) := blk_cell ((HB_wp.out.block w2.heap.size (by omega)).trans HG4.out) rfl
                      have pc1 : wp.cell? ⟨w2.heap.size, 1, none⟩ = some (.slice a2 (closeRel r).fRows.length c2) := blk_cell ((HB_wp.out.block w2.heap.size (by omega)).trans HG4.out) rfl
                      go_wp2_with fail
                      refine (impl_HasPair (lo := 0) (hi := w3.heap.size) (c0_0 := c2) (closeRel r) HOKC.out HSZC.out (k : Int) (ok_nat (by omega)) (m : Int) (ok_nat (by omega)) wp HB_wp.out.size (HK3.out.later HB_wp.out (Nat.le_refl _))).mono ?_
                      rintro e wq ⟨rfl, hb9⟩
                      rw [HQ2.out]
                      have HB_wq := Lib.hid (HB_wp.out.trans (hb9.mono HB_wp.out.size))
                      clear hb9 pr0 pr1 pc0 pc1
                      have pr0 : wq.cell? ⟨w1.heap.size, 0, none⟩ = some (.int .i64 r.fN) := blk_cell ((HB_wq.out.block w1.heap.size (by omega)).trans HG3.out) rfl
                      have pr1 : wq.cell? ⟨w1.heap.size, 1, none⟩ = some (.slice ra r.fRows.length rc) := blk_cell ((HB_wq.out.block w1.heap.size (by omega)).trans HG3.out) rfl
                      have pc0 : wq.cell? ⟨w2.heap.size, 0, none⟩ = some (.int .i64 (closeRel r).fN) := blk_cell ((HB_wq.out.block w2.heap.size (by omega)).trans HG4.out) rfl
                      have pc1 : wq.cell? ⟨w2.heap.size, 1, none⟩ = some (.slice a2 (closeRel r).fRows.length c2) := blk_cell ((HB_wq.out.block w2.heap.size (by omega)).trans HG4.out) rfl
                      go_wp2
                      go_loopw [8] (fun i wr => ∃ j : Nat, j ≤ n ∧ i = .int .i64 (j : Int) ∧ Below w3.heap.size w3 wr) (fun i _ => n - (RowKit.intOf i).toNat)
                      case atStart => exact ⟨0, Nat.zero_le _, rfl, HB_wq.out⟩
                      case round =>
                        obtain ⟨j, hj, rfl, hbr⟩ := hrel
                        obtain ⟨wj, rfl⟩ : ∃ wj : World, wj = wr := ⟨_, rfl⟩
                        have HB_wj := Lib.hid hbr
                        clear hbr pr0 pr1 pc0 pc1
                        have pr0 : wj.cell? ⟨w1.heap.size, 0, none⟩ = some (.int .i64 r.fN) := blk_cell ((HB_wj.out.block w1.heap.size (by omega)).trans HG3.out) rfl
                        have pr1 : wj.cell? ⟨w1.heap.size, 1, none⟩ = some (.slice ra r.fRows.length rc) := blk_cell ((HB_wj.out.block w1.heap.size (by omega)).trans HG3.out) rfl
                        have pc0 : wj.cell? ⟨w2.heap.size, 0, none⟩ = some (.int .i64 (closeRel r).fN) := blk_cell ((HB_wj.out.block w2.heap.size (by omega)).trans HG4.out) rfl
                        have pc1 : wj.cell? ⟨w2.heap.size, 1, none⟩ = some (.slice a2 (closeRel r).fRows.length c2) := blk_cell ((HB_wj.out.block w2.heap.size (by omega)).trans HG4.out) rfl
                        by_cases hltj : j < n
                        · skip
                          have hlt_j : (j : Int) < r.fN := by have h := HN.out; omega
                          have hl_j : j < r.fRows.length := by have h := HLN.out; omega
                          cases h1 : hasPair (closeRel r) (k : Int) (m : Int) with
                          | false =>
                            have H1 := Lib.hid h1
                            clear h1
                            go_wp2_with fail
                            refine (spec_HasPair (lo := 0) (hi := w3.heap.size) (c0_0 := c2) (closeRel r) HOKC.out HSZC.out (k : Int) (ok_nat (by omega)) (m : Int) (ok_nat (by omega)) wj HB_wj.out.size (HK3.out.later HB_wj.out (Nat.le_refl _))).mono ?_
                            rintro e wa ⟨rfl, hb9⟩
                            rw [H1.out]
                            have HB_wa := Lib.hid (HB_wj.out.trans (hb9.mono HB_wj.out.size))
                            clear hb9 pr0 pr1 pc0 pc1
                            have pr0 : wa.cell? ⟨w1.heap.size, 0, none⟩ = some (.int .i64 r.fN) := blk_cell ((HB_wa.out.block w1.heap.size (by omega)).trans HG3.out) rfl
                            have pr1 : wa.cell? ⟨w1.heap.size, 1, none⟩ = some (.slice ra r.fRows.length rc) := blk_cell ((HB_wa.out.block w1.heap.size (by omega)).trans HG3.out) rfl
                            have pc0 : wa.cell? ⟨w2.heap.size, 0, none⟩ = some (.int .i64 (closeRel r).fN) := blk_cell ((HB_wa.out.block w2.heap.size (by omega)).trans HG4.out) rfl
                            have pc1 : wa.cell? ⟨w2.heap.size, 1, none⟩ = some (.slice a2 (closeRel r).fRows.length c2) := blk_cell ((HB_wa.out.block w2.heap.size (by omega)).trans HG4.out) rfl
                            go_wp2
                            go_roundw
                            case rel => exact ⟨j + 1, by omega, by go_num, HB_wa.out⟩
                            case measure => simp [RowKit.intOf]; omega
                          | true =>
                            have H1 := Lib.hid h1
                            clear h1
                            go_wp2_with fail
                            refine (spec_HasPair (lo := 0) (hi := w3.heap.size) (c0_0 := c2) (closeRel r) HOKC.out HSZC.out (k : Int) (ok_nat (by omega)) (m : Int) (ok_nat (by omega)) wj HB_wj.out.size (HK3.out.later HB_wj.out (Nat.le_refl _))).mono ?_
                            rintro e wa ⟨rfl, hb9⟩
                            rw [H1.out]
                            have HB_wa := Lib.hid (HB_wj.out.trans (hb9.mono HB_wj.out.size))
                            clear hb9 pr0 pr1 pc0 pc1
                            have pr0 : wa.cell? ⟨w1.heap.size, 0, none⟩ = some (.int .i64 r.fN) := blk_cell ((HB_wa.out.block w1.heap.size (by omega)).trans HG3.out) rfl
                            have pr1 : wa.cell? ⟨w1.heap.size, 1, none⟩ = some (.slice ra r.fRows.length rc) := blk_cell ((HB_wa.out.block w1.heap.size (by omega)).trans HG3.out) rfl
                            have pc0 : wa.cell? ⟨w2.heap.size, 0, none⟩ = some (.int .i64 (closeRel r).fN) := blk_cell ((HB_wa.out.block w2.heap.size (by omega)).trans HG4.out) rfl
                            have pc1 : wa.cell? ⟨w2.heap.size, 1, none⟩ = some (.slice a2 (closeRel r).fRows.length c2) := blk_cell ((HB_wa.out.block w2.heap.size (by omega)).trans HG4.out) rfl
                            cases h2 : hasPair (closeRel r) (m : Int) (j : Int) with
                            | false =>
                              have H2 := Lib.hid h2
                              clear h2
                              go_wp2_with fail
                              refine (spec_HasPair (lo := 0) (hi := w3.heap.size) (c0_0 := c2) (closeRel r) HOKC.out HSZC.out (m : Int) (ok_nat (by omega)) (j : Int) (ok_nat (by omega)) wa HB_wa.out.size (HK3.out.later HB_wa.out (Nat.le_refl _))).mono ?_
                              rintro e wb ⟨rfl, hb9⟩
                              rw [H2.out]
                              have HB_wb := Lib.hid (HB_wa.out.trans (hb9.mono HB_wa.out.size))
                              clear hb9 pr0 pr1 pc0 pc1
                              have pr0 : wb.cell? ⟨w1.heap.size, 0, none⟩ = some (.int .i64 r.fN) := blk_cell ((HB_wb.out.block w1.heap.size (by omega)).trans HG3.out) rfl
                              have pr1 : wb.cell? ⟨w1.heap.size, 1, none⟩ = some (.slice ra r.fRows.length rc) := blk_cell ((HB_wb.out.block w1.heap.size (by omega)).trans HG3.out) rfl
                              have pc0 : wb.cell? ⟨w2.heap.size, 0, none⟩ = some (.int .i64 (closeRel r).fN) := blk_cell ((HB_wb.out.block w2.heap.size (by omega)).trans HG4.out) rfl
                              have pc1 : wb.cell? ⟨w2.heap.size, 1, none⟩ = some (.slice a2 (closeRel r).fRows.length c2) := blk_cell ((HB_wb.out.block w2.heap.size (by omega)).trans HG4.out) rfl
                              go_wp2
                              go_roundw
                              case rel => exact ⟨j + 1, by omega, by go_num, HB_wb.out⟩
                              case measure => simp [RowKit.intOf]; omega
                            | true =>
                              have H2 := Lib.hid h2
                              clear h2
                              have H3 := Lib.hid (pair_trans HVB.out hl_k hl_m hl_j H1.out H2.out)
                              go_wp2_with fail
                              refine (spec_HasPair (lo := 0) (hi := w3.heap.size) (c0_0 := c2) (closeRel r) HOKC.out HSZC.out (m : Int) (ok_nat (by omega)) (j : Int) (ok_nat (by omega)) wa HB_wa.out.size (HK3.out.later HB_wa.out (Nat.le_refl _))).mono ?_
                              rintro e wb ⟨rfl, hb9⟩
                              rw [H2.out]
                              have HB_wb := Lib.hid (HB_wa.out.trans (hb9.mono HB_wa.out.size))
                              clear hb9 pr0 pr1 pc0 pc1
                              have pr0 : wb.cell? ⟨w1.heap.size, 0, none⟩ = some (.int .i64 r.fN) := blk_cell ((HB_wb.out.block w1.heap.size (by omega)).trans HG3.out) rfl
                              have pr1 : wb.cell? ⟨w1.heap.size, 1, none⟩ = some (.slice ra r.fRows.length rc) := blk_cell ((HB_wb.out.block w1.heap.size (by omega)).trans HG3.out) rfl
                              have pc0 : wb.cell? ⟨w2.heap.size, 0, none⟩ = some (.int .i64 (closeRel r).fN) := blk_cell ((HB_wb.out.block w2.heap.size (by omega)).trans HG4.out) rfl
                              have pc1 : wb.cell? ⟨w2.heap.size, 1, none⟩ = some (.slice a2 (closeRel r).fRows.length c2) := blk_cell ((HB_wb.out.block w2.heap.size (by omega)).trans HG4.out) rfl
                              go_wp2_with fail
                              refine (spec_HasPair (lo := 0) (hi := w3.heap.size) (c0_0 := c2) (closeRel r) HOKC.out HSZC.out (k : Int) (ok_nat (by omega)) (j : Int) (ok_nat (by omega)) wb HB_wb.out.size (HK3.out.later HB_wb.out (Nat.le_refl _))).mono ?_
                              rintro e wd ⟨rfl, hb9⟩
                              rw [H3.out]
                              have HB_wd := Lib.hid (HB_wb.out.trans (hb9.mono HB_wb.out.size))
                              clear hb9 pr0 pr1 pc0 pc1
                              have pr0 : wd.cell? ⟨w1.heap.size, 0, none⟩ = some (.int .i64 r.fN) := blk_cell ((HB_wd.out.block w1.heap.size (by omega)).trans HG3.out) rfl
                              have pr1 : wd.cell? ⟨w1.heap.size, 1, none⟩ = some (.slice ra r.fRows.length rc) := blk_cell ((HB_wd.out.block w1.heap.size (by omega)).trans HG3.out) rfl
                              have pc0 : wd.cell? ⟨w2.heap.size, 0, none⟩ = some (.int .i64 (closeRel r).fN) := blk_cell ((HB_wd.out.block w2.heap.size (by omega)).trans HG4.out) rfl
                              have pc1 : wd.cell? ⟨w2.heap.size, 1, none⟩ = some (.slice a2 (closeRel r).fRows.length c2) := blk_cell ((HB_wd.out.block w2.heap.size (by omega)).trans HG4.out) rfl
                              go_wp2
                              go_roundw
                              case rel => exact ⟨j + 1, by omega, by go_num, HB_wd.out⟩
                              case measure => simp [RowKit.intOf]; omega
                        · skip
                          obtain rfl : j = n := by omega
                          have hge_j : ¬ (j : Int) < r.fN := by have h := HN.out; omega
                          go_wp2
                          go_roundw
                          case rel => exact ⟨m + 1, by omega, by go_num, HB_wj.out⟩
                          case measure => simp [RowKit.intOf]; omega
                  · skip
                    obtain rfl : m = n := by omega
                    have hge_m : ¬ (m : Int) < r.fN := by have h := HN.out; omega
                    go_wp2
                    go_roundw
                    case rel => exact ⟨k + 1, by omega, by go_num, by rw [HNX.out], HB_wm.out⟩
                    case measure => simp [RowKit.intOf]; omega
              | false =>
                rw [hlo, Bool.false_or] at hnx
                clear hlo
                generalize hvp : hasPair (closeRel r) (k : Int) (k : Int) = vp at hnx
                have HVP := Lib.hid hvp
                have HNX := Lib.hid hnx
                clear hnx hvp
                go_wp2_with fail
                refine (impl_HasPair (lo := 0) (hi := w3.heap.size) (c0_0 := c2) (closeRel r) HOKC.out HSZC.out (k : Int) (ok_nat (by omega)) (k : Int) (ok_nat (by omega)) wo HB_wo.out.size (HK3.out.later HB_wo.out (Nat.le_refl _))).mono ?_
                rintro e wf ⟨rfl, hb9⟩
                rw [HVP.out]
                have HB_wf := Lib.hid (HB_wo.out.trans (hb9.mono HB_wo.out.size))
                clear hb9 pr0 pr1 pc0 pc1
                have pr0 : wf.cell? ⟨w1.heap.size, 0, none⟩ = some (.int .i64 r.fN) := blk_cell ((HB_wf.out.block w1.heap.size (by omega)).trans HG3.out) rfl
                have pr1 : wf.cell? ⟨w1.heap.size, 1, none⟩ = some (.slice ra r.fRows.length rc) := blk_cell ((HB_wf.out.block w1.heap.size (by omega)).trans HG3.out) rfl
                have pc0 : wf.cell? ⟨w2.heap.size, 0, none⟩ = some (.int .i64 (closeRel r).fN) := blk_cell ((HB_wf.out.block w2.heap.size (by omega)).trans HG4.out) rfl
                have pc1 : wf.cell? ⟨w2.heap.size, 1, none⟩ = some (.slice a2 (closeRel r).fRows.length c2) := blk_cell ((HB_wf.out.block w2.heap.size (by omega)).trans HG4.out) rfl
                go_wp2
                go_loopw [7] (fun i wr => ∃ m : Nat, m ≤ n ∧ i = .int .i64 (m : Int) ∧ Below w3.heap.size w3 wr) (fun i _ => n - (RowKit.intOf i).toNat)
                case atStart => exact ⟨0, Nat.zero_le _, rfl, HB_wf.out⟩
                case round =>
                  obtain ⟨m, hm, rfl, hbr⟩ := hrel
                  obtain ⟨wm, rfl⟩ : ∃ wm : World, wm = wr := ⟨_, rfl⟩
                  have HB_wm := Lib.hid hbr
                  clear hbr pr0 pr1 pc0 pc1
                  have pr0 : wm.cell? ⟨w1.heap.size, 0, none⟩ = some (.int .i64 r.fN) := blk_cell ((HB_wm.out.block w1.heap.size (by omega)).trans HG3.out) rfl
                  have pr1 : wm.cell? ⟨w1.heap.size, 1, none⟩ = some (.slice ra r.fRows.length rc) := blk_cell ((HB_wm.out.block w1.heap.size (by omega)).trans HG3.out) rfl
                  have pc0 : wm.cell? ⟨w2.heap.size, 0, none⟩ = some (.int .i64 (closeRel r).fN) := blk_cell ((HB_wm.out.block w2.heap.size (by omega)).trans HG4.out) rfl
                  have pc1 : wm.cell? ⟨w2.heap.size, 1, none⟩ = some (.slice a2 (closeRel r).fRows.length c2) := blk_cell ((HB_wm.out.block w2.heap.size (by omega)).trans HG4.out) rfl
                  by_cases hltm : m < n
                  · skip
                    have hlt_m : (m : Int) < r.fN := by have h := HN.out; omega
                    have hl_m : m < r.fRows.length := by have h := HLN.out; omega
                    cases hq : hasPair r (k : Int) (m : Int) with
                    | false =>
                      have HQ := Lib.hid hq
                      clear hq
                      go_wp2_with fail
                      refine (impl_HasPair (lo := 0) (hi := w3.heap.size) (c0_0 := rc) r HOK.out HSZ.out (k : Int) (ok_nat (by omega)) (m : Int) (ok_nat (by omega)) wm HB_wm.out.size (HR3.out.later HB_wm.out (Nat.le_refl _))).mono ?_
                      rintro e wp ⟨rfl, hb9⟩
                      rw [HQ.out]
                      have HB_wp := Lib.hid (HB_wm.out.trans (hb9.mono HB_wm.out.size))
                      clear hb9 pr0 pr1 pc0 pc1
                      have pr0 : wp.cell? ⟨w1.heap.size, 0, none⟩ = some (.int .i64 r.fN) := blk_cell ((HB_wp.out.block w1.heap.size (by omega)).trans HG3.out) rfl
                      have pr1 : wp.cell? ⟨w1.heap.size, 1, none⟩ = some (.slice ra r.fRows.length rc) := blk_cell ((HB_wp.out.block w1.heap.size (by omega)).trans HG3.out) rfl
                      have pc0 : wp.cell? ⟨w2.heap.size, 0, none⟩ = some (.int .i64 (closeRel r).fN) := blk_cell ((HB_wp.out.block w2.heap.size (by omega)).trans HG4.out) rfl
                      have pc1 : wp.cell? ⟨w2.heap.size, 1, none⟩ = some (.slice a2 (closeRel r).fRows.length c2) := blk_cell ((HB_wp.out.block w2.heap.size (by omega)).trans HG4.out) rfl
                      go_wp2
                      go_loopw [8] (fun i wr => ∃ j : Nat, j ≤ n ∧ i = .int .i64 (j : Int) ∧ Below w3.heap.size w3 wr) (fun i _ => n - (RowKit.intOf i).toNat)
                      case atStart => exact ⟨0, Nat.zero_le _, rfl, HB_wp.out⟩
                      case round =>
                        obtain ⟨j, hj, rfl, hbr⟩ := hrel
                        obtain ⟨wj, rfl⟩ : ∃ wj : World, wj = wr := ⟨_, rfl⟩
                        have HB_wj := Lib.hid hbr
                        clear hbr pr0 pr1 pc0 pc1
                        have pr0 : wj.cell? ⟨w1.heap.size, 0, none⟩ = some (.int .i64 r.fN) := blk_cell ((HB_wj.out.block w1.heap.size (by omega)).trans HG3.out) rfl
                        have pr1 : wj.cell? ⟨w1.heap.size, 1, none⟩ = some (.slice ra r.fRows.length rc) := blk_cell ((HB_wj.out.block w1.heap.size (by omega)).trans HG3.out) rfl
                        have pc0 : wj.cell? ⟨w2.heap.size, 0, none⟩ = some (.int .i64 (closeRel r).fN) := blk_cell ((HB_wj.out.block w2.heap.size (by omega)).trans HG4.out) rfl
                        have pc1 : wj.cell? ⟨w2.heap.size, 1, none⟩ = some (.slice a2 (closeRel r).fRows.length c2) := blk_cell ((HB_wj.out.block w2.heap.size (by omega)).trans HG4.out) rfl
                        by_cases hltj : j < n
                        · skip
                          have hlt_j : (j : Int) < r.fN := by have h := HN.out; omega
                          have hl_j : j < r.fRows.length := by have h := HLN.out; omega
                          cases h1 : hasPair (closeRel r) (k : Int) (m : Int) with
                          | false =>
                            have H1 := Lib.hid h1
                            clear h1
                            go_wp2_with fail
                            refine (spec_HasPair (lo := 0) (hi := w3.heap.size) (c0_0 := c2) (closeRel r) HOKC.out HSZC.out (k : Int) (ok_nat (by omega)) (m : Int) (ok_nat (by omega)) wj HB_wj.out.size (HK3.out.later HB_wj.out (Nat.le_refl _))).mono ?_
                            rintro e wa ⟨rfl, hb9⟩
                            rw [H1.out]
                            have HB_wa := Lib.hid (HB_wj.out.trans (hb9.mono HB_wj.out.size))
                            clear hb9 pr0 pr1 pc0 pc1
                            have pr0 : wa.cell? ⟨w1.heap.size, 0, none⟩ = some (.int .i64 r.fN) := blk_cell ((HB_wa.out.block w1.heap.size (by omega)).trans HG3.out) rfl
                            have pr1 : wa.cell? ⟨w1.heap.size, 1, none⟩ = some (.slice ra r.fRows.length rc) := blk_cell ((HB_wa.out.block w1.heap.size (by omega)).trans HG3.out) rfl
                            have pc0 : wa.cell? ⟨w2.heap.size, 0, none⟩ = some (.int .i64 (closeRel r).fN) := blk_cell ((HB_wa.out.block w2.heap.size (by omega)).trans HG4.out) rfl
                            have pc1 : wa.cell? ⟨w2.heap.size, 1, none⟩ = some (.slice a2 (closeRel r).fRows.length c2) := blk_cell ((HB_wa.out.block w2.heap.size (by omega)).trans HG4.out) rfl
                            go_wp2
                            go_roundw
                            case rel => exact ⟨j + 1, by omega, by go_num, HB_wa.out⟩
                            case measure => simp [RowKit.intOf]; omega
                          | true =>
                            have H1 := Lib.hid h1
                            clear h1
                            go_wp2_with fail
                            refine (spec_HasPair (lo := 0) (hi := w3.heap.size) (c0_0 := c2) (closeRel r) HOKC.out HSZC.out (k : Int) (ok_nat (by omega)) (m : Int) (ok_nat (by omega)) wj HB_wj.out.size (HK3.out.later HB_wj.out (Nat.le_refl _))).mono ?_
                            rintro e wa ⟨rfl, hb9⟩
                            rw [H1.out]
                            have HB_wa := Lib.hid (HB_wj.out.trans (hb9.mono HB_wj.out.size))
                            clear hb9 pr0 pr1 pc0 pc1
                            have pr0 : wa.cell? ⟨w1.heap.size, 0, none⟩ = some (.int .i64 r.fN) := blk_cell ((HB_wa.out.block w1.heap.size (by omega)).trans HG3.out) rfl
                            have pr1 : wa.cell? ⟨w1.heap.size, 1, none⟩ = some (.slice ra r.fRows.length rc) := blk_cell ((HB_wa.out.block w1.heap.size (by omega)).trans HG3.out) rfl
                            have pc0 : wa.cell? ⟨w2.heap.size, 0, none⟩ = some (.int .i64 (closeRel r).fN) := blk_cell ((HB_wa.out.block w2.heap.size (by omega)).trans HG4.out) rfl
                            have pc1 : wa.cell? ⟨w2.heap.size, 1, none⟩ = some (.slice a2 (closeRel r).fRows.length c2) := blk_cell ((HB_wa.out.block w2.heap.size (by omega)).trans HG4.out) rfl
                            cases h2 : hasPair (closeRel r) (m : Int) (j : Int) with
                            | false =>
                              have H2 := Lib.hid h2
                              clear h2
                              go_wp2_with fail
                              refine (spec_HasPair (lo := 0) (hi := w3.heap.size) (c0_0 := c2) (closeRel r) HOKC.out HSZC.out (m : Int) (ok_nat (by omega)) (j : Int) (ok_nat (by omega)) wa HB_wa.out.size (HK3.out.later HB_wa.out (Nat.le_refl _))).mono ?_
                              rintro e wb ⟨rfl, hb9⟩
                              rw [H2.out]
                              have HB_wb := Lib.hid (HB_wa.out.trans (hb9.mono HB_wa.out.size))
                              clear hb9 pr0 pr1 pc0 pc1
                              have pr0 : wb.cell? ⟨w1.heap.size, 0, none⟩ = some (.int .i64 r.fN) := blk_cell ((HB_wb.out.block w1.heap.size (by omega)).trans HG3.out) rfl
                              have pr1 : wb.cell? ⟨w1.heap.size, 1, none⟩ = some (.slice ra r.fRows.length rc) := blk_cell ((HB_wb.out.block w1.heap.size (by omega)).trans HG3.out) rfl
                              have pc0 : wb.cell? ⟨w2.heap.size, 0, none⟩ = some (.int .i64 (closeRel r).fN) := blk_cell ((HB_wb.out.block w2.heap.size (by omega)).trans HG4.out) rfl
                              have pc1 : wb.cell? ⟨w2.heap.size, 1, none⟩ = some (.slice a2 (closeRel r).fRows.length c2) := blk_cell ((HB_wb.out.block w2.heap.size (by omega)).trans HG4.out) rfl
                              go_wp2
                              go_roundw
                              case rel => exact ⟨j + 1, by omega, by go_num, HB_wb.out⟩
                              case measure => simp [RowKit.intOf]; omega
                            | true =>
                              have H2 := Lib.hid h2
                              clear h2
                              have H3 := Lib.hid (pair_trans HVB.out hl_k hl_m hl_j H1.out H2.out)
                              go_wp2_with fail
                              refine (spec_HasPair (lo := 0) (hi := w3.heap.size) (c0_0 := c2) (closeRel r) HOKC.out HSZC.out (m : Int) (ok_nat (by omega)) (j : Int) (ok_nat (by omega)) wa HB_wa.out.size (HK3.out.later HB_wa.out (Nat.le_refl _))).mono ?_
                              rintro e wb ⟨rfl, hb9⟩
                              rw [H2.out]
                              have HB_wb := Lib.hid (HB_wa.out.trans (hb9.mono HB_wa.out.size))
                              clear hb9 pr0 pr1 pc0 pc1
                              have pr0 : wb.cell? ⟨w1.heap.size, 0, none⟩ = some (.int .i64 r.fN) := blk_cell ((HB_wb.out.block w1.heap.size (by omega)).trans HG3.out) rfl
                              have pr1 : wb.cell? ⟨w1.heap.size, 1, none⟩ = some (.slice ra r.fRows.length rc) := blk_cell ((HB_wb.out.block w1.heap.size (by omega)).trans HG3.out) rfl
                              have pc0 : wb.cell? ⟨w2.heap.size, 0, none⟩ = some (.int .i64 (closeRel r).fN) := blk_cell ((HB_wb.out.block w2.heap.size (by omega)).trans HG4.out) rfl
                              have pc1 : wb.cell? ⟨w2.heap.size, 1, none⟩ = some (.slice a2 (closeRel r).fRows.length c2) := blk_cell ((HB_wb.out.block w2.heap.size (by omega)).trans HG4.out) rfl
                              go_wp2_with fail
                              refine (spec_HasPair (lo := 0) (hi := w3.heap.size) (c0_0 := c2) (closeRel r) HOKC.out HSZC.out (k : Int) (ok_nat (by omega)) (j : Int) (ok_nat (by omega)) wb HB_wb.out.size (HK3.out.later HB_wb.out (Nat.le_refl _))).mono ?_
                              rintro e wd ⟨rfl, hb9⟩
                              rw [H3.out]
                              have HB_wd := Lib.hid (HB_wb.out.trans (hb9.mono HB_wb.out.size))
                              clear hb9 pr0 pr1 pc0 pc1
                              have pr0 : wd.cell? ⟨w1.heap.size, 0, none⟩ = some (.int .i64 r.fN) := blk_cell ((HB_wd.out.block w1.heap.size (by omega)).trans HG3.out) rfl
                              have pr1 : wd.cell? ⟨w1.heap.size, 1, none⟩ = some (.slice ra r.fRows.length rc) := blk_cell ((HB_wd.out.block w1.heap.size (by omega)).trans HG3.out) rfl
                              have pc0 : wd.cell? ⟨w2.heap.size, 0, none⟩ = some (.int .i64 (closeRel r).fN) := blk_cell ((HB_wd.out.block w2.heap.size (by omega)).trans HG4.out) rfl
                              have pc1 : wd.cell? ⟨w2.heap.size, 1, none⟩ = some (.slice a2 (closeRel r).fRows.length c2) := blk_cell ((HB_wd.out.block w2.heap.size (by omega)).trans HG4.out) rfl
                              go_wp2
                              go_roundw
                              case rel => exact ⟨j + 1, by omega, by go_num, HB_wd.out⟩
                              case measure => simp [RowKit.intOf]; omega
                        · skip
                          obtain rfl : j = n := by omega
                          have hge_j : ¬ (j : Int) < r.fN := by have h := HN.out; omega
                          go_wp2
                          go_roundw
                          case rel => exact ⟨m + 1, by omega, by go_num, HB_wj.out⟩
                          case measure => simp [RowKit.intOf]; omega
                    | true =>
                      have HQ := Lib.hid hq
                      clear hq
                      have HQ2 := Lib.hid (pair_close HVB.out hl_k hl_m HQ.out)
                      go_wp2_with fail
                      refine (impl_HasPair (lo := 0) (hi := w3.heap.size) (c0_0 := rc) r HOK.out HSZ.out (k : Int) (ok_nat (by omega)) (m : Int) (ok_nat (by omega)) wm HB_wm.out.size (HR3.out.later HB_wm.out (Nat.le_refl _))).mono ?_
                      rintro e wp ⟨rfl, hb9⟩
                      rw [HQ.out]
                      have HB_wp := Lib.hid (HB_wm.out.trans (hb9.mono HB_wm.out.size))
                      clear hb9 pr0 pr1 pc0 pc1
                      have pr0 : wp.cell? ⟨w1.heap.size, 0, none⟩ = some (.int .i64 r.fN) := blk_cell ((HB_wp.out.block w1.heap.size (by omega)).trans HG3.out) rfl
                      have pr1 : wp.cell? ⟨w1.heap.size, 1, none⟩ = some (.slice ra r.fRows.length rc) := blk_cell ((HB_wp.out.block w1.heap.size (by omega)).trans HG3.out) rfl
                      have pc0 : wp.cell? ⟨w2.heap.size, 0, none⟩ = some (.int .i64 (closeRel r).fN) := blk_cell ((HB_wp.out.block w2.heap.size (by omega)).trans HG4.out) rfl
                      have pc1 : wp.cell? ⟨w2.heap.size, 1, none⟩ = some (.slice a2 (closeRel r).fRows.length c2) := blk_cell ((HB_wp.out.block w2.heap.size (by omega)).trans HG4.out) rfl
                      go_wp2_with fail
                      refine (impl_HasPair (lo := 0) (hi := w3.heap.size) (c0_0 := c2) (closeRel r) HOKC.out HSZC.out (k : Int) (ok_nat (by omega)) (m : Int) (ok_nat (by omega)) wp HB_wp.out.size (HK3.out.later HB_wp.out (Nat.le_refl _))).mono ?_
                      rintro e wq ⟨rfl, hb9⟩
                      rw [HQ2.out]
                      have HB_wq := Lib.hid (HB_wp.out.trans (hb9.mono HB_wp.out.size))
                      clear hb9 pr0 pr1 pc0 pc1
                      have pr0 : wq.cell? ⟨w1.heap.size, 0, none⟩ = some (.int .i64 r.fN) := blk_cell ((HB_wq.out.block w1.heap.size (by omega)).trans HG3.out) rfl
                      have pr1 : wq.cell? ⟨w1.heap.size, 1, none⟩ = some (.slice ra r.fRows.length rc) := blk_cell ((HB_wq.out.block w1.heap.size (by omega)).trans HG3.out) rfl
                      have pc0 : wq.cell? ⟨w2.heap.size, 0, none⟩ = some (.int .i64 (closeRel r).fN) := blk_cell ((HB_wq.out.block w2.heap.size (by omega)).trans HG4.out) rfl
                      have pc1 : wq.cell? ⟨w2.heap.size, 1, none⟩ = some (.slice a2 (closeRel r).fRows.length c2) := blk_cell ((HB_wq.out.block w2.heap.size (by omega)).trans HG4.out) rfl
                      go_wp2
                      go_loopw [8] (fun i wr => ∃ j : Nat, j ≤ n ∧ i = .int .i64 (j : Int) ∧ Below w3.heap.size w3 wr) (fun i _ => n - (RowKit.intOf i).toNat)
                      case atStart => exact ⟨0, Nat.zero_le _, rfl, HB_wq.out⟩
                      case round =>
                        obtain ⟨j, hj, rfl, hbr⟩ := hrel
                        obtain ⟨wj, rfl⟩ : ∃ wj : World, wj = wr := ⟨_, rfl⟩
                        have HB_wj := Lib.hid hbr
                        clear hbr pr0 pr1 pc0 pc1
                        have pr0 : wj.cell? ⟨w1.heap.size, 0, none⟩ = some (.int .i64 r.fN) := blk_cell ((HB_wj.out.block w1.heap.size (by omega)).trans HG3.out) rfl
                        have pr1 : wj.cell? ⟨w1.heap.size, 1, none⟩ = some (.slice ra r.fRows.length rc) := blk_cell ((HB_wj.out.block w1.heap.size (by omega)).trans HG3.out) rfl
                        have pc0 : wj.cell? ⟨w2.heap.size, 0, none⟩ = some (.int .i64 (closeRel r).fN) := blk_cell ((HB_wj.out.block w2.heap.size (by omega)).trans HG4.out) rfl
                        have pc1 : wj.cell? ⟨w2.heap.size, 1, none⟩ = some (.slice a2 (closeRel r).fRows.length c2) := blk_cell ((HB_wj.out.block w2.heap.size (by omega)).trans HG4.out) rfl
                        by_cases hltj : j < n
                        · skip
                          have hlt_j : (j : Int) < r.fN := by have h := HN.out; omega
                          have hl_j : j < r.fRows.length := by have h := HLN.out; omega
                          cases h1 : hasPair (closeRel r) (k : Int) (m : Int) with
                          | false =>
                            have H1 := Lib.hid h1
                            clear h1
                            go_wp2_with fail
                            refine (spec_HasPair (lo := 0) (hi := w3.heap.size) (c0_0 := c2) (closeRel r) HOKC.out HSZC.out (k : Int) (ok_nat (by omega)) (m : Int) (ok_nat (by omega)) wj HB_wj.out.size (HK3.out.later HB_wj.out (Nat.le_refl _))).mono ?_
                            rintro e wa ⟨rfl, hb9⟩
                            rw [H1.out]
                            have HB_wa := Lib.hid (HB_wj.out.trans (hb9.mono HB_wj.out.size))
                            clear hb9 pr0 pr1 pc0 pc1
                            have pr0 : wa.cell? ⟨w1.heap.size, 0, none⟩ = some (.int .i64 r.fN) := blk_cell ((HB_wa.out.block w1.heap.size (by omega)).trans HG3.out) rfl
                            have pr1 : wa.cell? ⟨w1.heap.size, 1, none⟩ = some (.slice ra r.fRows.length rc) := blk_cell ((HB_wa.out.block w1.heap.size (by omega)).trans HG3.out) rfl
                            have pc0 : wa.cell? ⟨w2.heap.size, 0, none⟩ = some (.int .i64 (closeRel r).fN) := blk_cell ((HB_wa.out.block w2.heap.size (by omega)).trans HG4.out) rfl
                            have pc1 : wa.cell? ⟨w2.heap.size, 1, none⟩ = some (.slice a2 (closeRel r).fRows.length c2) := blk_cell ((HB_wa.out.block w2.heap.size (by omega)).trans HG4.out) rfl
                            go_wp2
                            go_roundw
                            case rel => exact ⟨j + 1, by omega, by go_num, HB_wa.out⟩
                            case measure => simp [RowKit.intOf]; omega
                          | true =>
                            have H1 := Lib.hid h1
                            clear h1
                            go_wp2_with fail
                            refine (spec_HasPair (lo := 0) (hi := w3.heap.size) (c0_0 := c2) (closeRel r) HOKC.out HSZC.out (k : Int) (ok_nat (by omega)) (m : Int) (ok_nat (by omega)) wj HB_wj.out.size (HK3.out.later HB_wj.out (Nat.le_refl _))).mono ?_
                            rintro e wa ⟨rfl, hb9⟩
                            rw [H1.out]
                            have HB_wa := Lib.hid (HB_wj.out.trans (hb9.mono HB_wj.out.size))
                            clear hb9 pr0 pr1 pc0 pc1
                            have pr0 : wa.cell? ⟨w1.heap.size, 0, none⟩ = some (.int .i64 r.fN) := blk_cell ((HB_wa.out.block w1.heap.size (by omega)).trans HG3.out) rfl
                            have pr1 : wa.cell? ⟨w1.heap.size, 1, none⟩ = some (.slice ra r.fRows.length rc) := blk_cell ((HB_wa.out.block w1.heap.size (by omega)).trans HG3.out) rfl
                            have pc0 : wa.cell? ⟨w2.heap.size, 0, none⟩ = some (.int .i64 (closeRel r).fN) := blk_cell ((HB_wa.out.block w2.heap.size (by omega)).trans HG4.out) rfl
                            have pc1 : wa.cell? ⟨w2.heap.size, 1, none⟩ = some (.slice a2 (closeRel r).fRows.length c2) := blk_cell ((HB_wa.out.block w2.heap.size (by omega)).trans HG4.out) rfl
                            cases h2 : hasPair (closeRel r) (m : Int) (j : Int) with
                            | false =>
                              have H2 := Lib.hid h2
                              clear h2
                              go_wp2_with fail
                              refine (spec_HasPair (lo := 0) (hi := w3.heap.size) (c0_0 := c2) (closeRel r) HOKC.out HSZC.out (m : Int) (ok_nat (by omega)) (j : Int) (ok_nat (by omega)) wa HB_wa.out.size (HK3.out.later HB_wa.out (Nat.le_refl _))).mono ?_
                              rintro e wb ⟨rfl, hb9⟩
                              rw [H2.out]
                              have HB_wb := Lib.hid (HB_wa.out.trans (hb9.mono HB_wa.out.size))
                              clear hb9 pr0 pr1 pc0 pc1
                              have pr0 : wb.cell? ⟨w1.heap.size, 0, none⟩ = some (.int .i64 r.fN) := blk_cell ((HB_wb.out.block w1.heap.size (by omega)).trans HG3.out) rfl
                              have pr1 : wb.cell? ⟨w1.heap.size, 1, none⟩ = some (.slice ra r.fRows.length rc) := blk_cell ((HB_wb.out.block w1.heap.size (by omega)).trans HG3.out) rfl
                              have pc0 : wb.cell? ⟨w2.heap.size, 0, none⟩ = some (.int .i64 (closeRel r).fN) := blk_cell ((HB_wb.out.block w2.heap.size (by omega)).trans HG4.out) rfl
                              have pc1 : wb.cell? ⟨w2.heap.size, 1, none⟩ = some (.slice a2 (closeRel r).fRows.length c2) := blk_cell ((HB_wb.out.block w2.heap.size (by omega)).trans HG4.out) rfl
                              go_wp2
                              go_roundw
                              case rel => exact ⟨j + 1, by omega, by go_num, HB_wb.out⟩
                              case measure => simp [RowKit.intOf]; omega
                            | true =>
                              have H2 := Lib.hid h2
                              clear h2
                              have H3 := Lib.hid (pair_trans HVB.out hl_k hl_m hl_j H1.out H2.out)
                              go_wp2_with fail
                              refine (spec_HasPair (lo := 0) (hi := w3.heap.size) (c0_0 := c2) (closeRel r) HOKC.out HSZC.out (m : Int) (ok_nat (by omega)) (j : Int) (ok_nat (by omega)) wa HB_wa.out.size (HK3.out.later HB_wa.out (Nat.le_refl _))).mono ?_
                              rintro e wb ⟨rfl, hb9⟩
                              rw [H2.out]
                              have HB_wb := Lib.hid (HB_wa.out.trans (hb9.mono HB_wa.out.size))
                              clear hb9 pr0 pr1 pc0 pc1
                              have pr0 : wb.cell? ⟨w1.heap.size, 0, none⟩ = some (.int .i64 r.fN) := blk_cell ((HB_wb.out.block w1.heap.size (by omega)).trans HG3.out) rfl
                              have pr1 : wb.cell? ⟨w1.heap.size, 1, none⟩ = some (.slice ra r.fRows.length rc) := blk_cell ((HB_wb.out.block w1.heap.size (by omega)).trans HG3.out) rfl
                              have pc0 : wb.cell? ⟨w2.heap.size, 0, none⟩ = some (.int .i64 (closeRel r).fN) := blk_cell ((HB_wb.out.block w2.heap.size (by omega)).trans HG4.out) rfl
                              have pc1 : wb.cell? ⟨w2.heap.size, 1, none⟩ = some (.slice a2 (closeRel r).fRows.length c2) := blk_cell ((HB_wb.out.block w2.heap.size (by omega)).trans HG4.out) rfl
                              go_wp2_with fail
                              refine (spec_HasPair (lo := 0) (hi := w3.heap.size) (c0_0 := c2) (closeRel r) HOKC.out HSZC.out (k : Int) (ok_nat (by omega)) (j : Int) (ok_nat (by omega)) wb HB_wb.out.size (HK3.out.later HB_wb.out (Nat.le_refl _))).mono ?_
                              rintro e wd ⟨rfl, hb9⟩
                              rw [H3.out]
                              have HB_wd := Lib.hid (HB_wb.out.trans (hb9.mono HB_wb.out.size))
                              clear hb9 pr0 pr1 pc0 pc1
                              have pr0 : wd.cell? ⟨w1.heap.size, 0, none⟩ = some (.int .i64 r.fN) := blk_cell ((HB_wd.out.block w1.heap.size (by omega)).trans HG3.out) rfl
                              have pr1 : wd.cell? ⟨w1.heap.size, 1, none⟩ = some (.slice ra r.fRows.length rc) := blk_cell ((HB_wd.out.block w1.heap.size (by omega)).trans HG3.out) rfl
                              have pc0 : wd.cell? ⟨w2.heap.size, 0, none⟩ = some (.int .i64 (closeRel r).fN) := blk_cell ((HB_wd.out.block w2.heap.size (by omega)).trans HG4.out) rfl
                              have pc1 : wd.cell? ⟨w2.heap.size, 1, none⟩ = some (.slice a2 (closeRel r).fRows.length c2) := blk_cell ((HB_wd.out.block w2.heap.size (by omega)).trans HG4.out) rfl
                              go_wp2
                              go_roundw
                              case rel => exact ⟨j + 1, by omega, by go_num, HB_wd.out⟩
                              case measure => simp [RowKit.intOf]; omega
                        · skip
                          obtain rfl : j = n := by omega
                          have hge_j : ¬ (j : Int) < r.fN := by have h := HN.out; omega
                          go_wp2
                          go_roundw
                          case rel => exact ⟨m + 1, by omega, by go_num, HB_wj.out⟩
                          case measure => simp [RowKit.intOf]; omega
                  · skip
                    obtain rfl : m = n := by omega
                    have hge_m : ¬ (m : Int) < r.fN := by have h := HN.out; omega
                    go_wp2
                    go_roundw
                    case rel => exact ⟨k + 1, by omega, by go_num, by rw [HNX.out], HB_wm.out⟩
                    case measure => simp [RowKit.intOf]; omega
            · skip
              obtain rfl : k = n := by omega
              have hge_k : ¬ (k : Int) < r.fN := by have h := HN.out; omega
              have HAL := Lib.hid (show hasLoop r = loopTo r k by rw [loopTo_all HVB.out, HLN.out])
              generalize hlk : loopTo r k = lk at HAL ⊢
              clear hlk
              go_wp2_with fail
              refine (impl_HasLoop (lo := 0) (hi := w3.heap.size) (c0_0 := rc) r HOK.out HSZ.out wo HB_wo.out.size (HR3.out.later HB_wo.out (Nat.le_refl _))).mono ?_
              rintro e w8 ⟨rfl, hb9⟩
              rw [HAL.out]
              have HB_w8 := Lib.hid (HB_wo.out.trans (hb9.mono HB_wo.out.size))
              clear hb9 pr0 pr1 pc0 pc1
              have pr0 : w8.cell? ⟨w1.heap.size, 0, none⟩ = some (.int .i64 r.fN) := blk_cell ((HB_w8.out.block w1.heap.size (by omega)).trans HG3.out) rfl
              have pr1 : w8.cell? ⟨w1.heap.size, 1, none⟩ = some (.slice ra r.fRows.length rc) := blk_cell ((HB_w8.out.block w1.heap.size (by omega)).trans HG3.out) rfl
              have pc0 : w8.cell? ⟨w2.heap.size, 0, none⟩ = some (.int .i64 (closeRel r).fN) := blk_cell ((HB_w8.out.block w2.heap.size (by omega)).trans HG4.out) rfl
              have pc1 : w8.cell? ⟨w2.heap.size, 1, none⟩ = some (.slice a2 (closeRel r).fRows.length c2) := blk_cell ((HB_w8.out.block w2.heap.size (by omega)).trans HG4.out) rfl
              cases lk
              all_goals
                go_wp2
                go_ret
                exact ⟨rfl, HB3.out.trans (HB_w8.out.mono HB3.out.size)⟩

set_option maxRecDepth 100000 in
theorem lifted (os : Os) (started : os.Started) (H : Type) (enc : TypeId × Value → H) :
    ReturnsInHanded {} Try.checked os 4 .any (Rows.fnRelationsSpec.pre6 enc Try.prog Try.f4 Rows.fnRelationsRow.domain false) (Rows.fnRelationsSpec.post enc Try.prog Try.f4 false true false false) := by
  refine returnsInHanded_of_change_sized (C := Try.checked) own started (by kernel_rfl) Try.func4
    (ChangeSpec.witness6 (enc := enc) (C := Try.checked) false ⟨#[], #[.slice none 0 0], []⟩ 8 (by kernel_rfl) (by kernel_rfl) (by kernel_rfl) (by kernel_rfl)) ?_
  intro W base args ds gs before hval0 hW _ hsz0 _
  have hval : ∀ (j : Nat) t v, Try.f4.params[j]? = some t → args[j]? = some v → Value.okWide Try.prog W .any base t v := hval0
  obtain ⟨p, q, hA0, hV, hps, hfz, hnd⟩ := id hW
  have hA : DataW.TrodAll enc Try.prog W 0 (fun _ => true) true Try.f4.params.toList args.toList ds p := hA0
  have hsz : (DataW.weightsEach Try.prog (Try.f4.params.toList ++ Rows.fnRelationsSpec.plain.varTypes Try.prog) (ds ++ gs)).all (· ≤ reachBytes) = true := hsz0
  rw [Try.params4] at hA hval hsz
  obtain ⟨v0, vs0, d0, ds0, p0, q0, hargs, rfl, rfl, h0, r0⟩ := trodAll_cons hA
  obtain ⟨rfl, rfl, rfl⟩ := trodAll_nil r0
  obtain rfl : args = #[v0] := by cases args; simp_all
  obtain ⟨a0, len0, cap0, rfl⟩ := okWide_slice Try.underlying30 (hval 0 30 v0 rfl rfl)
  have c0 := code_of_trod Try.underlying30 Try.underlying5 (by kernel_rfl) h0
  refine (walk W c0.2).mono fun e W' ⟨he, hg⟩ => ?_
  subst he
  exact ⟨_, rfl, law_post laidOut (by kernel_rfl) rfl Try.underlying4 rfl rfl hW hg⟩

theorem said : Rows.FnRelationsSaid :=
  OpenClaim.holds_of_wide 4 Try.f4 rfl rfl rfl rfl rfl rfl rfl ⟨rfl, rfl, rfl, rfl, rfl⟩ rfl rfl rfl rfl rfl (by kernel_rfl) Try.func4 (by kernel_rfl)
    (of_decide_eq_true (by kernel_rfl)) (by unfold Func.isWrapper; first | (rw [if_pos (by decide +kernel)]; kernel_rfl) | (rw [if_neg (by decide +kernel)]; exact ⟨rfl, rfl⟩))
    (fun os started H enc _ => lifted os started H enc)

#print axioms said
end Go.Proofs.Ytkfonlejblcknaa.fnRelations
