/-
  The law FnPairs: of every drawn relations an added pair is contained, a union with the same again changes nothing, and a projection contains what it should. No condition.
-/
import Derived.Test.YtkfonlejblcknaaDrawRel3
import Derived.Test.YtkfonlejblcknaaRelMath
import Derived.Test.YtkfonlejblcknaaBig
import Derived.SizedLaws
namespace Go.Proofs.Ytkfonlejblcknaa.fnPairs
open Go.ChangeShapes Go.WideShapes Go.ChangeAt Go.RowKit Go.WideMaps Go.WideElems
open Go.ChangeMaps (open_string)
open Go.Lib


theorem addPair_ok {r : DRelation} (h : r.ok) (i k : Int) : (addPair r i k).ok := ⟨by rw [addPair_N]; exact h.1, addPair_rows h.2 i k⟩
theorem orI_ok (x y : Int) : okI (orI x y) := by
  unfold orI bits
  exact okI_wrap _
theorem unionRel_ok {a : DRelation} (h : a.ok) (b : DRelation) : (unionRel a b).ok := by
  unfold unionRel
  split
  · refine ⟨h.1, by rw [List.length_map, List.length_range]; exact h.2.1, fun x hx => ?_⟩
    obtain ⟨j, _, rfl⟩ := List.mem_map.1 hx
    unfold uniF
    split
    · exact orI_ok _ _
    · by_cases hj : j < a.fRows.length
      · rw [List.getD_eq_getElem?_getD, List.getElem?_eq_getElem hj]; exact h.2.2 _ (List.getElem_mem hj)
      · rw [List.getD_eq_getElem?_getD, List.getElem?_eq_none (by omega)]; exact ⟨by decide, by decide⟩
  · exact h
theorem projRel_ok {r : DRelation} {l : List Int} : (projRel r l).ok := by
  by_cases h : relB r = true ∧ l.length ≤ 16
  · have hv := proj_valid h.1 h.2
    obtain ⟨hn, hN, hr⟩ := relB_rows hv
    refine ⟨⟨by rw [hN]; omega, by rw [hN]; omega⟩, by omega, fun x hx => ?_⟩
    obtain ⟨j, hj, rfl⟩ := List.getElem_of_mem hx
    have := hr j hj
    rw [List.getD_eq_getElem?_getD, List.getElem?_eq_getElem hj] at this
    have hp := pow_in hn
    exact ⟨by have := this.1; simp at this; omega, by have := this.2; simp at this; omega⟩
  · rw [proj_none h]
    exact ⟨⟨by decide, by decide⟩, by simp, fun x hx => by simp at hx⟩
theorem open_at {lo hi : Nat} {w : World} {l : List Int} {b off m : Nat} (h : Sl lo hi w 1 l.length (rowsI l) (some ⟨b, off, none⟩)) (hm : m < l.length) : w.cell? ⟨b, off + m, none⟩ = some (.int .i64 (l.getD m default)) := by
  obtain ⟨b', off', hbo, _, _, hc⟩ := h.at m hm
  simp only [Option.some.injEq, Addr.mk.injEq, and_true] at hbo
  obtain ⟨rfl, rfl⟩ := hbo
  rw [Nat.mul_one] at hc
  exact open_Int hc
theorem three_eq : emptyRel 3 = ⟨3, [0, 0, 0]⟩ := rfl
theorem three_ok : (⟨3, [0, 0, 0]⟩ : DRelation).ok := ⟨⟨by decide, by decide⟩, by decide, fun x hx => by
  simp only [List.mem_cons, List.not_mem_nil, or_false] at hx
  rcases hx with rfl | rfl | rfl <;> exact ⟨by decide, by decide⟩⟩
theorem three_sz : (⟨3, [0, 0, 0]⟩ : DRelation).sz ≤ 1048576 := by unfold DRelation.sz; rw [lsz_zero]; decide
theorem three_sl (w : World) : Sl 0 (w.heap.size + 1) (w.alloc (.cells #[.int .i64 0, .int .i64 0, .int .i64 0] 3)) 1 3 (rowsI [0, 0, 0]) (some ⟨w.heap.size, 0, none⟩) := by
  refine Sl.row (Nat.zero_le _) (Nat.lt_succ_self _) fun k hk j hj => ?_
  obtain rfl : j = 0 := by omega
  rw [World.cell?_alloc_new]
  match k, hk with
  | 0, _ => exact ⟨_, rfl, .lit _⟩
  | 1, _ => exact ⟨_, rfl, .lit _⟩
  | 2, _ => exact ⟨_, rfl, .lit _⟩

set_option maxHeartbeats 3200000 in
set_option maxRecDepth 100000 in
theorem walk {a : Option Addr} {len cap : Nat} (w : World) (hc : Code w.heap.size w a len) :
    Calls Try.prog 5 #[.slice a len cap] w fun e w' => e = .returned (.bool true) ∧ Below w.heap.size w w' := by
  have HC := Lib.hid hc
  clear hc
  by_cases hbig : 1048576 < len
  · go_enter Try.func5, Try.ntmps5
    go_wp2_with fail
    refine (big_yes w hbig).mono ?_
    rintro e w' ⟨rfl, rfl⟩
    go_wp2
    go_ret
    exact ⟨rfl, Below.refl _ _⟩
  · have hsm : len ≤ 1048576 := by omega
    clear hbig
    go_enter Try.func5, Try.ntmps5
    go_wp2_with fail
    refine (big_no w hsm).mono ?_
    rintro e w' ⟨rfl, rfl⟩
    go_wp2_with fail
    refine (spec_DrawAddPair w (Nat.le_refl _) hsm HC.out).mono ?_
    rintro e w1 ⟨r, ra, rc, i, k, rfl, hsr, hi, hk, ho1, hb1⟩
    have HOK := Lib.hid hsr.ok
    have HSZ := Lib.hid hsr.sz
    have HI := Lib.hid (show okI i by unfold okI; omega)
    have HK := Lib.hid (show okI k by unfold okI; omega)
    have HB1 := Lib.hid hb1
    have HS1 := Lib.hid (Sl.of (ho1.lies (lo := 0) (hi := w1.heap.size) (fun y hy => ⟨Nat.zero_le _, hy.2⟩)))
    clear hsr ho1 hb1 hi hk
    have HOKC := Lib.hid (addPair_ok HOK.out i k)
    have HSZC := Lib.hid (addPair_sz HSZ.out i k)
    obtain ⟨vp, hvp⟩ : ∃ vp, hasPair (addPair r i k) i k = vp := ⟨_, rfl⟩
    have HVP := Lib.hid hvp
    clear hvp
    go_wp2_with fail
    refine (impl_AddPair (lo := 0) (hi := w1.heap.size) (c0_0 := rc) r HOK.out HSZ.out i HI.out k HK.out (w1.alloc (.cells #[.int .i64 (DRelation.fN r), .slice ra (DRelation.fRows r).length rc] 27)) (by simp) (HS1.out.later ((Below.refl _ w1).alloc (Nat.le_refl _) _) (Nat.le_refl _))).mono ?_
    rintro e w2 ⟨a2, c2, rfl, ho2, hb2⟩
    have hz12 : w1.heap.size + 1 ≤ w2.heap.size := Nat.le_trans (by simp) hb2.size
    have HG3a := Lib.hid ((hb2.block w1.heap.size (by simp)).trans (blk_new rfl))
    have HB2 := Lib.hid ((HB1.out.alloc HB1.out.size (.cells #[.int .i64 (DRelation.fN r), .slice ra (DRelation.fRows r).length rc] 27)).trans (hb2.mono (Nat.le_trans HB1.out.size (by simp))))
    have HR2 := Lib.hid ((HS1.out.later ((Below.refl _ w1).alloc (Nat.le_refl _) (.cells #[.int .i64 (DRelation.fN r), .slice ra (DRelation.fRows r).length rc] 27)) (Nat.le_refl _)).later hb2 (by simp))
    have HK2 := Lib.hid (Sl.of (ho2.lies (lo := 0) (hi := w2.heap.size) (fun y hy => ⟨Nat.zero_le _, hy.2⟩)))
    have hw1 : w.heap.size ≤ w1.heap.size := HB1.out.size
    clear ho2 hb2 HS1 HB1
    go_wp2_with fail
    generalize hw3 : World.alloc w2 (.cells #[.int .i64 (DRelation.fN (addPair r i k)), .slice a2 (DRelation.fRows (addPair r i k)).length c2] 27) = w3
    have hs3 : w3.heap.size = w2.heap.size + 1 := by rw [← hw3]; simp
    have HG3 := Lib.hid (show w3.heap[w1.heap.size]? = some (.cells #[.int .i64 (DRelation.fN r), .slice ra (DRelation.fRows r).length rc] 27) by rw [← hw3]; exact blk_alloc (by omega) HG3a.out)
    have HG4 := Lib.hid (show w3.heap[w2.heap.size]? = some (.cells #[.int .i64 (DRelation.fN (addPair r i k)), .slice a2 (DRelation.fRows (addPair r i k)).length c2] 27) by rw [← hw3]; exact blk_new rfl)
    have HB3 := Lib.hid (show Below w.heap.size w w3 by rw [← hw3]; exact HB2.out.alloc HB2.out.size _)
    have HR3 := Lib.hid (show Sl 0 w3.heap.size w3 1 r.fRows.length (rowsI r.fRows) ra by rw [hs3, ← hw3]; exact (HR2.out.later ((Below.refl _ w2).alloc (Nat.le_refl _) _) (by omega)).mono (Nat.le_refl _) (by omega))
    have HK3 := Lib.hid (show Sl 0 w3.heap.size w3 1 (addPair r i k).fRows.length (rowsI (addPair r i k).fRows) a2 by rw [hs3, ← hw3]; exact (HK2.out.later ((Below.refl _ w2).alloc (Nat.le_refl _) _) (Nat.le_refl _)).mono (Nat.le_refl _) (by omega))
    clear HG3a HB2 HR2 HK2 hw3
    refine wp_region_freeJ [([], .none, []), ([], .none, []), ([], .none, []), ([], .none, []), ([1, 2, 3], .none, []), ([0, 4], .none, []), ([5], .none, []), ([6], .none, []), ([7], .none, []), ([7], .none, []), ([7], .none, []), ([7, 8, 9, 10], .none, []), ([7], .none, []), ([7], .none, []), ([7], .none, []), ([7, 12, 13, 14], .none, []), ([7, 11, 15], .none, []), ([7, 16], .none, [])] [17] [] (fun _ => False) (fun _ => True) (fun _ => 0) (fun jq9 V L H wx => match jq9 with | 0 => V 0 = .agg #[.int .i64 (DRelation.fN (addPair r i k)), .slice a2 (DRelation.fRows (addPair r i k)).length c2] | 1 => V 1 = .agg #[.int .i64 (DRelation.fN r), .slice ra (DRelation.fRows r).length rc] | 2 => V 2 = .int .i64 i | 3 => V 3 = .int .i64 k | 4 => ∃ a9 c9, V 4 = .agg #[.int .i64 (DRelation.fN (addPair r i k)), .slice a9 (DRelation.fRows (addPair r i k)).length c9] ∧ Own wx (fun y => L ≤ y ∧ y < H) (.sl 1 (DRelation.fRows (addPair r i k)).length (rowsI (DRelation.fRows (addPair r i k)))) (.slice a9 (DRelation.fRows (addPair r i k)).length c9) | 5 => V 5 = .bool true | 6 => V 6 = .bool false | 7 => V 7 = .bool false | 8 => V 8 = .agg #[.int .i64 (DRelation.fN (addPair r i k)), .slice a2 (DRelation.fRows (addPair r i k)).length c2] | 9 => V 9 = .int .i64 i | 10 => V 10 = .int .i64 k | 11 => V 11 = .bool vp | 12 => V 12 = .agg #[.int .i64 (DRelation.fN (addPair r i k)), .slice a2 (DRelation.fRows (addPair r i k)).length c2] | 13 => V 13 = .int .i64 i | 14 => V 14 = .int .i64 k | 15 => V 15 = .bool vp | 16 => V 16 = .bool false | 17 => V 17 = .bool false | _ => True) (by kernel_rfl) (by kernel_rfl) ?obs (fun _ h => h.elim) trivial (fun _ _ _ _ _ => trivial) ?loc ?lasts ?walk
    case obs =>
      trivial
    case loc =>
      intro k V V' L H wx h0 h1 hG
      match k with
      | 0 =>
        try dsimp only at hG ⊢
        rw [← h0]
        exact hG
      | 1 =>
        try dsimp only at hG ⊢
        rw [← h0]
        exact hG
      | 2 =>
        try dsimp only at hG ⊢
        rw [← h0]
        exact hG
      | 3 =>
        try dsimp only at hG ⊢
        rw [← h0]
        exact hG
      | 4 =>
        try dsimp only at hG ⊢
        rw [← h0]
        exact hG
      | 5 =>
        try dsimp only at hG ⊢
        rw [← h0]
        exact hG
      | 6 =>
        try dsimp only at hG ⊢
        rw [← h0]
        exact hG
      | 7 =>
        try dsimp only at hG ⊢
        rw [← h0]
        exact hG
      | 8 =>
        try dsimp only at hG ⊢
        rw [← h0]
        exact hG
      | 9 =>
        try dsimp only at hG ⊢
        rw [← h0]
        exact hG
      | 10 =>
        try dsimp only at hG ⊢
        rw [← h0]
        exact hG
      | 11 =>
        try dsimp only at hG ⊢
        rw [← h0]
        exact hG
      | 12 =>
        try dsimp only at hG ⊢
        rw [← h0]
        exact hG
      | 13 =>
        try dsimp only at hG ⊢
        rw [← h0]
        exact hG
      | 14 =>
        try dsimp only at hG ⊢
        rw [← h0]
        exact hG
      | 15 =>
        try dsimp only at hG ⊢
        rw [← h0]
        exact hG
      | 16 =>
        try dsimp only at hG ⊢
        rw [← h0]
        exact hG
      | 17 =>
        try dsimp only at hG ⊢
        rw [← h0]
        exact hG
      | n + 18 => trivial
    case lasts =>
      intro i hi V L H wx wy hB hH hk
      match i, hi with
      | 0, _ => exact fun h => h
      | 1, _ => exact fun h => h
      | 2, _ => exact fun h => h
      | 3, _ => exact fun h => h
      | 4, _ => exact fun ⟨a9, c9, hv, ho0⟩ => ⟨a9, c9, hv, ho0.kept (hk.sub (fun y hy => .inr hy))⟩
      | 5, _ => exact fun h => h
      | 6, _ => exact fun h => h
      | 7, _ => exact fun h => h
      | 8, _ => exact fun h => h
      | 9, _ => exact fun h => h
      | 10, _ => exact fun h => h
      | 11, _ => exact fun h => h
      | 12, _ => exact fun h => h
      | 13, _ => exact fun h => h
      | 14, _ => exact fun h => h
      | 15, _ => exact fun h => h
      | 16, _ => exact fun h => h
      | 17, _ => exact fun h => h
      | n + 18, hn => exact absurd hn (by simp)
    case walk =>
      simp only [freeJ, effJ, Nat.reduceAdd, Act.put, List.setIfInBounds_toArray, List.set_cons_succ, List.set_cons_zero]
      refine ⟨?_, ?_, ?_, ?_, ?_, ?_, ?_, ?_, ?_, ?_, ?_, ?_, ?_, ?_, ?_, ?_, ?_, ?_, ?_⟩
      · intro V L H w5 hw hk hj hd
        clear hd
        have hblk0 := (hk.2 w2.heap.size ⟨by omega, fun h => h, trivial⟩ (by omega)).trans HG4.out
        have hc0 := blk_cell (j := 0) (v := .int .i64 (DRelation.fN (addPair r i k))) hblk0 rfl
        have hc1 := blk_cell (j := 1) (v := .slice a2 (DRelation.fRows (addPair r i k)).length c2) hblk0 rfl
        clear hblk0
        go_wp2_with fail
        exact freePost _ rfl ⟨⟨WritesF.refl _ _, hj⟩, upd_self⟩
      · intro V L H w5 hw hk hj hd
        clear hd
        have hblk0 := (hk.2 w1.heap.size ⟨by omega, fun h => h, trivial⟩ (by omega)).trans HG3.out
        have hc0 := blk_cell (j := 0) (v := .int .i64 (DRelation.fN r)) hblk0 rfl
        have hc1 := blk_cell (j := 1) (v := .slice ra (DRelation.fRows r).length rc) hblk0 rfl
        clear hblk0
        go_wp2_with fail
        exact freePost _ rfl ⟨⟨WritesF.refl _ _, hj⟩, upd_self⟩
      · intro V L H w5 hw hk hj hd
        clear hd
        go_wp2_with fail
        exact freePost _ rfl ⟨⟨WritesF.refl _ _, hj⟩, upd_self⟩
      · intro V L H w5 hw hk hj hd
        clear hd
        go_wp2_with fail
        exact freePost _ rfl ⟨⟨WritesF.refl _ _, hj⟩, upd_self⟩
      · intro V L H w5 hw hk hj hd
        obtain ⟨⟨hL1, hM1, hH1, hv1⟩, ⟨hL2, hM2, hH2, hv2⟩, ⟨hL3, hM3, hH3, hv3⟩, -⟩ := hd
        rw [hv1, hv2, hv3]
        have HV1 := Lib.hid hv1
        have HV2 := Lib.hid hv2
        have HV3 := Lib.hid hv3
        clear hv1 hv2 hv3
        go_wp2_with fail
        refine (spec_AddPair (lo := 0) (hi := w3.heap.size) (c0_0 := rc) r HOK.out HSZ.out i HI.out k HK.out _ hw.size (HR3.out.frame (fun b o h1 h2 => hk.cell (p := ⟨b, o, none⟩) ⟨(by show b < _; omega), fun h => h, trivial⟩ (by show b < _; omega)))).mono ?_
        rintro e w6 ⟨a9, c9, rfl, ho9, hb2⟩
        go_wp2_with fail
        exact freePost _ rfl ⟨⟨(WritesF.refl _ _).later hb2, trivial⟩, Exists.intro a9 (Exists.intro c9 (And.intro (upd_self) (ho9)))⟩
      · intro V L H w5 hw hk hj hd
        obtain ⟨⟨hL0, hM0, hH0, hv0⟩, ⟨hL4, hM4, hH4, a9, c9, hv4, ho4_0⟩, -⟩ := hd
        rw [hv0, hv4]
        have HV0 := Lib.hid hv0
        have HV4 := Lib.hid hv4
        clear hv0 hv4
        go_wp2_with fail
        refine (spec_EqualRelation (lo := 0) (hi := w5.heap.size) (c0_0 := c2) (c1_0 := c9) (addPair r i k) HOKC.out HSZC.out (addPair r i k) HOKC.out HSZC.out _ (Nat.le_refl _) ((HK3.out.frame (fun b o h1 h2 => hk.cell (p := ⟨b, o, none⟩) ⟨(by show b < _; omega), fun h => h, trivial⟩ (by show b < _; omega))).mono (Nat.le_refl _) hw.size) (Sl.of (ho4_0.lies (lo := 0) (hi := w5.heap.size) (fun y hy => ⟨Nat.zero_le _, by omega⟩)))).mono ?_
        rintro e w6 ⟨rfl, hb2⟩
        rw [relEq_refl]
        go_wp2_with fail
        exact freePost _ rfl ⟨⟨(WritesF.refl _ _).later hb2, trivial⟩, upd_self⟩
      · intro V L H w5 hw hk hj hd
        obtain ⟨⟨hL5, hM5, hH5, hv5⟩, -⟩ := hd
        rw [hv5]
        have HV5 := Lib.hid hv5
        clear hv5
        go_wp2_with fail
        exact freePost _ rfl ⟨⟨WritesF.refl _ _, hj⟩, upd_self⟩
      · intro V L H w5 hw hk hj hd
        obtain ⟨⟨hL6, hM6, hH6, hv6⟩, -⟩ := hd
        rw [hv6]
        have HV6 := Lib.hid hv6
        clear hv6
        go_wp2_with fail
        exact freePost _ rfl ⟨⟨WritesF.refl _ _, hj⟩, upd_self⟩
      · intro V L H w5 hw hk hj hd
        obtain ⟨⟨hL7, hM7, hH7, hv7⟩, -⟩ := hd
        rw [hv7]
        have HV7 := Lib.hid hv7
        clear hv7
        have hblk0 := (hk.2 w2.heap.size ⟨by omega, fun h => h, trivial⟩ (by omega)).trans HG4.out
        have hc0 := blk_cell (j := 0) (v := .int .i64 (DRelation.fN (addPair r i k))) hblk0 rfl
        have hc1 := blk_cell (j := 1) (v := .slice a2 (DRelation.fRows (addPair r i k)).length c2) hblk0 rfl
        clear hblk0
        go_wp2_with fail
        exact freePost _ rfl ⟨⟨WritesF.refl _ _, hj⟩, upd_self⟩
      · intro V L H w5 hw hk hj hd
        obtain ⟨⟨hL7, hM7, hH7, hv7⟩, -⟩ := hd
        rw [hv7]
        have HV7 := Lib.hid hv7
        clear hv7
        go_wp2_with fail
        exact freePost _ rfl ⟨⟨WritesF.refl _ _, hj⟩, upd_self⟩
      · intro V L H w5 hw hk hj hd
        obtain ⟨⟨hL7, hM7, hH7, hv7⟩, -⟩ := hd
        rw [hv7]
        have HV7 := Lib.hid hv7
        clear hv7
        go_wp2_with fail
        exact freePost _ rfl ⟨⟨WritesF.refl _ _, hj⟩, upd_self⟩
      · intro V L H w5 hw hk hj hd
        obtain ⟨⟨hL7, hM7, hH7, hv7⟩, ⟨hL8, hM8, hH8, hv8⟩, ⟨hL9, hM9, hH9, hv9⟩, ⟨hL10, hM10, hH10, hv10⟩, -⟩ := hd
        rw [hv7, hv8, hv9, hv10]
        have HV7 := Lib.hid hv7
        have HV8 := Lib.hid hv8
        have HV9 := Lib.hid hv9
        have HV10 := Lib.hid hv10
        clear hv7 hv8 hv9 hv10
        go_wp2_with fail
        refine (impl_HasPair (lo := 0) (hi := w3.heap.size) (c0_0 := c2) (addPair r i k) HOKC.out HSZC.out i HI.out k HK.out _ hw.size (HK3.out.frame (fun b o h1 h2 => hk.cell (p := ⟨b, o, none⟩) ⟨(by show b < _; omega), fun h => h, trivial⟩ (by show b < _; omega)))).mono ?_
        rintro e w6 ⟨rfl, hb2⟩
        rw [HVP.out]
        go_wp2_with fail
        exact freePost _ rfl ⟨⟨(WritesF.refl _ _).later hb2, trivial⟩, upd_self⟩
      · intro V L H w5 hw hk hj hd
        obtain ⟨⟨hL7, hM7, hH7, hv7⟩, -⟩ := hd
        rw [hv7]
        have HV7 := Lib.hid hv7
        clear hv7
        have hblk0 := (hk.2 w2.heap.size ⟨by omega, fun h => h, trivial⟩ (by omega)).trans HG4.out
        have hc0 := blk_cell (j := 0) (v := .int .i64 (DRelation.fN (addPair r i k))) hblk0 rfl
        have hc1 := blk_cell (j := 1) (v := .slice a2 (DRelation.fRows (addPair r i k)).length c2) hblk0 rfl
        clear hblk0
        go_wp2_with fail
        exact freePost _ rfl ⟨⟨WritesF.refl _ _, hj⟩, upd_self⟩
      · intro V L H w5 hw hk hj hd
        obtain ⟨⟨hL7, hM7, hH7, hv7⟩, -⟩ := hd
        rw [hv7]
        have HV7 := Lib.hid hv7
        clear hv7
        go_wp2_with fail
        exact freePost _ rfl ⟨⟨WritesF.refl _ _, hj⟩, upd_self⟩
      · intro V L H w5 hw hk hj hd
        obtain ⟨⟨hL7, hM7, hH7, hv7⟩, -⟩ := hd
        rw [hv7]
        have HV7 := Lib.hid hv7
        clear hv7
        go_wp2_with fail
        exact freePost _ rfl ⟨⟨WritesF.refl _ _, hj⟩, upd_self⟩
      · intro V L H w5 hw hk hj hd
        obtain ⟨⟨hL7, hM7, hH7, hv7⟩, ⟨hL12, hM12, hH12, hv12⟩, ⟨hL13, hM13, hH13, hv13⟩, ⟨hL14, hM14, hH14, hv14⟩, -⟩ := hd
        rw [hv7, hv12, hv13, hv14]
        have HV7 := Lib.hid hv7
        have HV12 := Lib.hid hv12
        have HV13 := Lib.hid hv13
        have HV14 := Lib.hid hv14
        clear hv7 hv12 hv13 hv14
        go_wp2_with fail
        refine (spec_HasPair (lo := 0) (hi := w3.heap.size) (c0_0 := c2) (addPair r i k) HOKC.out HSZC.out i HI.out k HK.out _ hw.size (HK3.out.frame (fun b o h1 h2 => hk.cell (p := ⟨b, o, none⟩) ⟨(by show b < _; omega), fun h => h, trivial⟩ (by show b < _; omega)))).mono ?_
        rintro e w6 ⟨rfl, hb2⟩
        rw [HVP.out]
        go_wp2_with fail
        exact freePost _ rfl ⟨⟨(WritesF.refl _ _).later hb2, trivial⟩, upd_self⟩
      · intro V L H w5 hw hk hj hd
        obtain ⟨⟨hL7, hM7, hH7, hv7⟩, ⟨hL11, hM11, hH11, hv11⟩, ⟨hL15, hM15, hH15, hv15⟩, -⟩ := hd
        rw [hv7, hv11, hv15]
        have HV7 := Lib.hid hv7
        have HV11 := Lib.hid hv11
        have HV15 := Lib.hid hv15
        clear hv7 hv11 hv15
        go_wp2_with fail
        cases vp <;> exact freePost _ rfl ⟨⟨WritesF.refl _ _, hj⟩, upd_self⟩
      · intro V L H w5 hw hk hj hd
        obtain ⟨⟨hL7, hM7, hH7, hv7⟩, ⟨hL16, hM16, hH16, hv16⟩, -⟩ := hd
        rw [hv7, hv16]
        have HV7 := Lib.hid hv7
        have HV16 := Lib.hid hv16
        clear hv7 hv16
        go_wp2_with fail
        exact freePost _ rfl ⟨⟨WritesF.refl _ _, hj⟩, upd_self⟩
      · intro V L H w5 hw hj hd hap hdead
        obtain ⟨⟨hL17, hM17, hH17, hv17⟩, -⟩ := hd
        rw [hv17]
        clear hv17
        have hbw := HB3.out.trans ((fa_none hw).mono HB3.out.size)
        clear hw hj hap hdead HG3 HG4 HB3 HR3 HK3 HOK HSZ HOKC HSZC HI HK HVP
        have HBW := Lib.hid hbw
        clear hbw
        clear hs3
        go_wp2_with fail
        refine (spec_DrawUnionRelation w5 HBW.out.size hsm (HC.out.below HBW.out)).mono ?_
        rintro e w6 ⟨x, xa, xc, y, ya, yc, rfl, hsx, hsy, hox, hoy, hb1⟩
        have HOX := Lib.hid hsx.ok
        have HZX := Lib.hid hsx.sz
        have HOY := Lib.hid hsy.ok
        have HZY := Lib.hid hsy.sz
        have hz56 : w5.heap.size ≤ w6.heap.size := hb1.size
        have HB6 := Lib.hid (HBW.out.trans (hb1.mono HBW.out.size))
        have HX6 := Lib.hid (Sl.of (hox.lies (lo := 0) (hi := w6.heap.size) (fun y hy => ⟨Nat.zero_le _, hy.2⟩)))
        have HY6 := Lib.hid (Sl.of (hoy.lies (lo := 0) (hi := w6.heap.size) (fun y hy => ⟨Nat.zero_le _, hy.2⟩)))
        have HOU := Lib.hid (unionRel_ok HOX.out y)
        have HZU := Lib.hid (unionRel_sz HZX.out y)
        clear hsx hsy hox hoy hb1
        have HBA := Lib.hid (((Below.refl w6.heap.size w6).alloc (Nat.le_refl _) (.cells #[.int .i64 (DRelation.fN x), .slice xa (DRelation.fRows x).length xc] 27)).alloc (by simp) (.cells #[.int .i64 (DRelation.fN y), .slice ya (DRelation.fRows y).length yc] 27))
        go_wp2_with fail
        refine (impl_UnionRelation (lo := 0) (hi := w6.heap.size) (c0_0 := xc) (c1_0 := yc) x HOX.out HZX.out y HOY.out HZY.out ((w6.alloc (.cells #[.int .i64 (DRelation.fN x), .slice xa (DRelation.fRows x).length xc] 27)).alloc (.cells #[.int .i64 (DRelation.fN y), .slice ya (DRelation.fRows y).length yc] 27)) (by simp; omega) (HX6.out.later HBA.out (Nat.le_refl _)) (HY6.out.later HBA.out (Nat.le_refl _))).mono ?_
        rintro e w7 ⟨a7, c7, rfl, ho2, hb2⟩
        have hz67 : w6.heap.size + 2 ≤ w7.heap.size := Nat.le_trans (by simp) hb2.size
        have hb3 := HBA.out.trans (hb2.mono (by simp; omega))
        have HGX := Lib.hid ((hb2.block w6.heap.size (by simp; omega)).trans (blk_alloc (by simp) (blk_new rfl)))
        have HGY := Lib.hid ((hb2.block (w6.heap.size + 1) (by simp)).trans (blk_new (by simp)))
        have HB7 := Lib.hid (HB6.out.trans (hb3.mono HB6.out.size))
        have HX7 := Lib.hid (HX6.out.later hb3 (Nat.le_refl _))
        have HY7 := Lib.hid (HY6.out.later hb3 (Nat.le_refl _))
        have HU7 := Lib.hid (Sl.of (ho2.lies (lo := 0) (hi := w7.heap.size) (fun y hy => ⟨Nat.zero_le _, hy.2⟩)))
        clear ho2 hb2 hb3 HX6 HY6 HB6 HBA
        go_wp2_with fail
        generalize hw8 : World.alloc w7 (.cells #[.int .i64 (DRelation.fN (unionRel x y)), .slice a7 (DRelation.fRows (unionRel x y)).length c7] 27) = w8
        have hs8 : w8.heap.size = w7.heap.size + 1 := by rw [← hw8]; simp
        have HGX8 := Lib.hid (show w8.heap[w6.heap.size]? = some (.cells #[.int .i64 (DRelation.fN x), .slice xa (DRelation.fRows x).length xc] 27) by rw [← hw8]; exact blk_alloc (by omega) HGX.out)
        have HGY8 := Lib.hid (show w8.heap[w6.heap.size + 1]? = some (.cells #[.int .i64 (DRelation.fN y), .slice ya (DRelation.fRows y).length yc] 27) by rw [← hw8]; exact blk_alloc (by omega) HGY.out)
        have HGU8 := Lib.hid (show w8.heap[w7.heap.size]? = some (.cells #[.int .i64 (DRelation.fN (unionRel x y)), .slice a7 (DRelation.fRows (unionRel x y)).length c7] 27) by rw [← hw8]; exact blk_new rfl)
        have HB8 := Lib.hid (show Below w.heap.size w w8 by rw [← hw8]; exact HB7.out.alloc HB7.out.size _)
        have HX8 := Lib.hid (show Sl 0 w8.heap.size w8 1 x.fRows.length (rowsI x.fRows) xa by rw [hs8, ← hw8]; exact (HX7.out.later ((Below.refl _ w7).alloc (Nat.le_refl _) _) (by omega)).mono (Nat.le_refl _) (by omega))
        have HY8 := Lib.hid (show Sl 0 w8.heap.size w8 1 y.fRows.length (rowsI y.fRows) ya by rw [hs8, ← hw8]; exact (HY7.out.later ((Below.refl _ w7).alloc (Nat.le_refl _) _) (by omega)).mono (Nat.le_refl _) (by omega))
        have HU8 := Lib.hid (show Sl 0 w8.heap.size w8 1 (unionRel x y).fRows.length (rowsI (unionRel x y).fRows) a7 by rw [hs8, ← hw8]; exact (HU7.out.later ((Below.refl _ w7).alloc (Nat.le_refl _) _) (Nat.le_refl _)).mono (Nat.le_refl _) (by omega))
        clear HGX HGY HB7 HX7 HY7 HU7 hw8
        refine wp_region_freeJ [([], .none, []), ([], .none, []), ([], .none, []), ([1, 2], .none, []), ([0, 3], .none, []), ([4], .none, []), ([5], .none, []), ([6], .none, []), ([6], .none, []), ([6, 7, 8], .none, []), ([6], .none, []), ([6, 9, 10], .none, []), ([6, 11], .none, []), ([6, 12], .none, [])] [13] [] (fun _ => False) (fun _ => True) (fun _ => 0) (fun jq9 V L H wx => match jq9 with | 0 => V 0 = .agg #[.int .i64 (DRelation.fN (unionRel x y)), .slice a7 (DRelation.fRows (unionRel x y)).length c7] | 1 => V 1 = .agg #[.int .i64 (DRelation.fN x), .slice xa (DRelation.fRows x).length xc] | 2 => V 2 = .agg #[.int .i64 (DRelation.fN y), .slice ya (DRelation.fRows y).length yc] | 3 => ∃ a9 c9, V 3 = .agg #[.int .i64 (DRelation.fN (unionRel x y)), .slice a9 (DRelation.fRows (unionRel x y)).length c9] ∧ Own wx (fun y => L ≤ y ∧ y < H) (.sl 1 (DRelation.fRows (unionRel x y)).length (rowsI (DRelation.fRows (unionRel x y)))) (.slice a9 (DRelation.fRows (unionRel x y)).length c9) | 4 => V 4 = .bool true | 5 => V 5 = .bool false | 6 => V 6 = .bool false | 7 => V 7 = .agg #[.int .i64 (DRelation.fN (unionRel x y)), .slice a7 (DRelation.fRows (unionRel x y)).length c7] | 8 => V 8 = .agg #[.int .i64 (DRelation.fN y), .slice ya (DRelation.fRows y).length yc] | 9 => ∃ a9 c9, V 9 = .agg #[.int .i64 (DRelation.fN (unionRel x y)), .slice a9 (DRelation.fRows (unionRel x y)).length c9] ∧ Own wx (fun y => L ≤ y ∧ y < H) (.sl 1 (DRelation.fRows (unionRel x y)).length (rowsI (DRelation.fRows (unionRel x y)))) (.slice a9 (DRelation.fRows (unionRel x y)).length c9) | 10 => V 10 = .agg #[.int .i64 (DRelation.fN (unionRel x y)), .slice a7 (DRelation.fRows (unionRel x y)).length c7] | 11 => V 11 = .bool true | 12 => V 12 = .bool false | 13 => V 13 = .bool false | _ => True) (by kernel_rfl) (by kernel_rfl) ?obs (fun _ h => h.elim) trivial (fun _ _ _ _ _ => trivial) ?loc ?lasts ?walk
        case obs =>
          trivial
        case loc =>
          intro k V V' L H wx h0 h1 hG
          match k with
          | 0 =>
            try dsimp only at hG ⊢
            rw [← h0]
            exact hG
          | 1 =>
            try dsimp only at hG ⊢
            rw [← h0]
            exact hG
          | 2 =>
            try dsimp only at hG ⊢
            rw [← h0]
            exact hG
          | 3 =>
            try dsimp only at hG ⊢
            rw [← h0]
            exact hG
          | 4 =>
            try dsimp only at hG ⊢
            rw [← h0]
            exact hG
          | 5 =>
            try dsimp only at hG ⊢
            rw [← h0]
            exact hG
          | 6 =>
            try dsimp only at hG ⊢
            rw [← h0]
            exact hG
          | 7 =>
            try dsimp only at hG ⊢
            rw [← h0]
            exact hG
          | 8 =>
            try dsimp only at hG ⊢
            rw [← h0]
            exact hG
          | 9 =>
            try dsimp only at hG ⊢
            rw [← h0]
            exact hG
          | 10 =>
            try dsimp only at hG ⊢
            rw [← h0]
            exact hG
          | 11 =>
            try dsimp only at hG ⊢
            rw [← h0]
            exact hG
          | 12 =>
            try dsimp only at hG ⊢
            rw [← h0]
            exact hG
          | 13 =>
            try dsimp only at hG ⊢
            rw [← h0]
            exact hG
          | n + 14 => trivial
        case lasts =>
          intro i hi V L H wx wy hB hH hk
          match i, hi with
          | 0, _ => exact fun h => h
          | 1, _ => exact fun h => h
          | 2, _ => exact fun h => h
          | 3, _ => exact fun ⟨a9, c9, hv, ho0⟩ => ⟨a9, c9, hv, ho0.kept (hk.sub (fun y hy => .inr hy))⟩
          | 4, _ => exact fun h => h
          | 5, _ => exact fun h => h
          | 6, _ => exact fun h => h
          | 7, _ => exact fun h => h
          | 8, _ => exact fun h => h
          | 9, _ => exact fun ⟨a9, c9, hv, ho0⟩ => ⟨a9, c9, hv, ho0.kept (hk.sub (fun y hy => .inr hy))⟩
          | 10, _ => exact fun h => h
          | 11, _ => exact fun h => h
          | 12, _ => exact fun h => h
          | 13, _ => exact fun h => h
          | n + 14, hn => exact absurd hn (by simp)
        case walk =>
          simp only [freeJ, effJ, Nat.reduceAdd, Act.put, List.setIfInBounds_toArray, List.set_cons_succ, List.set_cons_zero]
          refine ⟨?_, ?_, ?_, ?_, ?_, ?_, ?_, ?_, ?_, ?_, ?_, ?_, ?_, ?_, ?_⟩
          · intro V L H w9 hw hk hj hd
            clear hd
            have hblk0 := (hk.2 w7.heap.size ⟨by omega, fun h => h, trivial⟩ (by omega)).trans HGU8.out
            have hc0 := blk_cell (j := 0) (v := .int .i64 (DRelation.fN (unionRel x y))) hblk0 rfl
            have hc1 := blk_cell (j := 1) (v := .slice a7 (DRelation.fRows (unionRel x y)).length c7) hblk0 rfl
            clear hblk0
            go_wp2_with fail
            exact freePost _ rfl ⟨⟨WritesF.refl _ _, hj⟩, upd_self⟩
          · intro V L H w9 hw hk hj hd
            clear hd
            have hblk0 := (hk.2 w6.heap.size ⟨by omega, fun h => h, trivial⟩ (by omega)).trans HGX8.out
            have hc0 := blk_cell (j := 0) (v := .int .i64 (DRelation.fN x)) hblk0 rfl
            have hc1 := blk_cell (j := 1) (v := .slice xa (DRelation.fRows x).length xc) hblk0 rfl
            clear hblk0
            go_wp2_with fail
            exact freePost _ rfl ⟨⟨WritesF.refl _ _, hj⟩, upd_self⟩
          · intro V L H w9 hw hk hj hd
            clear hd
            have hblk0 := (hk.2 (w6.heap.size + 1) ⟨by omega, fun h => h, trivial⟩ (by omega)).trans HGY8.out
            have hc0 := blk_cell (j := 0) (v := .int .i64 (DRelation.fN y)) hblk0 rfl
            have hc1 := blk_cell (j := 1) (v := .slice ya (DRelation.fRows y).length yc) hblk0 rfl
            clear hblk0
            go_wp2_with fail
            exact freePost _ rfl ⟨⟨WritesF.refl _ _, hj⟩, upd_self⟩
          · intro V L H w9 hw hk hj hd
            obtain ⟨⟨hL1, hM1, hH1, hv1⟩, ⟨hL2, hM2, hH2, hv2⟩, -⟩ := hd
            rw [hv1, hv2]
            have HV1 := Lib.hid hv1
            have HV2 := Lib.hid hv2
            clear hv1 hv2
            go_wp2_with fail
            refine (spec_UnionRelation (lo := 0) (hi := w8.heap.size) (c0_0 := xc) (c1_0 := yc) x HOX.out HZX.out y HOY.out HZY.out _ hw.size (HX8.out.frame (fun b o h1 h2 => hk.cell (p := ⟨b, o, none⟩) ⟨(by show b < _; omega), fun h => h, trivial⟩ (by show b < _; omega))) (HY8.out.frame (fun b o h1 h2 => hk.cell (p := ⟨b, o, none⟩) ⟨(by show b < _; omega), fun h => h, trivial⟩ (by show b < _; omega)))).mono ?_
            rintro e w10 ⟨a9, c9, rfl, ho9, hb2⟩
            go_wp2_with fail
            exact freePost _ rfl ⟨⟨(WritesF.refl _ _).later hb2, trivial⟩, Exists.intro a9 (Exists.intro c9 (And.intro (upd_self) (ho9)))⟩
          · intro V L H w9 hw hk hj hd
            obtain ⟨⟨hL0, hM0, hH0, hv0⟩, ⟨hL3, hM3, hH3, a9, c9, hv3, ho3_0⟩, -⟩ := hd
            rw [hv0, hv3]
            have HV0 := Lib.hid hv0
            have HV3 := Lib.hid hv3
            clear hv0 hv3
            go_wp2_with fail
            refine (spec_EqualRelation (lo := 0) (hi := w9.heap.size) (c0_0 := c7) (c1_0 := c9) (unionRel x y) HOU.out HZU.out (unionRel x y) HOU.out HZU.out _ (Nat.le_refl _) ((HU8.out.frame (fun b o h1 h2 => hk.cell (p := ⟨b, o, none⟩) ⟨(by show b < _; omega), fun h => h, trivial⟩ (by show b < _; omega))).mono (Nat.le_refl _) hw.size) (Sl.of (ho3_0.lies (lo := 0) (hi := w9.heap.size) (fun y hy => ⟨Nat.zero_le _, by omega⟩)))).mono ?_
            rintro e w10 ⟨rfl, hb2⟩
            rw [relEq_refl]
            go_wp2_with fail
            exact freePost _ rfl ⟨⟨(WritesF.refl _ _).later hb2, trivial⟩, upd_self⟩
          · intro V L H w9 hw hk hj hd
            obtain ⟨⟨hL4, hM4, hH4, hv4⟩, -⟩ := hd
            rw [hv4]
            have HV4 := Lib.hid hv4
            clear hv4
            go_wp2_with fail
            exact freePost _ rfl ⟨⟨WritesF.refl _ _, hj⟩, upd_self⟩
          · intro V L H w9 hw hk hj hd
            obtain ⟨⟨hL5, hM5, hH5, hv5⟩, -⟩ := hd
            rw [hv5]
            have HV5 := Lib.hid hv5
            clear hv5
            go_wp2_with fail
            exact freePost _ rfl ⟨⟨WritesF.refl _ _, hj⟩, upd_self⟩
          · intro V L H w9 hw hk hj hd
            obtain ⟨⟨hL6, hM6, hH6, hv6⟩, -⟩ := hd
            rw [hv6]
            have HV6 := Lib.hid hv6
            clear hv6
            have hblk0 := (hk.2 w7.heap.size ⟨by omega, fun h => h, trivial⟩ (by omega)).trans HGU8.out
            have hc0 := blk_cell (j := 0) (v := .int .i64 (DRelation.fN (unionRel x y))) hblk0 rfl
            have hc1 := blk_cell (j := 1) (v := .slice a7 (DRelation.fRows (unionRel x y)).length c7) hblk0 rfl
            clear hblk0
            go_wp2_with fail
            exact freePost _ rfl ⟨⟨WritesF.refl _ _, hj⟩, upd_self⟩
          · intro V L H w9 hw hk hj hd
            obtain ⟨⟨hL6, hM6, hH6, hv6⟩, -⟩ := hd
            rw [hv6]
            have HV6 := Lib.hid hv6
            clear hv6
            have hblk0 := (hk.2 (w6.heap.size + 1) ⟨by omega, fun h => h, trivial⟩ (by omega)).trans HGY8.out
            have hc0 := blk_cell (j := 0) (v := .int .i64 (DRelation.fN y)) hblk0 rfl
            have hc1 := blk_cell (j := 1) (v := .slice ya (DRelation.fRows y).length yc) hblk0 rfl
            clear hblk0
            go_wp2_with fail
            exact freePost _ rfl ⟨⟨WritesF.refl _ _, hj⟩, upd_self⟩
          · intro V L H w9 hw hk hj hd
            obtain ⟨⟨hL6, hM6, hH6, hv6⟩, ⟨hL7, hM7, hH7, hv7⟩, ⟨hL8, hM8, hH8, hv8⟩, -⟩ := hd
            rw [hv6, hv7, hv8]
            have HV6 := Lib.hid hv6
            have HV7 := Lib.hid hv7
            have HV8 := Lib.hid hv8
            clear hv6 hv7 hv8
            go_wp2_with fail
            refine (impl_UnionRelation (lo := 0) (hi := w8.heap.size) (c0_0 := c7) (c1_0 := yc) (unionRel x y) HOU.out HZU.out y HOY.out HZY.out _ hw.size (HU8.out.frame (fun b o h1 h2 => hk.cell (p := ⟨b, o, none⟩) ⟨(by show b < _; omega), fun h => h, trivial⟩ (by show b < _; omega))) (HY8.out.frame (fun b o h1 h2 => hk.cell (p := ⟨b, o, none⟩) ⟨(by show b < _; omega), fun h => h, trivial⟩ (by show b < _; omega)))).mono ?_
            rintro e w10 ⟨a9, c9, rfl, ho9, hb2⟩
            rw [union_again] at ho9 ⊢
            go_wp2_with fail
            exact freePost _ rfl ⟨⟨(WritesF.refl _ _).later hb2, trivial⟩, Exists.intro a9 (Exists.intro c9 (And.intro (upd_self) (ho9)))⟩
          · intro V L H w9 hw hk hj hd
            obtain ⟨⟨hL6, hM6, hH6, hv6⟩, -⟩ := hd
            rw [hv6]
            have HV6 := Lib.hid hv6
            clear hv6
            have hblk0 := (hk.2 w7.heap.size ⟨by omega, fun h => h, trivial⟩ (by omega)).trans HGU8.out
            have hc0 := blk_cell (j := 0) (v := .int .i64 (DRelation.fN (unionRel x y))) hblk0 rfl
            have hc1 := blk_cell (j := 1) (v := .slice a7 (DRelation.fRows (unionRel x y)).length c7) hblk0 rfl
            clear hblk0
            go_wp2_with fail
            exact freePost _ rfl ⟨⟨WritesF.refl _ _, hj⟩, upd_self⟩
          · intro V L H w9 hw hk hj hd
            obtain ⟨⟨hL6, hM6, hH6, hv6⟩, ⟨hL9, hM9, hH9, a9, c9, hv9, ho9_0⟩, ⟨hL10, hM10, hH10, hv10⟩, -⟩ := hd
            rw [hv6, hv9, hv10]
            have HV6 := Lib.hid hv6
            have HV9 := Lib.hid hv9
            have HV10 := Lib.hid hv10
            clear hv6 hv9 hv10
            go_wp2_with fail
            refine (spec_EqualRelation (lo := 0) (hi := w9.heap.size) (c0_0 := c9) (c1_0 := c7) (unionRel x y) HOU.out HZU.out (unionRel x y) HOU.out HZU.out _ (Nat.le_refl _) (Sl.of (ho9_0.lies (lo := 0) (hi := w9.heap.size) (fun y hy => ⟨Nat.zero_le _, by omega⟩))) ((HU8.out.frame (fun b o h1 h2 => hk.cell (p := ⟨b, o, none⟩) ⟨(by show b < _; omega), fun h => h, trivial⟩ (by show b < _; omega))).mono (Nat.le_refl _) hw.size)).mono ?_
            rintro e w10 ⟨rfl, hb2⟩
            rw [relEq_refl]
            go_wp2_with fail
            exact freePost _ rfl ⟨⟨(WritesF.refl _ _).later hb2, trivial⟩, upd_self⟩
          · intro V L H w9 hw hk hj hd
            obtain ⟨⟨hL6, hM6, hH6, hv6⟩, ⟨hL11, hM11, hH11, hv11⟩, -⟩ := hd
            rw [hv6, hv11]
            have HV6 := Lib.hid hv6
            have HV11 := Lib.hid hv11
            clear hv6 hv11
            go_wp2_with fail
            exact freePost _ rfl ⟨⟨WritesF.refl _ _, hj⟩, upd_self⟩
          · intro V L H w9 hw hk hj hd
            obtain ⟨⟨hL6, hM6, hH6, hv6⟩, ⟨hL12, hM12, hH12, hv12⟩, -⟩ := hd
            rw [hv6, hv12]
            have HV6 := Lib.hid hv6
            have HV12 := Lib.hid hv12
            clear hv6 hv12
            go_wp2_with fail
            exact freePost _ rfl ⟨⟨WritesF.refl _ _, hj⟩, upd_self⟩
          · intro V L H w9 hw hj hd hap hdead
            obtain ⟨⟨hL13, hM13, hH13, hv13⟩, -⟩ := hd
            rw [hv13]
            clear hv13
            have hbw := HB8.out.trans ((fa_none hw).mono HB8.out.size)
            clear hw hj hap hdead HGX8 HGY8 HGU8 HB8 HX8 HY8 HU8 HOX HZX HOY HZY HOU HZU
            have HBV := Lib.hid hbw
            clear hbw hs8
            go_wp2_with fail
            refine (spec_DrawProjectRelation w9 HBV.out.size hsm (HC.out.below HBV.out)).mono ?_
            rintro e w10 ⟨p, pa, pc, l, la, lc, rfl, hsp, hl17, hokl, hop, hol, hb1⟩
            have HOP := Lib.hid hsp.ok
            have HZP := Lib.hid hsp.sz
            have HOL := Lib.hid hokl
            have HZL := Lib.hid (show lsz (fun _ => 0) l ≤ 1048576 by rw [lsz_zero]; omega)
            have hz910 : w9.heap.size ≤ w10.heap.size := hb1.size
            have HB10 := Lib.hid (HBV.out.trans (hb1.mono HBV.out.size))
            have HP10 := Lib.hid (Sl.of (hop.lies (lo := 0) (hi := w10.heap.size) (fun y hy => ⟨Nat.zero_le _, hy.2⟩)))
            have HL10 := Lib.hid (Sl.of (hol.lies (lo := 0) (hi := w10.heap.size) (fun y hy => ⟨Nat.zero_le _, hy.2⟩)))
            have HOQ := Lib.hid (projRel_ok (r := p) (l := l))
            have HZQ := Lib.hid (projRel_sz p l)
            clear hsp hokl hop hol hb1
            go_wp2_with fail
            refine (impl_ProjectRelation (lo := 0) (hi := w10.heap.size) (c0_0 := pc) (c1_0 := lc) p HOP.out HZP.out l HOL.out HZL.out (w10.alloc (.cells #[.int .i64 (DRelation.fN p), .slice pa (DRelation.fRows p).length pc] 27)) (by simp) (HP10.out.later ((Below.refl _ w10).alloc (Nat.le_refl _) _) (Nat.le_refl _)) (HL10.out.later ((Below.refl _ w10).alloc (Nat.le_refl _) _) (Nat.le_refl _))).mono ?_
            rintro e w11 ⟨a11, c11, rfl, ho2, hb2⟩
            have hz1011 : w10.heap.size + 1 ≤ w11.heap.size := Nat.le_trans (by simp) hb2.size
            have hb3 := ((Below.refl w10.heap.size w10).alloc (Nat.le_refl _) (.cells #[.int .i64 (DRelation.fN p), .slice pa (DRelation.fRows p).length pc] 27)).trans (hb2.mono (by simp))
            have HGP := Lib.hid ((hb2.block w10.heap.size (by simp)).trans (blk_new rfl))
            have HB11 := Lib.hid (HB10.out.trans (hb3.mono HB10.out.size))
            have HP11 := Lib.hid (HP10.out.later hb3 (Nat.le_refl _))
            have HL11 := Lib.hid (HL10.out.later hb3 (Nat.le_refl _))
            have HQ11 := Lib.hid (Sl.of (ho2.lies (lo := 0) (hi := w11.heap.size) (fun y hy => ⟨Nat.zero_le _, hy.2⟩)))
            clear ho2 hb2 hb3 HP10 HL10 HB10
            go_wp2_with fail
            generalize hw12 : World.alloc w11 (.cells #[.int .i64 (DRelation.fN (projRel p l)), .slice a11 (DRelation.fRows (projRel p l)).length c11] 27) = w12
            have hs12 : w12.heap.size = w11.heap.size + 1 := by rw [← hw12]; simp
            have HGP12 := Lib.hid (show w12.heap[w10.heap.size]? = some (.cells #[.int .i64 (DRelation.fN p), .slice pa (DRelation.fRows p).length pc] 27) by rw [← hw12]; exact blk_alloc (by omega) HGP.out)
            have HGQ12 := Lib.hid (show w12.heap[w11.heap.size]? = some (.cells #[.int .i64 (DRelation.fN (projRel p l)), .slice a11 (DRelation.fRows (projRel p l)).length c11] 27) by rw [← hw12]; exact blk_new rfl)
            have HB12 := Lib.hid (show Below w.heap.size w w12 by rw [← hw12]; exact HB11.out.alloc HB11.out.size _)
            have HP12 := Lib.hid (show Sl 0 w12.heap.size w12 1 p.fRows.length (rowsI p.fRows) pa by rw [hs12, ← hw12]; exact (HP11.out.later ((Below.refl _ w11).alloc (Nat.le_refl _) _) (by omega)).mono (Nat.le_refl _) (by omega))
            have HL12 := Lib.hid (show Sl 0 w12.heap.size w12 1 l.length (rowsI l) la by rw [hs12, ← hw12]; exact (HL11.out.later ((Below.refl _ w11).alloc (Nat.le_refl _) _) (by omega)).mono (Nat.le_refl _) (by omega))
            have HQ12 := Lib.hid (show Sl 0 w12.heap.size w12 1 (projRel p l).fRows.length (rowsI (projRel p l).fRows) a11 by rw [hs12, ← hw12]; exact (HQ11.out.later ((Below.refl _ w11).alloc (Nat.le_refl _) _) (Nat.le_refl _)).mono (Nat.le_refl _) (by omega))
            clear HGP HB11 HP11 HL11 HQ11 hw12
            refine wp_region_freeJ [([], .none, []), ([], .none, []), ([], .none, []), ([1, 2], .none, []), ([0, 3], .none, []), ([4], .none, [])] [5] [] (fun _ => False) (fun _ => True) (fun _ => 0) (fun jq9 V L H wx => match jq9 with | 0 => V 0 = .agg #[.int .i64 (DRelation.fN (projRel p l)), .slice a11 (DRelation.fRows (projRel p l)).length c11] | 1 => V 1 = .agg #[.int .i64 (DRelation.fN p), .slice pa (DRelation.fRows p).length pc] | 2 => V 2 = .slice la l.length lc | 3 => ∃ a9 c9, V 3 = .agg #[.int .i64 (DRelation.fN (projRel p l)), .slice a9 (DRelation.fRows (projRel p l)).length c9] ∧ Own wx (fun y => L ≤ y ∧ y < H) (.sl 1 (DRelation.fRows (projRel p l)).length (rowsI (DRelation.fRows (projRel p l)))) (.slice a9 (DRelation.fRows (projRel p l)).length c9) | 4 => V 4 = .bool true | 5 => V 5 = .bool false | _ => True) (by kernel_rfl) (by kernel_rfl) ?obs (fun _ h => h.elim) trivial (fun _ _ _ _ _ => trivial) ?loc ?lasts ?walk
            case obs =>
              trivial
            case loc =>
              intro k V V' L H wx h0 h1 hG
              match k with
              | 0 =>
                try dsimp only at hG ⊢
                rw [← h0]
                exact hG
              | 1 =>
                try dsimp only at hG ⊢
                rw [← h0]
                exact hG
              | 2 =>
                try dsimp only at hG ⊢
                rw [← h0]
                exact hG
              | 3 =>
                try dsimp only at hG ⊢
                rw [← h0]
                exact hG
              | 4 =>
                try dsimp only at hG ⊢
                rw [← h0]
                exact hG
              | 5 =>
                try dsimp only at hG ⊢
                rw [← h0]
                exact hG
              | n + 6 => trivial
            case lasts =>
              intro i hi V L H wx wy hB hH hk
              match i, hi with
              | 0, _ => exact fun h => h
              | 1, _ => exact fun h => h
              | 2, _ => exact fun h => h
              | 3, _ => exact fun ⟨a9, c9, hv, ho0⟩ => ⟨a9, c9, hv, ho0.kept (hk.sub (fun y hy => .inr hy))⟩
              | 4, _ => exact fun h => h
              | 5, _ => exact fun h => h
              | n + 6, hn => exact absurd hn (by simp)
            case walk =>
              simp only [freeJ, effJ, Nat.reduceAdd, Act.put, List.setIfInBounds_toArray, List.set_cons_succ, List.set_cons_zero]
              refine ⟨?_, ?_, ?_, ?_, ?_, ?_, ?_⟩
              · intro V L H w13 hw hk hj hd
                clear hd
                have hblk0 := (hk.2 w11.heap.size ⟨by omega, fun h => h, trivial⟩ (by omega)).trans HGQ12.out
                have hc0 := blk_cell (j := 0) (v := .int .i64 (DRelation.fN (projRel p l))) hblk0 rfl
                have hc1 := blk_cell (j := 1) (v := .slice a11 (DRelation.fRows (projRel p l)).length c11) hblk0 rfl
                clear hblk0
                go_wp2_with fail
                exact freePost _ rfl ⟨⟨WritesF.refl _ _, hj⟩, upd_self⟩
              · intro V L H w13 hw hk hj hd
                clear hd
                have hblk0 := (hk.2 w10.heap.size ⟨by omega, fun h => h, trivial⟩ (by omega)).trans HGP12.out
                have hc0 := blk_cell (j := 0) (v := .int .i64 (DRelation.fN p)) hblk0 rfl
                have hc1 := blk_cell (j := 1) (v := .slice pa (DRelation.fRows p).length pc) hblk0 rfl
                clear hblk0
                go_wp2_with fail
                exact freePost _ rfl ⟨⟨WritesF.refl _ _, hj⟩, upd_self⟩
              · intro V L H w13 hw hk hj hd
                clear hd
                go_wp2_with fail
                exact freePost _ rfl ⟨⟨WritesF.refl _ _, hj⟩, upd_self⟩
              · intro V L H w13 hw hk hj hd
                obtain ⟨⟨hL1, hM1, hH1, hv1⟩, ⟨hL2, hM2, hH2, hv2⟩, -⟩ := hd
                rw [hv1, hv2]
                have HV1 := Lib.hid hv1
                have HV2 := Lib.hid hv2
                clear hv1 hv2
                go_wp2_with fail
                refine (spec_ProjectRelation (lo := 0) (hi := w12.heap.size) (c0_0 := pc) (c1_0 := lc) p HOP.out HZP.out l HOL.out HZL.out _ hw.size (HP12.out.frame (fun b o h1 h2 => hk.cell (p := ⟨b, o, none⟩) ⟨(by show b < _; omega), fun h => h, trivial⟩ (by show b < _; omega))) (HL12.out.frame (fun b o h1 h2 => hk.cell (p := ⟨b, o, none⟩) ⟨(by show b < _; omega), fun h => h, trivial⟩ (by show b < _; omega)))).mono ?_
                rintro e w14 ⟨a9, c9, rfl, ho9, hb2⟩
                go_wp2_with fail
                exact freePost _ rfl ⟨⟨(WritesF.refl _ _).later hb2, trivial⟩, Exists.intro a9 (Exists.intro c9 (And.intro (upd_self) (ho9)))⟩
              · intro V L H w13 hw hk hj hd
                obtain ⟨⟨hL0, hM0, hH0, hv0⟩, ⟨hL3, hM3, hH3, a9, c9, hv3, ho3_0⟩, -⟩ := hd
                rw [hv0, hv3]
                have HV0 := Lib.hid hv0
                have HV3 := Lib.hid hv3
                clear hv0 hv3
                go_wp2_with fail
                refine (spec_EqualRelation (lo := 0) (hi := w13.heap.size) (c0_0 := c11) (c1_0 := c9) (projRel p l) HOQ.out HZQ.out (projRel p l) HOQ.out HZQ.out _ (Nat.le_refl _) ((HQ12.out.frame (fun b o h1 h2 => hk.cell (p := ⟨b, o, none⟩) ⟨(by show b < _; omega), fun h => h, trivial⟩ (by show b < _; omega))).mono (Nat.le_refl _) hw.size) (Sl.of (ho3_0.lies (lo := 0) (hi := w13.heap.size) (fun y hy => ⟨Nat.zero_le _, by omega⟩)))).mono ?_
                rintro e w14 ⟨rfl, hb2⟩
                rw [relEq_refl]
                go_wp2_with fail
                exact freePost _ rfl ⟨⟨(WritesF.refl _ _).later hb2, trivial⟩, upd_self⟩
              · intro V L H w13 hw hk hj hd
                obtain ⟨⟨hL4, hM4, hH4, hv4⟩, -⟩ := hd
                rw [hv4]
                have HV4 := Lib.hid hv4
                clear hv4
                go_wp2_with fail
                exact freePost _ rfl ⟨⟨WritesF.refl _ _, hj⟩, upd_self⟩
              · intro V L H w13 hw hj hd hap hdead
                obtain ⟨⟨hL5, hM5, hH5, hv5⟩, -⟩ := hd
                rw [hv5]
                clear hv5
                have HB13 := Lib.hid (fa_none hw)
                have hz13 : w12.heap.size ≤ w13.heap.size := hw.size
                clear hw hj hap hdead
                obtain ⟨n, hn, hnl, hval⟩ : ∃ n : Nat, (projRel p l).fN = n ∧ n ≤ l.length ∧ (0 < n → (relB p = true ∧ l.length ≤ 16) ∧ n = l.length) := by
                  by_cases h : relB p = true ∧ l.length ≤ 16
                  · exact ⟨l.length, proj_N h, Nat.le_refl _, fun _ => ⟨h, rfl⟩⟩
                  · exact ⟨0, by rw [proj_none h]; rfl, Nat.zero_le _, fun h => absurd h (Nat.lt_irrefl _)⟩
                have HN := Lib.hid hn
                have HVAL := Lib.hid hval
                have hq0 : (projRel p l).fN ≤ 17 := by omega
                clear hn hval
                have pq0 : w13.cell? ⟨w11.heap.size, 0, none⟩ = some (.int .i64 (projRel p l).fN) := blk_cell ((HB13.out.block w11.heap.size (by omega)).trans HGQ12.out) rfl
                have pq1 : w13.cell? ⟨w11.heap.size, 1, none⟩ = some (.slice a11 (projRel p l).fRows.length c11) := blk_cell ((HB13.out.block w11.heap.size (by omega)).trans HGQ12.out) rfl
                go_wp2
                go_loopw [13] (fun i wr => ∃ m : Nat, m ≤ n ∧ i = .int .i64 (m : Int) ∧ Below w12.heap.size w12 wr) (fun i _ => n - (RowKit.intOf i).toNat)
                case atStart => exact ⟨0, Nat.zero_le _, rfl, HB13.out⟩
                case round =>
                  obtain ⟨m, hm, rfl, hbr⟩ := hrel
                  obtain ⟨wo, rfl⟩ : ∃ wo : World, wo = wr := ⟨_, rfl⟩
                  have HB_wo := Lib.hid hbr
                  clear hbr pq0 pq1
                  have pq0 : wo.cell? ⟨w11.heap.size, 0, none⟩ = some (.int .i64 (projRel p l).fN) := blk_cell ((HB_wo.out.block w11.heap.size (by omega)).trans HGQ12.out) rfl
                  have pq1 : wo.cell? ⟨w11.heap.size, 1, none⟩ = some (.slice a11 (projRel p l).fRows.length c11) := blk_cell ((HB_wo.out.block w11.heap.size (by omega)).trans HGQ12.out) rfl
                  by_cases hltm : m < n
                  · skip
                    have hmN : (m : Int) < (projRel p l).fN := by have := HN.out; omega
                    have hml : m < l.length := by omega
                    obtain ⟨hpv, hnl2⟩ := HVAL.out (by omega)
                    have HPV := Lib.hid hpv
                    clear hpv
                    obtain ⟨b, off, rfl, hlb1, hlb2, -⟩ := HL12.out.at m hml
                    go_wp2
                    go_loopw [14] (fun i wr => ∃ q : Nat, q ≤ n ∧ i = .int .i64 (q : Int) ∧ Below w12.heap.size w12 wr) (fun i _ => n - (RowKit.intOf i).toNat)
                    case atStart => exact ⟨0, Nat.zero_le _, rfl, HB_wo.out⟩
                    case round =>
                      obtain ⟨q, hq, rfl, hbr⟩ := hrel
                      obtain ⟨wq, rfl⟩ : ∃ wq : World, wq = wr := ⟨_, rfl⟩
                      have HB_wq := Lib.hid hbr
                      clear hbr pq0 pq1
                      have pq0 : wq.cell? ⟨w11.heap.size, 0, none⟩ = some (.int .i64 (projRel p l).fN) := blk_cell ((HB_wq.out.block w11.heap.size (by omega)).trans HGQ12.out) rfl
                      have pq1 : wq.cell? ⟨w11.heap.size, 1, none⟩ = some (.slice a11 (projRel p l).fRows.length c11) := blk_cell ((HB_wq.out.block w11.heap.size (by omega)).trans HGQ12.out) rfl
                      by_cases hltq : q < n
                      · skip
                        have hqN : (q : Int) < (projRel p l).fN := by have := HN.out; omega
                        have hql : q < l.length := by omega
                        have hzq : w12.heap.size ≤ wq.heap.size := HB_wq.out.size
                        have hpr := proj_pair HPV.out.1 HPV.out.2 hml hql
                        have hlm := open_at HL12.out hml
                        have hlq := open_at HL12.out hql
                        have hom := HOL.out.at hml
                        have hoq := HOL.out.at hql
                        generalize l.getD m default = zm at hpr hlm hom
                        generalize l.getD q default = zq at hpr hlq hoq
                        obtain ⟨vh, hvh⟩ : ∃ vh, hasPair p zm zq = vh := ⟨_, rfl⟩
                        rw [hvh] at hpr
                        have HVH := Lib.hid hvh
                        have HPR := Lib.hid hpr
                        have HLM := Lib.hid hlm
                        have HLQ := Lib.hid hlq
                        have HOM := Lib.hid hom
                        have HOQ2 := Lib.hid hoq
                        clear hpr hlm hlq hom hoq hvh
                        have HGQW := Lib.hid ((HB_wq.out.block w11.heap.size (by omega)).trans HGQ12.out)
                        have HGPW := Lib.hid ((HB_wq.out.block w10.heap.size (by omega)).trans HGP12.out)
                        have HQW := Lib.hid ((HQ12.out.later HB_wq.out (Nat.le_refl _)).mono (Nat.le_refl _) hzq)
                        have HPW := Lib.hid ((HP12.out.later HB_wq.out (Nat.le_refl _)).mono (Nat.le_refl _) hzq)
                        go_wp2_with fail
                        clear pq0 pq1
                        refine wp_region_freeJ [([], .none, []), ([], .none, []), ([], .none, []), ([0, 1, 2], .none, []), ([], .none, []), ([], .none, []), ([], .none, []), ([5, 6], .none, []), ([7], .none, []), ([], .none, []), ([], .none, []), ([9, 10], .none, []), ([11], .none, []), ([4, 8, 12], .none, []), ([3, 13], .none, [])] [14] [] (fun _ => False) (fun _ => True) (fun _ => 0) (fun jq9 V L H wx => match jq9 with | 0 => V 0 = .agg #[.int .i64 (DRelation.fN (projRel p l)), .slice a11 (DRelation.fRows (projRel p l)).length c11] | 1 => V 1 = .int .i64 (m : Int) | 2 => V 2 = .int .i64 (q : Int) | 3 => V 3 = .bool vh | 4 => V 4 = .agg #[.int .i64 (DRelation.fN p), .slice pa (DRelation.fRows p).length pc] | 5 => V 5 = .slice (some ⟨b, off, none⟩) l.length lc | 6 => V 6 = .int .i64 (m : Int) | 7 => V 7 = .pointer (some ⟨b, off + m, none⟩) | 8 => V 8 = .int .i64 zm | 9 => V 9 = .slice (some ⟨b, off, none⟩) l.length lc | 10 => V 10 = .int .i64 (q : Int) | 11 => V 11 = .pointer (some ⟨b, off + q, none⟩) | 12 => V 12 = .int .i64 zq | 13 => V 13 = .bool vh | 14 => V 14 = .bool false | _ => True) (by kernel_rfl) (by kernel_rfl) ?obs (fun _ h => h.elim) trivial (fun _ _ _ _ _ => trivial) ?loc ?lasts ?walk
                        case obs =>
                          trivial
                        case loc =>
                          intro k V V' L H wx h0 h1 hG
                          match k with
                          | 0 =>
                            try dsimp only at hG ⊢
                            rw [← h0]
                            exact hG
                          | 1 =>
                            try dsimp only at hG ⊢
                            rw [← h0]
                            exact hG
                          | 2 =>
                            try dsimp only at hG ⊢
                            rw [← h0]
                            exact hG
                          | 3 =>
                            try dsimp only at hG ⊢
                            rw [← h0]
                            exact hG
                          | 4 =>
                            try dsimp only at hG ⊢
                            rw [← h0]
                            exact hG
                          | 5 =>
                            try dsimp only at hG ⊢
                            rw [← h0]
                            exact hG
                          | 6 =>
                            try dsimp only at hG ⊢
                            rw [← h0]
                            exact hG
                          | 7 =>
                            try dsimp only at hG ⊢
                            rw [← h0]
                            exact hG
                          | 8 =>
                            try dsimp only at hG ⊢
                            rw [← h0]
                            exact hG
                          | 9 =>
                            try dsimp only at hG ⊢
                            rw [← h0]
                            exact hG
                          | 10 =>
                            try dsimp only at hG ⊢
                            rw [← h0]
                            exact hG
                          | 11 =>
                            try dsimp only at hG ⊢
                            rw [← h0]
                            exact hG
                          | 12 =>
                            try dsimp only at hG ⊢
                            rw [← h0]
                            exact hG
                          | 13 =>
                            try dsimp only at hG ⊢
                            rw [← h0]
                            exact hG
                          | 14 =>
                            try dsimp only at hG ⊢
                            rw [← h0]
                            exact hG
                          | n + 15 => trivial
                        case lasts =>
                          intro i hi V L H wx wy hB hH hk
                          match i, hi with
                          | 0, _ => exact fun h => h
                          | 1, _ => exact fun h => h
                          | 2, _ => exact fun h => h
                          | 3, _ => exact fun h => h
                          | 4, _ => exact fun h => h
                          | 5, _ => exact fun h => h
                          | 6, _ => exact fun h => h
                          | 7, _ => exact fun h => h
                          | 8, _ => exact fun h => h
                          | 9, _ => exact fun h => h
                          | 10, _ => exact fun h => h
                          | 11, _ => exact fun h => h
                          | 12, _ => exact fun h => h
                          | 13, _ => exact fun h => h
                          | 14, _ => exact fun h => h
                          | n + 15, hn => exact absurd hn (by simp)
                        case walk =>
                          simp only [freeJ, effJ, Nat.reduceAdd, Act.put, List.setIfInBounds_toArray, List.set_cons_succ, List.set_cons_zero]
                          refine ⟨?_, ?_, ?_, ?_, ?_, ?_, ?_, ?_, ?_, ?_, ?_, ?_, ?_, ?_, ?_, ?_⟩
                          · intro V L H w15 hw hk hj hd
                            clear hd
                            have hblk0 := (hk.2 w11.heap.size ⟨by omega, fun h => h, trivial⟩ (by omega)).trans HGQW.out
                            have hc0 := blk_cell (j := 0) (v := .int .i64 (DRelation.fN (projRel p l))) hblk0 rfl
                            have hc1 := blk_cell (j := 1) (v := .slice a11 (DRelation.fRows (projRel p l)).length c11) hblk0 rfl
                            clear hblk0
                            go_wp2_with fail
                            exact freePost _ rfl ⟨⟨WritesF.refl _ _, hj⟩, upd_self⟩
                          · intro V L H w15 hw hk hj hd
                            clear hd
                            go_wp2_with fail
                            exact freePost _ rfl ⟨⟨WritesF.refl _ _, hj⟩, upd_self⟩
                          · intro V L H w15 hw hk hj hd
                            clear hd
                            go_wp2_with fail
                            exact freePost _ rfl ⟨⟨WritesF.refl _ _, hj⟩, upd_self⟩
                          · intro V L H w15 hw hk hj hd
                            obtain ⟨⟨hL0, hM0, hH0, hv0⟩, ⟨hL1, hM1, hH1, hv1⟩, ⟨hL2, hM2, hH2, hv2⟩, -⟩ := hd
                            rw [hv0, hv1, hv2]
                            have HV0 := Lib.hid hv0
                            have HV1 := Lib.hid hv1
                            have HV2 := Lib.hid hv2
                            clear hv0 hv1 hv2
                            go_wp2_with fail
                            refine (impl_HasPair (lo := 0) (hi := wq.heap.size) (c0_0 := c11) (projRel p l) HOQ.out HZQ.out (m : Int) (ok_nat (by omega)) (q : Int) (ok_nat (by omega)) _ hw.size (HQW.out.frame (fun b o h1 h2 => hk.cell (p := ⟨b, o, none⟩) ⟨(by show b < _; omega), fun h => h, trivial⟩ (by show b < _; omega)))).mono ?_
                            rintro e w14 ⟨rfl, hb2⟩
                            rw [HPR.out]
                            go_wp2_with fail
                            exact freePost _ rfl ⟨⟨(WritesF.refl _ _).later hb2, trivial⟩, upd_self⟩
                          · intro V L H w15 hw hk hj hd
                            clear hd
                            have hblk0 := (hk.2 w10.heap.size ⟨by omega, fun h => h, trivial⟩ (by omega)).trans HGPW.out
                            have hc0 := blk_cell (j := 0) (v := .int .i64 (DRelation.fN p)) hblk0 rfl
                            have hc1 := blk_cell (j := 1) (v := .slice pa (DRelation.fRows p).length pc) hblk0 rfl
                            clear hblk0
                            go_wp2_with fail
                            exact freePost _ rfl ⟨⟨WritesF.refl _ _, hj⟩, upd_self⟩
                          · intro V L H w15 hw hk hj hd
                            clear hd
                            go_wp2_with fail
                            exact freePost _ rfl ⟨⟨WritesF.refl _ _, hj⟩, upd_self⟩
                          · intro V L H w15 hw hk hj hd
                            clear hd
                            go_wp2_with fail
                            exact freePost _ rfl ⟨⟨WritesF.refl _ _, hj⟩, upd_self⟩
                          · intro V L H w15 hw hk hj hd
                            obtain ⟨⟨hL5, hM5, hH5, hv5⟩, ⟨hL6, hM6, hH6, hv6⟩, -⟩ := hd
                            rw [hv5, hv6]
                            have HV5 := Lib.hid hv5
                            have HV6 := Lib.hid hv6
                            clear hv5 hv6
                            go_wp2_with fail
                            exact freePost _ rfl ⟨⟨WritesF.refl _ _, hj⟩, upd_self⟩
                          · intro V L H w15 hw hk hj hd
                            obtain ⟨⟨hL7, hM7, hH7, hv7⟩, -⟩ := hd
                            rw [hv7]
                            have HV7 := Lib.hid hv7
                            clear hv7
                            have hcl : w15.cell? ⟨b, off + m, none⟩ = some (.int .i64 zm) := (hk.cell (p := ⟨b, off + m, none⟩) ⟨by show b < _; omega, fun h => h, trivial⟩ (by show b < _; omega)).trans ((HB_wq.out.cell (p := ⟨b, off + m, none⟩) (by show b < _; omega)).trans HLM.out)
                            go_wp2_with fail
                            exact freePost _ rfl ⟨⟨WritesF.refl _ _, hj⟩, upd_self⟩
                          · intro V L H w15 hw hk hj hd
                            clear hd
                            go_wp2_with fail
                            exact freePost _ rfl ⟨⟨WritesF.refl _ _, hj⟩, upd_self⟩
                          · intro V L H w15 hw hk hj hd
                            clear hd
                            go_wp2_with fail
                            exact freePost _ rfl ⟨⟨WritesF.refl _ _, hj⟩, upd_self⟩
                          · intro V L H w15 hw hk hj hd
                            obtain ⟨⟨hL9, hM9, hH9, hv9⟩, ⟨hL10, hM10, hH10, hv10⟩, -⟩ := hd
                            rw [hv9, hv10]
                            have HV9 := Lib.hid hv9
                            have HV10 := Lib.hid hv10
                            clear hv9 hv10
                            go_wp2_with fail
                            exact freePost _ rfl ⟨⟨WritesF.refl _ _, hj⟩, upd_self⟩
                          · intro V L H w15 hw hk hj hd
                            obtain ⟨⟨hL11, hM11, hH11, hv11⟩, -⟩ := hd
                            rw [hv11]
                            have HV11 := Lib.hid hv11
                            clear hv11
                            have hcl : w15.cell? ⟨b, off + q, none⟩ = some (.int .i64 zq) := (hk.cell (p := ⟨b, off + q, none⟩) ⟨by show b < _; omega, fun h => h, trivial⟩ (by show b < _; omega)).trans ((HB_wq.out.cell (p := ⟨b, off + q, none⟩) (by show b < _; omega)).trans HLQ.out)
                            go_wp2_with fail
                            exact freePost _ rfl ⟨⟨WritesF.refl _ _, hj⟩, upd_self⟩
                          · intro V L H w15 hw hk hj hd
                            obtain ⟨⟨hL4, hM4, hH4, hv4⟩, ⟨hL8, hM8, hH8, hv8⟩, ⟨hL12, hM12, hH12, hv12⟩, -⟩ := hd
                            rw [hv4, hv8, hv12]
                            have HV4 := Lib.hid hv4
                            have HV8 := Lib.hid hv8
                            have HV12 := Lib.hid hv12
                            clear hv4 hv8 hv12
                            go_wp2_with fail
                            refine (spec_HasPair (lo := 0) (hi := wq.heap.size) (c0_0 := pc) p HOP.out HZP.out _ HOM.out _ HOQ2.out _ hw.size (HPW.out.frame (fun b o h1 h2 => hk.cell (p := ⟨b, o, none⟩) ⟨(by show b < _; omega), fun h => h, trivial⟩ (by show b < _; omega)))).mono ?_
                            rintro e w14 ⟨rfl, hb2⟩
                            rw [HVH.out]
                            go_wp2_with fail
                            exact freePost _ rfl ⟨⟨(WritesF.refl _ _).later hb2, trivial⟩, upd_self⟩
                          · intro V L H w15 hw hk hj hd
                            obtain ⟨⟨hL3, hM3, hH3, hv3⟩, ⟨hL13, hM13, hH13, hv13⟩, -⟩ := hd
                            rw [hv3, hv13]
                            have HV3 := Lib.hid hv3
                            have HV13 := Lib.hid hv13
                            clear hv3 hv13
                            go_wp2_with fail
                            cases vh <;> exact freePost _ rfl ⟨⟨WritesF.refl _ _, hj⟩, upd_self⟩
                          · intro V L H w15 hw hj hd hap hdead
                            obtain ⟨⟨hL14, hM14, hH14, hv14⟩, -⟩ := hd
                            rw [hv14]
                            clear hv14
                            have HB15 := Lib.hid (HB_wq.out.trans ((fa_none hw).mono hzq))
                            clear hw hj hap hdead
                            go_wp2
                            go_roundw
                            case rel => exact ⟨q + 1, by omega, by go_num, HB15.out⟩
                            case measure => simp [RowKit.intOf]; omega
                      · obtain rfl : q = n := by omega
                        have hqN : ¬ (q : Int) < (projRel p l).fN := by have := HN.out; omega
                        go_wp2
                        go_roundw
                        case rel => exact ⟨m + 1, by omega, by go_num, HB_wq.out⟩
                        case measure => simp [RowKit.intOf]; omega
                  · obtain rfl : m = n := by omega
                    have hmN : ¬ (m : Int) < (projRel p l).fN := by have := HN.out; omega
                    go_wp2_with fail
                    refine (impl_EmptyRelation 3 (by unfold okI; omega) wo).mono ?_
                    rintro e w16 ⟨a16, c16, rfl, ho16, hb16⟩
                    have HB16 := Lib.hid (HB_wo.out.trans (hb16.mono HB_wo.out.size))
                    have HE16 := Lib.hid (Sl.of (ho16.lies (lo := 0) (hi := w16.heap.size) (fun y hy => ⟨Nat.zero_le _, hy.2⟩)))
                    clear ho16 hb16
                    go_wp2_with fail
                    refine (spec_EqualRelation (lo := 0) (hi := w16.heap.size + 1) (c0_0 := c16) (c1_0 := 3) (emptyRel 3) three_ok three_sz (⟨3, [0, 0, 0]⟩ : DRelation) three_ok three_sz _ (by simp) ((HE16.out.later ((Below.refl _ w16).alloc (Nat.le_refl _) _) (Nat.le_refl _)).mono (Nat.le_refl _) (by omega)) (three_sl w16)).mono ?_
                    rintro e w17 ⟨rfl, hb17⟩
                    rw [show relEq (emptyRel 3) ⟨3, [0, 0, 0]⟩ = true by decide]
                    have HB17 := Lib.hid ((HB16.out.alloc HB16.out.size _).trans (hb17.mono (Nat.le_trans HB16.out.size (by simp))))
                    clear hb17
                    go_wp2
                    go_ret
                    exact ⟨rfl, HB12.out.trans (HB17.out.mono HB12.out.size)⟩

set_option maxRecDepth 100000 in
theorem lifted (os : Os) (started : os.Started) (H : Type) (enc : TypeId × Value → H) :
    ReturnsInHanded {} Try.checked os 5 .any (Rows.fnPairsSpec.pre6 enc Try.prog Try.f5 Rows.fnPairsRow.domain false) (Rows.fnPairsSpec.post enc Try.prog Try.f5 false true false false) := by
  refine returnsInHanded_of_change_sized (C := Try.checked) own started (by kernel_rfl) Try.func5
    (ChangeSpec.witness6 (enc := enc) (C := Try.checked) false ⟨#[], #[.slice none 0 0], []⟩ 8 (by kernel_rfl) (by kernel_rfl) (by kernel_rfl) (by kernel_rfl)) ?_
  intro W base args ds gs before hval0 hW _ hsz0 _
  have hval : ∀ (j : Nat) t v, Try.f5.params[j]? = some t → args[j]? = some v → Value.okWide Try.prog W .any base t v := hval0
  obtain ⟨p, q, hA0, hV, hps, hfz, hnd⟩ := id hW
  have hA : DataW.TrodAll enc Try.prog W 0 (fun _ => true) true Try.f5.params.toList args.toList ds p := hA0
  have hsz : (DataW.weightsEach Try.prog (Try.f5.params.toList ++ Rows.fnPairsSpec.plain.varTypes Try.prog) (ds ++ gs)).all (· ≤ reachBytes) = true := hsz0
  rw [Try.params5] at hA hval hsz
  obtain ⟨v0, vs0, d0, ds0, p0, q0, hargs, rfl, rfl, h0, r0⟩ := trodAll_cons hA
  obtain ⟨rfl, rfl, rfl⟩ := trodAll_nil r0
  obtain rfl : args = #[v0] := by cases args; simp_all
  obtain ⟨a0, len0, cap0, rfl⟩ := okWide_slice Try.underlying30 (hval 0 30 v0 rfl rfl)
  have c0 := code_of_trod Try.underlying30 Try.underlying5 (by kernel_rfl) h0
  refine (walk W c0.2).mono fun e W' ⟨he, hg⟩ => ?_
  subst he
  exact ⟨_, rfl, law_post laidOut (by kernel_rfl) rfl Try.underlying4 rfl rfl hW hg⟩

theorem said : Rows.FnPairsSaid :=
  OpenClaim.holds_of_wide 5 Try.f5 rfl rfl rfl rfl rfl rfl rfl ⟨rfl, rfl, rfl, rfl, rfl⟩ rfl rfl rfl rfl rfl (by kernel_rfl) Try.func5 (by kernel_rfl)
    (of_decide_eq_true (by kernel_rfl)) (by unfold Func.isWrapper; first | (rw [if_pos (by decide +kernel)]; kernel_rfl) | (rw [if_neg (by decide +kernel)]; exact ⟨rfl, rfl⟩))
    (fun os started H enc _ => lifted os started H enc)

#print axioms said
end Go.Proofs.Ytkfonlejblcknaa.fnPairs
