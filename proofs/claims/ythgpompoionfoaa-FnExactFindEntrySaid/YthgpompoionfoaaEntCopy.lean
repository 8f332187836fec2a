/-
  copyEntry of the program: an entry in memory of the call's own.
-/
import Derived.Test.YthgpompoionfoaaEntClone
import Derived.Test.YthgpompoionfoaaEntFI
import Derived.Test.YthgpompoionfoaaFreeL
namespace Go.Proofs.Ythgpompoionfoaa
open Go.ChangeShapes Go.WideShapes Go.ChangeAt Go.RowKit Go.Deep

theorem sl_keptE {lo hi n len : Nat} {f : Nat → Nat → Ct} {a : Option Addr} {w w' : World} {F : Nat → Prop} (h : Sl lo hi w n len f a) (hk : Kept F w w') (hF : ∀ b, lo ≤ b → b < hi → F b) (hh : hi ≤ w.heap.size) : Sl lo hi w' n len f a :=
  h.frame fun b o h1 h2 => hk.cell (p := ⟨b, o, none⟩) (hF b h1 h2) (Nat.lt_of_lt_of_le h2 hh)
set_option maxHeartbeats 12800000 in
set_option maxRecDepth 100000 in
theorem impl_copyEntry : CopyEnt := by
  intro lo hi a6 a7 a8 c6 c7 c8 y h6 h7 h8 w hhi ⟨hs6, hs7, hs8⟩
  have HB := Lib.hid (show Below w.heap.size w ((w.alloc (.cells #[.int .i64 y.fAt.fNode, .string y.fAt.fName, .int .i64 y.fValue, .int .i64 y.fOwner, .int .i64 y.fLiteral, .string y.fRule, .slice a6 y.fIds.length c6, .slice a7 y.fShape.length c7, .slice a8 y.fReads.length c8] 34)).alloc (.cells #[.int .i64 0, .string ⟨#[]⟩, .int .i64 0, .int .i64 0, .int .i64 0, .string ⟨#[]⟩, .slice none 0 0, .slice none 0 0, .slice none 0 0] 34)) from ((Below.refl w.heap.size w).alloc (Nat.le_refl _) (.cells #[.int .i64 y.fAt.fNode, .string y.fAt.fName, .int .i64 y.fValue, .int .i64 y.fOwner, .int .i64 y.fLiteral, .string y.fRule, .slice a6 y.fIds.length c6, .slice a7 y.fShape.length c7, .slice a8 y.fReads.length c8] 34)).alloc (by simp) (.cells #[.int .i64 0, .string ⟨#[]⟩, .int .i64 0, .int .i64 0, .int .i64 0, .string ⟨#[]⟩, .slice none 0 0, .slice none 0 0, .slice none 0 0] 34))
  have HBE := Lib.hid (show ((w.alloc (.cells #[.int .i64 y.fAt.fNode, .string y.fAt.fName, .int .i64 y.fValue, .int .i64 y.fOwner, .int .i64 y.fLiteral, .string y.fRule, .slice a6 y.fIds.length c6, .slice a7 y.fShape.length c7, .slice a8 y.fReads.length c8] 34)).alloc (.cells #[.int .i64 0, .string ⟨#[]⟩, .int .i64 0, .int .i64 0, .int .i64 0, .string ⟨#[]⟩, .slice none 0 0, .slice none 0 0, .slice none 0 0] 34)).heap[w.heap.size]? = some (.cells #[.int .i64 y.fAt.fNode, .string y.fAt.fName, .int .i64 y.fValue, .int .i64 y.fOwner, .int .i64 y.fLiteral, .string y.fRule, .slice a6 y.fIds.length c6, .slice a7 y.fShape.length c7, .slice a8 y.fReads.length c8] 34) from blk_alloc (by simp) (blk_new rfl))
  have HBZ := Lib.hid (show ((w.alloc (.cells #[.int .i64 y.fAt.fNode, .string y.fAt.fName, .int .i64 y.fValue, .int .i64 y.fOwner, .int .i64 y.fLiteral, .string y.fRule, .slice a6 y.fIds.length c6, .slice a7 y.fShape.length c7, .slice a8 y.fReads.length c8] 34)).alloc (.cells #[.int .i64 0, .string ⟨#[]⟩, .int .i64 0, .int .i64 0, .int .i64 0, .string ⟨#[]⟩, .slice none 0 0, .slice none 0 0, .slice none 0 0] 34)).heap[w.heap.size + 1]? = some (.cells #[.int .i64 0, .string ⟨#[]⟩, .int .i64 0, .int .i64 0, .int .i64 0, .string ⟨#[]⟩, .slice none 0 0, .slice none 0 0, .slice none 0 0] 34) from blk_new (by simp))
  have HZ := Lib.hid (show ((w.alloc (.cells #[.int .i64 y.fAt.fNode, .string y.fAt.fName, .int .i64 y.fValue, .int .i64 y.fOwner, .int .i64 y.fLiteral, .string y.fRule, .slice a6 y.fIds.length c6, .slice a7 y.fShape.length c7, .slice a8 y.fReads.length c8] 34)).alloc (.cells #[.int .i64 0, .string ⟨#[]⟩, .int .i64 0, .int .i64 0, .int .i64 0, .string ⟨#[]⟩, .slice none 0 0, .slice none 0 0, .slice none 0 0] 34)).heap.size = w.heap.size + 2 by simp)
  have HS6 := Lib.hid (hs6.later HB.out hhi)
  have HS7 := Lib.hid (hs7.later HB.out hhi)
  have HS8 := Lib.hid (hs8.later HB.out hhi)
  have HHI := Lib.hid hhi
  clear hs6 hs7 hs8 hhi
  go_enter Try.func21, Try.ntmps21
  go_wp2_with fail
  generalize ((w.alloc (.cells #[.int .i64 y.fAt.fNode, .string y.fAt.fName, .int .i64 y.fValue, .int .i64 y.fOwner, .int .i64 y.fLiteral, .string y.fRule, .slice a6 y.fIds.length c6, .slice a7 y.fShape.length c7, .slice a8 y.fReads.length c8] 34)).alloc (.cells #[.int .i64 0, .string ⟨#[]⟩, .int .i64 0, .int .i64 0, .int .i64 0, .string ⟨#[]⟩, .slice none 0 0, .slice none 0 0, .slice none 0 0] 34)) = w0 at *
  refine wp_region_freeL [([], .none, []), ([0], .none, []), ([1], .none, []), ([], .none, []), ([3], .none, []), ([4], .none, []), ([], .none, []), ([6], .none, []), ([7], .none, []), ([], .none, []), ([9, 2], .old, []), ([], .none, [10]), ([11, 10, 2, 5], .again 10 10, [10]), ([], .none, [10]), ([13, 12, 2, 5, 8], .again 10 12, [10])] [0, 1, 2, 3, 4, 5, 6, 7, 8, 9, 11, 13, 14] [10] (fun _ => False) (fun _ => True) (fun jq9 => match jq9 with | 10 => w.heap.size | _ => 0) (fun jq9 V L H wx => match jq9 with | 0 => V 0 = .pointer (some ⟨w.heap.size, 6, none⟩) | 1 => V 1 = .slice a6 y.fIds.length c6 | 2 => ∃ b6 d6, V 2 = .slice b6 y.fIds.length d6 ∧ Own wx (fun z => L ≤ z ∧ z < H) (.sl 1 y.fIds.length (fun k => ictI (y.fIds.getD k default))) (.slice b6 y.fIds.length d6) | 3 => V 3 = .pointer (some ⟨w.heap.size, 7, none⟩) | 4 => V 4 = .slice a7 y.fShape.length c7 | 5 => ∃ b7 d7, V 5 = .slice b7 y.fShape.length d7 ∧ Own wx (fun z => L ≤ z ∧ z < H) (.sl 1 y.fShape.length (fun k => ictI (y.fShape.getD k default))) (.slice b7 y.fShape.length d7) | 6 => V 6 = .pointer (some ⟨w.heap.size, 8, none⟩) | 7 => V 7 = .slice a8 y.fReads.length c8 | 8 => ∃ b8 d8, V 8 = .slice b8 y.fReads.length d8 ∧ Own wx (fun z => L ≤ z ∧ z < H) (.sl 4 y.fReads.length (fun k => DReading.ct (y.fReads.getD k default))) (.slice b8 y.fReads.length d8) | 9 => V 9 = .pointer (some ⟨w.heap.size, 6, none⟩) | 10 => wx.heap[w.heap.size]? = some (.cells #[.int .i64 y.fAt.fNode, .string y.fAt.fName, .int .i64 y.fValue, .int .i64 y.fOwner, .int .i64 y.fLiteral, .string y.fRule, V 2, .slice a7 y.fShape.length c7, .slice a8 y.fReads.length c8] 34) | 11 => V 11 = .pointer (some ⟨w.heap.size, 7, none⟩) | 12 => wx.heap[w.heap.size]? = some (.cells #[.int .i64 y.fAt.fNode, .string y.fAt.fName, .int .i64 y.fValue, .int .i64 y.fOwner, .int .i64 y.fLiteral, .string y.fRule, V 2, V 5, .slice a8 y.fReads.length c8] 34) | 13 => V 13 = .pointer (some ⟨w.heap.size, 8, none⟩) | 14 => wx.heap[w.heap.size]? = some (.cells #[.int .i64 y.fAt.fNode, .string y.fAt.fName, .int .i64 y.fValue, .int .i64 y.fOwner, .int .i64 y.fLiteral, .string y.fRule, V 2, V 5, V 8] 34) | _ => True) (by kernel_rfl) (by kernel_rfl) ?obs (fun _ h => h.elim) trivial (fun _ _ _ _ _ => trivial) ?loc ?lasts ?walk
  case obs =>
    exact (And.intro (And.intro (show w.heap.size < w0.heap.size by have := HZ.out; omega) (fun h => h)) (And.intro (trivial) (trivial)))
  case loc =>
    intro k V V' L H wx h0 h1 hG
    match k with
    | 0 =>
      try dsimp only at hG ⊢
      rw [← h0]
      exact hG
    | 1 =>
      try dsimp only at hG ⊢
      rw [← h0]
      exact hG
    | 2 =>
      try dsimp only at hG ⊢
      rw [← h0]
      exact hG
    | 3 =>
      try dsimp only at hG ⊢
      rw [← h0]
      exact hG
    | 4 =>
      try dsimp only at hG ⊢
      rw [← h0]
      exact hG
    | 5 =>
      try dsimp only at hG ⊢
      rw [← h0]
      exact hG
    | 6 =>
      try dsimp only at hG ⊢
      rw [← h0]
      exact hG
    | 7 =>
      try dsimp only at hG ⊢
      rw [← h0]
      exact hG
    | 8 =>
      try dsimp only at hG ⊢
      rw [← h0]
      exact hG
    | 9 =>
      try dsimp only at hG ⊢
      rw [← h0]
      exact hG
    | 10 =>
      have e2 := h1 2 (by decide)
      try dsimp only at hG ⊢
      rw [← e2]
      exact hG
    | 11 =>
      try dsimp only at hG ⊢
      rw [← h0]
      exact hG
    | 12 =>
      have e2 := h1 2 (by decide)
      have e5 := h1 5 (by decide)
      try dsimp only at hG ⊢
      rw [← e2, ← e5]
      exact hG
    | 13 =>
      try dsimp only at hG ⊢
      rw [← h0]
      exact hG
    | 14 =>
      have e2 := h1 2 (by decide)
      have e5 := h1 5 (by decide)
      have e8 := h1 8 (by decide)
      try dsimp only at hG ⊢
      rw [← e2, ← e5, ← e8]
      exact hG
    | n + 15 => trivial
  case lasts =>
    intro i hi V L H wx wy hB hH hk
    match i, hi with
    | 0, _ => exact fun h => h
    | 1, _ => exact fun h => h
    | 2, _ => exact fun ⟨b6, d6, hv, ho0⟩ => ⟨b6, d6, hv, ho0.kept (hk.sub fun x hx => .inr (.inl hx))⟩
    | 3, _ => exact fun h => h
    | 4, _ => exact fun h => h
    | 5, _ => exact fun ⟨b7, d7, hv, ho0⟩ => ⟨b7, d7, hv, ho0.kept (hk.sub fun x hx => .inr (.inl hx))⟩
    | 6, _ => exact fun h => h
    | 7, _ => exact fun h => h
    | 8, _ => exact fun ⟨b8, d8, hv, ho0⟩ => ⟨b8, d8, hv, ho0.kept (hk.sub fun x hx => .inr (.inl hx))⟩
    | 9, _ => exact fun h => h
    | 10, _ => exact fun h => (hk.2 (w.heap.size) (.inr (.inr (.inl ⟨rfl, rfl⟩))) (Nat.lt_of_lt_of_le (show w.heap.size < w0.heap.size by have := HZ.out; omega) hB)).trans h
    | 11, _ => exact fun h => h
    | 12, _ => exact fun h => (hk.2 (w.heap.size) (.inr (.inr (.inr ⟨_, _, rfl, rfl⟩))) (Nat.lt_of_lt_of_le (show w.heap.size < w0.heap.size by have := HZ.out; omega) hB)).trans h
    | 13, _ => exact fun h => h
    | 14, _ => exact fun h => (hk.2 (w.heap.size) (.inr (.inr (.inr ⟨_, _, rfl, rfl⟩))) (Nat.lt_of_lt_of_le (show w.heap.size < w0.heap.size by have := HZ.out; omega) hB)).trans h
    | n + 15, hn => exact absurd hn (by simp)
  case walk =>
    simp (maxSteps := 4000000) only [freeL, Nat.reduceAdd, Act.put, List.setIfInBounds_toArray, List.set_cons_succ, List.set_cons_zero]
    refine ⟨?_, ?_, ?_, ?_, ?_, ?_, ?_, ?_, ?_, ?_, ?_, ?_, ?_, ?_, ?_, ?_⟩
    · intro V L H w1 hw hk hj hd
      clear hd
      go_wp2_with fail
      exact freePost _ rfl ⟨⟨WritesF.refl _ _, hj⟩, upd_self⟩
    · intro V L H w1 hw hk hj hd
      obtain ⟨⟨hL0, hM0, hH0, hv0⟩, -⟩ := hd
      rw [hv0]
      have HV0 := Lib.hid hv0
      clear hv0
      have e6 : w1.cell? ⟨w.heap.size, 6, none⟩ = some (.slice a6 y.fIds.length c6) := (hk.cell (p := ⟨w.heap.size, 6, none⟩) ⟨(show w.heap.size < w0.heap.size by have := HZ.out; omega), fun h => h, trivial⟩ (show w.heap.size < w0.heap.size by have := HZ.out; omega)).trans (pblk_cell HBE.out rfl)
      go_wp2_with fail
      exact freePost _ rfl ⟨⟨WritesF.refl _ _, hj⟩, upd_self⟩
    · intro V L H w1 hw hk hj hd
      obtain ⟨⟨hL1, hM1, hH1, hv1⟩, -⟩ := hd
      rw [hv1]
      have HV1 := Lib.hid hv1
      clear hv1
      have HSL := Lib.hid (sl_keptE HS6.out hk (fun b h1 h2 => ⟨by have := HZ.out; have := HHI.out; omega, fun h => h, trivial⟩) (by have := HZ.out; have := HHI.out; omega))
      go_wp2_with fail
      refine (clone_int (c := c6) y.fIds (by omega) w1 (Nat.le_trans HHI.out (Nat.le_trans HB.out.size hk.1)) HSL.out).mono ?_
      rintro e w2 ⟨b6, d6, rfl, ho2, hb2⟩
      go_wp2_with fail
      exact freePost _ rfl ⟨⟨(WritesF.refl _ _).later hb2, trivial⟩, Exists.intro b6 (Exists.intro d6 (And.intro (upd_self) (ho2)))⟩
    · intro V L H w1 hw hk hj hd
      clear hd
      go_wp2_with fail
      exact freePost _ rfl ⟨⟨WritesF.refl _ _, hj⟩, upd_self⟩
    · intro V L H w1 hw hk hj hd
      obtain ⟨⟨hL3, hM3, hH3, hv3⟩, -⟩ := hd
      rw [hv3]
      have HV3 := Lib.hid hv3
      clear hv3
      have e7 : w1.cell? ⟨w.heap.size, 7, none⟩ = some (.slice a7 y.fShape.length c7) := (hk.cell (p := ⟨w.heap.size, 7, none⟩) ⟨(show w.heap.size < w0.heap.size by have := HZ.out; omega), fun h => h, trivial⟩ (show w.heap.size < w0.heap.size by have := HZ.out; omega)).trans (pblk_cell HBE.out rfl)
      go_wp2_with fail
      exact freePost _ rfl ⟨⟨WritesF.refl _ _, hj⟩, upd_self⟩
    · intro V L H w1 hw hk hj hd
      obtain ⟨⟨hL4, hM4, hH4, hv4⟩, -⟩ := hd
      rw [hv4]
      have HV4 := Lib.hid hv4
      clear hv4
      have HSL := Lib.hid (sl_keptE HS7.out hk (fun b h1 h2 => ⟨by have := HZ.out; have := HHI.out; omega, fun h => h, trivial⟩) (by have := HZ.out; have := HHI.out; omega))
      go_wp2_with fail
      refine (clone_int (c := c7) y.fShape (by omega) w1 (Nat.le_trans HHI.out (Nat.le_trans HB.out.size hk.1)) HSL.out).mono ?_
      rintro e w2 ⟨b7, d7, rfl, ho2, hb2⟩
      go_wp2_with fail
      exact freePost _ rfl ⟨⟨(WritesF.refl _ _).later hb2, trivial⟩, Exists.intro b7 (Exists.intro d7 (And.intro (upd_self) (ho2)))⟩
    · intro V L H w1 hw hk hj hd
      clear hd
      go_wp2_with fail
      exact freePost _ rfl ⟨⟨WritesF.refl _ _, hj⟩, upd_self⟩
    · intro V L H w1 hw hk hj hd
      obtain ⟨⟨hL6, hM6, hH6, hv6⟩, -⟩ := hd
      rw [hv6]
      have HV6 := Lib.hid hv6
      clear hv6
      have e8 : w1.cell? ⟨w.heap.size, 8, none⟩ = some (.slice a8 y.fReads.length c8) := (hk.cell (p := ⟨w.heap.size, 8, none⟩) ⟨(show w.heap.size < w0.heap.size by have := HZ.out; omega), fun h => h, trivial⟩ (show w.heap.size < w0.heap.size by have := HZ.out; omega)).trans (pblk_cell HBE.out rfl)
      go_wp2_with fail
      exact freePost _ rfl ⟨⟨WritesF.refl _ _, hj⟩, upd_self⟩
    · intro V L H w1 hw hk hj hd
      obtain ⟨⟨hL7, hM7, hH7, hv7⟩, -⟩ := hd
      rw [hv7]
      have HV7 := Lib.hid hv7
      clear hv7
      have HSL := Lib.hid (sl_keptE HS8.out hk (fun b h1 h2 => ⟨by have := HZ.out; have := HHI.out; omega, fun h => h, trivial⟩) (by have := HZ.out; have := HHI.out; omega))
      go_wp2_with fail
      refine (clone_Reading (c := c8) y.fReads (by omega) w1 (Nat.le_trans HHI.out (Nat.le_trans HB.out.size hk.1)) HSL.out).mono ?_
      rintro e w2 ⟨b8, d8, rfl, ho2, hb2⟩
      go_wp2_with fail
      exact freePost _ rfl ⟨⟨(WritesF.refl _ _).later hb2, trivial⟩, Exists.intro b8 (Exists.intro d8 (And.intro (upd_self) (ho2)))⟩
    · intro V L H w1 hw hk hj hd
      clear hd
      go_wp2_with fail
      exact freePost _ rfl ⟨⟨WritesF.refl _ _, hj⟩, upd_self⟩
    · intro V L H w1 hw hk hj hd
      obtain ⟨⟨hL9, hM9, hH9, hv9⟩, ⟨hL2, hM2, hH2, b6, d6, hv2, ho2_0⟩, -⟩ := hd
      rw [hv9, hv2]
      have HV9 := Lib.hid hv9
      have HV2 := Lib.hid hv2
      clear hv9 hv2
      have hblk : w1.heap[w.heap.size]? = some (.cells #[.int .i64 y.fAt.fNode, .string y.fAt.fName, .int .i64 y.fValue, .int .i64 y.fOwner, .int .i64 y.fLiteral, .string y.fRule, .slice a6 y.fIds.length c6, .slice a7 y.fShape.length c7, .slice a8 y.fReads.length c8] 34) := (hk.2 w.heap.size ⟨(show w.heap.size < w0.heap.size by have := HZ.out; omega), fun h => h, trivial⟩ (show w.heap.size < w0.heap.size by have := HZ.out; omega)).trans HBE.out
      have hc_0 := pblk_cell (j := 6) (v := .slice a6 y.fIds.length c6) hblk rfl
      have hf_0 := pblk_frozen (j := 6) hblk
      have HBLK := Lib.hid hblk
      clear hblk
      go_wp2_with fail
      refine freePost undef rfl ⟨Touches.put (L := w.heap.size) (H := w.heap.size + 1) Touches.refl (p := ⟨w.heap.size, 6, none⟩) ⟨Nat.le_refl _, Nat.lt_succ_self _⟩ _, ?_⟩
      show (World.heap _)[w.heap.size]? = some (.cells #[.int .i64 y.fAt.fNode, .string y.fAt.fName, .int .i64 y.fValue, .int .i64 y.fOwner, .int .i64 y.fLiteral, .string y.fRule, (upd V 10 undef) 2, .slice a7 y.fShape.length c7, .slice a8 y.fReads.length c8] 34)
      rw [show (upd V 10 undef) 2 = _ from (upd_ne (by decide)).trans HV2.out]
      exact pblk_put HBLK.out rfl
    · intro V L H w1 hw hk hj hd
      clear hd
      go_wp2_with fail
      exact freePost _ rfl ⟨⟨WritesF.refl _ _, hj⟩, upd_self⟩
    · intro V L H w1 hw hk hj hd
      obtain ⟨⟨hL11, hM11, hH11, hv11⟩, ⟨hL10, hM10, hH10, hst10_⟩, ⟨hL2, hM2, hH2, b6, d6, hv2, ho2_0⟩, ⟨hL5, hM5, hH5, b7, d7, hv5, ho5_0⟩, -⟩ := hd
      rw [hv11, hv2, hv5]
      have HV11 := Lib.hid hv11
      have HV2 := Lib.hid hv2
      have HV5 := Lib.hid hv5
      clear hv11 hv2 hv5
      have hblk := hst10_
      rw [HV2.out] at hblk
      have hc_0 := pblk_cell (j := 7) (v := .slice a7 y.fShape.length c7) hblk rfl
      have hf_0 := pblk_frozen (j := 7) hblk
      have HBLK := Lib.hid hblk
      clear hblk
      go_wp2_with fail
      refine freePost undef rfl ⟨Touches.put (L := w.heap.size) (H := w.heap.size + 1) Touches.refl (p := ⟨w.heap.size, 7, none⟩) ⟨Nat.le_refl _, Nat.lt_succ_self _⟩ _, ?_⟩
      show (World.heap _)[w.heap.size]? = some (.cells #[.int .i64 y.fAt.fNode, .string y.fAt.fName, .int .i64 y.fValue, .int .i64 y.fOwner, .int .i64 y.fLiteral, .string y.fRule, (upd V 12 undef) 2, (upd V 12 undef) 5, .slice a8 y.fReads.length c8] 34)
      rw [show (upd V 12 undef) 2 = _ from (upd_ne (by decide)).trans HV2.out]
      rw [show (upd V 12 undef) 5 = _ from (upd_ne (by decide)).trans HV5.out]
      exact pblk_put HBLK.out rfl
    · intro V L H w1 hw hk hj hd
      clear hd
      go_wp2_with fail
      exact freePost _ rfl ⟨⟨WritesF.refl _ _, hj⟩, upd_self⟩
    · intro V L H w1 hw hk hj hd
      obtain ⟨⟨hL13, hM13, hH13, hv13⟩, ⟨hL12, hM12, hH12, hst12_⟩, ⟨hL2, hM2, hH2, b6, d6, hv2, ho2_0⟩, ⟨hL5, hM5, hH5, b7, d7, hv5, ho5_0⟩, ⟨hL8, hM8, hH8, b8, d8, hv8, ho8_0⟩, -⟩ := hd
      rw [hv13, hv2, hv5, hv8]
      have HV13 := Lib.hid hv13
      have HV2 := Lib.hid hv2
      have HV5 := Lib.hid hv5
      have HV8 := Lib.hid hv8
      clear hv13 hv2 hv5 hv8
      have hblk := hst12_
      rw [HV2.out] at hblk
      rw [HV5.out] at hblk
      have hc_0 := pblk_cell (j := 8) (v := .slice a8 y.fReads.length c8) hblk rfl
      have hf_0 := pblk_frozen (j := 8) hblk
      have HBLK := Lib.hid hblk
      clear hblk
      go_wp2_with fail
      refine freePost undef rfl ⟨Touches.put (L := w.heap.size) (H := w.heap.size + 1) Touches.refl (p := ⟨w.heap.size, 8, none⟩) ⟨Nat.le_refl _, Nat.lt_succ_self _⟩ _, ?_⟩
      show (World.heap _)[w.heap.size]? = some (.cells #[.int .i64 y.fAt.fNode, .string y.fAt.fName, .int .i64 y.fValue, .int .i64 y.fOwner, .int .i64 y.fLiteral, .string y.fRule, (upd V 14 undef) 2, (upd V 14 undef) 5, (upd V 14 undef) 8] 34)
      rw [show (upd V 14 undef) 2 = _ from (upd_ne (by decide)).trans HV2.out]
      rw [show (upd V 14 undef) 5 = _ from (upd_ne (by decide)).trans HV5.out]
      rw [show (upd V 14 undef) 8 = _ from (upd_ne (by decide)).trans HV8.out]
      exact pblk_put HBLK.out rfl
    · intro V L H w1 hw hj hd hap hdead
      obtain ⟨⟨hL0, hM0, hH0, hv0⟩, ⟨hL1, hM1, hH1, hv1⟩, ⟨hL2, hM2, hH2, b6, d6, hv2, ho2_0⟩, ⟨hL3, hM3, hH3, hv3⟩, ⟨hL4, hM4, hH4, hv4⟩, ⟨hL5, hM5, hH5, b7, d7, hv5, ho5_0⟩, ⟨hL6, hM6, hH6, hv6⟩, ⟨hL7, hM7, hH7, hv7⟩, ⟨hL8, hM8, hH8, b8, d8, hv8, ho8_0⟩, ⟨hL9, hM9, hH9, hv9⟩, ⟨hL11, hM11, hH11, hv11⟩, ⟨hL13, hM13, hH13, hv13⟩, ⟨hL14, hM14, hH14, hst14_⟩, -⟩ := hd
      have pb14 := hst14_
      rw [hv2] at pb14
      rw [hv5] at pb14
      rw [hv8] at pb14
      rw [hv0, hv1, hv2, hv3, hv4, hv5, hv6, hv7, hv8, hv9, hv11, hv13]
      clear hv0 hv1 hv2 hv3 hv4 hv5 hv6 hv7 hv8 hv9 hv11 hv13
      have HBW := Lib.hid (show WritesF (fun y => y = w.heap.size) w0 w1 from hw.sub (fun y hy => hy.elim (fun h => h.elim) (fun h => by
        by_cases e : y = w.heap.size
        · exact e
        · exact absurd (show y ≠ w.heap.size ∧ True from ⟨e, trivial⟩) h)))
      have HBF := Lib.hid pb14
      have HBG := Lib.hid ((HBW.out.block (w.heap.size + 1) (by have := HZ.out; omega) (by show ¬ w.heap.size + 1 = w.heap.size; omega)).trans HBZ.out)
      have HO6 := Lib.hid ho2_0
      have HO7 := Lib.hid ho5_0
      have HO8 := Lib.hid ho8_0
      have HA1 := Lib.hid (hap 2 5 (by decide) (by decide) (by decide))
      have HA2 := Lib.hid (hap 2 8 (by decide) (by decide) (by decide))
      have HA3 := Lib.hid (hap 5 8 (by decide) (by decide) (by decide))
      have HL2 := Lib.hid (show w0.heap.size ≤ L 2 from hL2)
      have HL5 := Lib.hid (show w0.heap.size ≤ L 5 from hL5)
      have HL8 := Lib.hid (show w0.heap.size ≤ L 8 from hL8)
      have HH2 := Lib.hid hH2
      have HH5 := Lib.hid hH5
      have HH8 := Lib.hid hH8
      clear pb14 ho2_0 ho5_0 ho8_0 hap hdead hw hj hL2 hL5 hL8 hH2 hH5 hH8
      generalize L 2 = g2 at *
      generalize L 5 = g5 at *
      generalize L 8 = g8 at *
      generalize H 2 = k2 at *
      generalize H 5 = k5 at *
      generalize H 8 = k8 at *
      go_wp2_with (first | (refine wpList_load_row rfl 34 (.tmp 1) rfl w.heap.size rfl 34 _ _ _ HBF.out Try.underlying34 rfl (by kernel_rfl) ?_) | (refine wpList_store_rowTo rfl 34 (.tmp 2) (.tmp 15) rfl rfl (w.heap.size + 1) _ rfl rfl 34 _ HBG.out (by kernel_rfl) rfl (by simp [Value.oneCell']) ?_))
      refine bodyPost_ret (v := .agg #[.int .i64 y.fAt.fNode, .string y.fAt.fName, .int .i64 y.fValue, .int .i64 y.fOwner, .int .i64 y.fLiteral, .string y.fRule, .slice b6 y.fIds.length d6, .slice b7 y.fShape.length d7, .slice b8 y.fReads.length d8]) (results_cell_row Try.results21 _ _ (w.heap.size + 1) 34 #[.int .i64 y.fAt.fNode, .string y.fAt.fName, .int .i64 y.fValue, .int .i64 y.fOwner, .int .i64 y.fLiteral, .string y.fRule, .slice b6 y.fIds.length d6, .slice b7 y.fShape.length d7, .slice b8 y.fReads.length d8] (0, 0) _ rfl (setRow_heap _ _ _ _ _ _ HBG.out) Try.underlying34 rfl (by kernel_rfl)) rfl ⟨⟨b6, b7, b8, d6, d7, d8, rfl, ?_⟩, ?_⟩
      · have hk : Kept (fun y => w.heap.size + 2 ≤ y) w1 (w1.setRow (w.heap.size + 1) #[.int .i64 y.fAt.fNode, .string y.fAt.fName, .int .i64 y.fValue, .int .i64 y.fOwner, .int .i64 y.fLiteral, .string y.fRule, .slice b6 y.fIds.length d6, .slice b7 y.fShape.length d7, .slice b8 y.fReads.length d8]) := kept_setRow Kept.refl (by show ¬ w.heap.size + 2 ≤ w.heap.size + 1; omega)
        have hsz := hk.1
        have a1 := HA1.out; have a2 := HA2.out; have a3 := HA3.out; have l2 := HL2.out; have l5 := HL5.out; have l8 := HL8.out; have m2 := HH2.out; have m5 := HH5.out; have m8 := HH8.out; have z0 := HZ.out
        refine OwnR.append (F1 := fun _ => False) (F2 := fun z => (g2 ≤ z ∧ z < k2) ∨ (g5 ≤ z ∧ z < k5) ∨ (g8 ≤ z ∧ z < k8)) (m := 6) (n := 3) ?_ ?_ (fun _ h _ => h) (fun _ h => h.elim) (fun z h => by rcases h with h | h | h <;> exact ⟨by omega, by omega⟩)
        · refine OwnR.lits (F := fun _ => False) fun j hj => ?_
          match j, hj with
          | 0, _ | 1, _ | 2, _ | 3, _ | 4, _ | 5, _ => rfl
        · refine OwnR.append (F1 := fun z => g2 ≤ z ∧ z < k2) (F2 := fun z => (g5 ≤ z ∧ z < k5) ∨ (g8 ≤ z ∧ z < k8)) (m := 1) (n := 2) ?_ ?_ (fun z h1 h2 => by rcases h2 with h2 | h2 <;> omega) (fun z h => .inl h) (fun z h => .inr h)
          · exact OwnR.one (HO6.out.kept (hk.sub fun z hz => by omega))
          · refine OwnR.append (F1 := fun z => g5 ≤ z ∧ z < k5) (F2 := fun z => g8 ≤ z ∧ z < k8) (m := 1) (n := 1) ?_ ?_ (fun z h1 h2 => by omega) (fun z h => .inl h) (fun z h => .inr h)
            · exact OwnR.one (HO7.out.kept (hk.sub fun z hz => by omega))
            · exact OwnR.one (HO8.out.kept (hk.sub fun z hz => by omega))
      · exact pile_setRow (HB.out.trans (HBW.out.below (fun z h => by show w.heap.size ≤ z; have : z = w.heap.size := h; omega) HB.out.size)) (by omega) _

theorem impl_FindEntryO {lo hi n1 c0 c1 : Nat} {a0 a1 : Option Addr} (l : List DEntry) (hzl : lsz DEntry.sz l ≤ 1048576) (x : DInstance) (w : World) (hhi : hi ≤ w.heap.size) (hs : Sl lo hi w 9 l.length (fun k => DEntry.ct (l.getD k default)) a0) :
    Calls Try.prog 9 #[.agg #[.slice a0 l.length c0, .slice a1 n1 c1], .agg #[.int .i64 x.fNode, .string x.fName]] w fun e w' => EntAns w.heap.size (entE l x) (entB l x) w' e ∧ Below w.heap.size w w' :=
  impl_FindEntryOf impl_copyEntry l hzl x w hhi hs
end Go.Proofs.Ythgpompoionfoaa
