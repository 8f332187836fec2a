/-
  FormatSymbol, in the model and in the program.
-/
import Derived.Test.YteeehpldkhceoaaFmtSymM
import Derived.Test.YteeehpldkhceoaaFreeA
import Derived.BigQuiet
namespace Go.Proofs.Yteeehpldkhceoaa
open Go.ChangeShapes Go.WideShapes Go.ChangeAt Go.RowKit Go.Deep

theorem ret_st2 {a b : ByteArray} (h : a = b) : Ending.returned (.string a) = .returned (.string b) := by rw [h]

set_option maxHeartbeats 3200000 in
set_option maxRecDepth 100000 in
theorem spec_l8Modes (w : World) : Calls Try.prog 11 #[] w fun e w' => e = .returned (.slice (some ⟨w.heap.size, 0, none⟩) 4 4) ∧ w' = w.alloc (.cells #[.string ⟨#[]⟩, .string ⟨#[105, 110, 104]⟩, .string ⟨#[115, 121, 110]⟩, .string ⟨#[99, 111, 108]⟩] 9) := by
  go_enter Try.func11, Try.ntmps11
  go_wp2
  go_ret
  exact ⟨rfl, rfl⟩

set_option maxHeartbeats 3200000 in
set_option maxRecDepth 100000 in
theorem spec_l8Types (w : World) : Calls Try.prog 12 #[] w fun e w' => e = .returned (.slice (some ⟨w.heap.size, 0, none⟩) 5 5) ∧ w' = w.alloc (.cells #[.string ⟨#[]⟩, .string ⟨#[110, 117, 109]⟩, .string ⟨#[115, 101, 116]⟩, .string ⟨#[98, 111, 111, 108]⟩, .string ⟨#[110, 111, 100, 101]⟩] 9) := by
  go_enter Try.func12, Try.ntmps12
  go_wp2
  go_ret
  exact ⟨rfl, rfl⟩

set_option maxHeartbeats 3200000 in
set_option maxRecDepth 100000 in
theorem impl_modeWords (w : World) : Calls Try.prog 26 #[] w fun e w' => e = .returned (.slice (some ⟨w.heap.size, 0, none⟩) 4 4) ∧ w' = w.alloc (.cells #[.string ⟨#[]⟩, .string ⟨#[105, 110, 104]⟩, .string ⟨#[115, 121, 110]⟩, .string ⟨#[99, 111, 108]⟩] 9) := by
  go_enter Try.func26, Try.ntmps26
  go_wp2
  go_ret
  exact ⟨rfl, rfl⟩

set_option maxHeartbeats 3200000 in
set_option maxRecDepth 100000 in
theorem impl_typeWords (w : World) : Calls Try.prog 27 #[] w fun e w' => e = .returned (.slice (some ⟨w.heap.size, 0, none⟩) 5 5) ∧ w' = w.alloc (.cells #[.string ⟨#[]⟩, .string ⟨#[110, 117, 109]⟩, .string ⟨#[115, 101, 116]⟩, .string ⟨#[98, 111, 111, 108]⟩, .string ⟨#[110, 111, 100, 101]⟩] 9) := by
  go_enter Try.func27, Try.ntmps27
  go_wp2
  go_ret
  exact ⟨rfl, rfl⟩

set_option maxHeartbeats 3200000 in
set_option maxRecDepth 100000 in
theorem impl_formatAttribute (an : ByteArray) (m t : Nat) (cc : Bool) (han : an.size ≤ 1048576) (hm4 : m < 4) (ht5 : t < 5) (w : World) :
    Calls Try.prog 15 #[.agg #[.string an, .int .i64 (t : Int), .int .i64 (m : Int), .bool cc]] w fun e w' => e = .returned (.string (if cc then attrW an m t ++ ⟨#[33]⟩ else attrW an m t)) ∧ Below w.heap.size w w' := by
  have HB0 := Lib.hid ((Below.refl w.heap.size w).alloc (Nat.le_refl _) (.cells #[.string an, .int .i64 (t : Int), .int .i64 (m : Int), .bool cc] 36))
  have HBX := Lib.hid (show (w.alloc (.cells #[.string an, .int .i64 (t : Int), .int .i64 (m : Int), .bool cc] 36)).heap[w.heap.size]? = some (.cells #[.string an, .int .i64 (t : Int), .int .i64 (m : Int), .bool cc] 36) from blk_new rfl)
  have HBXL := Lib.hid (show w.heap.size < (w.alloc (.cells #[.string an, .int .i64 (t : Int), .int .i64 (m : Int), .bool cc] 36)).heap.size by simp)
  have hmz := mW_size m
  have htz := tW_size t
  have hz58 : (⟨#[58]⟩ : ByteArray).size = 1 := rfl
  have hz32 : (⟨#[32]⟩ : ByteArray).size = 1 := rfl
  have hz33 : (⟨#[33]⟩ : ByteArray).size = 1 := rfl
  have hadd0 := fun w' => run_string_add (P := Try.prog) w' an ⟨#[58]⟩ (by first | omega | (simp only [sz_app, hz58, hz32]; omega)) (by first | omega | (simp only [hz58, hz32, hz33]; omega))
  have hadd1 := fun w' => run_string_add (P := Try.prog) w' (an ++ ⟨#[58]⟩) (mW m) (by first | omega | (simp only [sz_app, hz58, hz32]; omega)) (by first | omega | (simp only [hz58, hz32, hz33]; omega))
  have hadd2 := fun w' => run_string_add (P := Try.prog) w' ((an ++ ⟨#[58]⟩) ++ mW m) ⟨#[58]⟩ (by first | omega | (simp only [sz_app, hz58, hz32]; omega)) (by first | omega | (simp only [hz58, hz32, hz33]; omega))
  have hadd3 := fun w' => run_string_add (P := Try.prog) w' (((an ++ ⟨#[58]⟩) ++ mW m) ++ ⟨#[58]⟩) (tW t) (by first | omega | (simp only [sz_app, hz58, hz32]; omega)) (by first | omega | (simp only [hz58, hz32, hz33]; omega))
  have hadd4 := fun w' => run_string_add (P := Try.prog) w' ((((an ++ ⟨#[58]⟩) ++ mW m) ++ ⟨#[58]⟩) ++ tW t) ⟨#[33]⟩ (by first | omega | (simp only [sz_app, hz58, hz32]; omega)) (by first | omega | (simp only [hz58, hz32, hz33]; omega))
  have hmi : (0 : Int) ≤ (m : Int) ∧ (m : Int) < 4 := by omega
  have hti : (0 : Int) ≤ (t : Int) ∧ (t : Int) < 5 := by omega
  clear hz58 hz32 hz33 hmz htz
  unfold attrW
  go_enter Try.func15, Try.ntmps15
  go_wp2_with fail
  refine wp_region_freeK [([], .none, []), ([0], .none, []), ([1], .none, []), ([], .none, []), ([], .none, []), ([4], .none, []), ([3, 5], .none, []), ([3, 6], .none, []), ([2, 7], .none, []), ([8], .none, []), ([], .none, []), ([], .none, []), ([11], .none, []), ([10, 12], .none, []), ([10, 13], .none, []), ([9, 14], .none, []), ([15], .none, [])] [0, 1, 2, 3, 4, 5, 6, 7, 8, 9, 10, 11, 12, 13, 14, 15, 16] [] (fun _ => False) (fun _ => True) (fun _ => 0) (fun jq9 V L H wx => match jq9 with | 0 => V 0 = .pointer (some ⟨w.heap.size, 0, none⟩) | 1 => V 1 = .string (an) | 2 => V 2 = .string (an ++ ⟨#[58]⟩) | 3 => V 3 = .slice (some ⟨L, 0, none⟩) 4 4 ∧ wx.heap[L]? = some (.cells #[.string ⟨#[]⟩, .string ⟨#[105, 110, 104]⟩, .string ⟨#[115, 121, 110]⟩, .string ⟨#[99, 111, 108]⟩] 9) ∧ L < H | 4 => V 4 = .pointer (some ⟨w.heap.size, 2, none⟩) | 5 => V 5 = .int .i64 (m : Int) | 6 => ∃ b6, V 6 = .pointer (some ⟨b6, m, none⟩) ∧ V 3 = .slice (some ⟨b6, 0, none⟩) 4 4 | 7 => V 7 = .string (mW m) | 8 => V 8 = .string ((an ++ ⟨#[58]⟩) ++ mW m) | 9 => V 9 = .string (((an ++ ⟨#[58]⟩) ++ mW m) ++ ⟨#[58]⟩) | 10 => V 10 = .slice (some ⟨L, 0, none⟩) 5 5 ∧ wx.heap[L]? = some (.cells #[.string ⟨#[]⟩, .string ⟨#[110, 117, 109]⟩, .string ⟨#[115, 101, 116]⟩, .string ⟨#[98, 111, 111, 108]⟩, .string ⟨#[110, 111, 100, 101]⟩] 9) ∧ L < H | 11 => V 11 = .pointer (some ⟨w.heap.size, 1, none⟩) | 12 => V 12 = .int .i64 (t : Int) | 13 => ∃ b13, V 13 = .pointer (some ⟨b13, t, none⟩) ∧ V 10 = .slice (some ⟨b13, 0, none⟩) 5 5 | 14 => V 14 = .string (tW t) | 15 => V 15 = .string ((((an ++ ⟨#[58]⟩) ++ mW m) ++ ⟨#[58]⟩) ++ tW t) | 16 => V 16 = .string ((((an ++ ⟨#[58]⟩) ++ mW m) ++ ⟨#[58]⟩) ++ tW t) | _ => True) (by kernel_rfl) (by kernel_rfl) ?obs (fun _ h => h.elim) trivial (fun _ _ _ _ _ => trivial) ?loc ?lasts ?walk
  case obs =>
    trivial
  case loc =>
    intro k V V' L H wx h0 h1 hG
    match k with
    | 0 =>
      try dsimp only at hG ⊢
      rw [← h0]
      exact hG
    | 1 =>
      try dsimp only at hG ⊢
      rw [← h0]
      exact hG
    | 2 =>
      try dsimp only at hG ⊢
      rw [← h0]
      exact hG
    | 3 =>
      try dsimp only at hG ⊢
      rw [← h0]
      exact hG
    | 4 =>
      try dsimp only at hG ⊢
      rw [← h0]
      exact hG
    | 5 =>
      try dsimp only at hG ⊢
      rw [← h0]
      exact hG
    | 6 =>
      have e3 := h1 3 (by decide)
      try dsimp only at hG ⊢
      rw [← h0, ← e3]
      exact hG
    | 7 =>
      try dsimp only at hG ⊢
      rw [← h0]
      exact hG
    | 8 =>
      try dsimp only at hG ⊢
      rw [← h0]
      exact hG
    | 9 =>
      try dsimp only at hG ⊢
      rw [← h0]
      exact hG
    | 10 =>
      try dsimp only at hG ⊢
      rw [← h0]
      exact hG
    | 11 =>
      try dsimp only at hG ⊢
      rw [← h0]
      exact hG
    | 12 =>
      try dsimp only at hG ⊢
      rw [← h0]
      exact hG
    | 13 =>
      have e10 := h1 10 (by decide)
      try dsimp only at hG ⊢
      rw [← h0, ← e10]
      exact hG
    | 14 =>
      try dsimp only at hG ⊢
      rw [← h0]
      exact hG
    | 15 =>
      try dsimp only at hG ⊢
      rw [← h0]
      exact hG
    | 16 =>
      try dsimp only at hG ⊢
      rw [← h0]
      exact hG
    | n + 17 => trivial
  case lasts =>
    intro i hi V L H wx wy hB hH hk
    match i, hi with
    | 0, _ => exact fun h => h
    | 1, _ => exact fun h => h
    | 2, _ => exact fun h => h
    | 3, _ => exact fun ⟨hv, ho0, ho1⟩ => ⟨hv, (hk.2 L (.inr (.inl ⟨Nat.le_refl _, ho1⟩)) (Nat.lt_of_lt_of_le ho1 hH)).trans ho0, ho1⟩
    | 4, _ => exact fun h => h
    | 5, _ => exact fun h => h
    | 6, _ => exact fun ⟨b6, hv, ho0⟩ => ⟨b6, hv, ho0⟩
    | 7, _ => exact fun h => h
    | 8, _ => exact fun h => h
    | 9, _ => exact fun h => h
    | 10, _ => exact fun ⟨hv, ho0, ho1⟩ => ⟨hv, (hk.2 L (.inr (.inl ⟨Nat.le_refl _, ho1⟩)) (Nat.lt_of_lt_of_le ho1 hH)).trans ho0, ho1⟩
    | 11, _ => exact fun h => h
    | 12, _ => exact fun h => h
    | 13, _ => exact fun ⟨b13, hv, ho0⟩ => ⟨b13, hv, ho0⟩
    | 14, _ => exact fun h => h
    | 15, _ => exact fun h => h
    | 16, _ => exact fun h => h
    | n + 17, hn => exact absurd hn (by simp)
  case walk =>
    simp (maxSteps := 4000000) only [freeK, effK, Nat.reduceAdd, Act.put, List.setIfInBounds_toArray, List.set_cons_succ, List.set_cons_zero]
    refine ⟨?_, ?_, ?_, ?_, ?_, ?_, ?_, ?_, ?_, ?_, ?_, ?_, ?_, ?_, ?_, ?_, ?_, ?_⟩
    · intro V L H wq hw hk hj hd
      clear hd
      go_wp2_with fail
      exact freePost _ rfl ⟨⟨WritesF.refl _ _, hj⟩, upd_self⟩
    · intro V L H wq hw hk hj hd
      obtain ⟨⟨hL0, hM0, hH0, hv0⟩, -⟩ := hd
      rw [hv0]
      have HV0 := Lib.hid hv0
      clear hv0
      have x1 : wq.cell? ⟨w.heap.size, 0, none⟩ = some (.string an) := (hk.cell (p := ⟨w.heap.size, 0, none⟩) ⟨HBXL.out, id, trivial⟩ HBXL.out).trans (pblk_cell HBX.out rfl)
      go_wp2_with fail
      exact freePost _ rfl ⟨⟨WritesF.refl _ _, hj⟩, upd_self⟩
    · intro V L H wq hw hk hj hd
      obtain ⟨⟨hL1, hM1, hH1, hv1⟩, -⟩ := hd
      rw [hv1]
      have HV1 := Lib.hid hv1
      clear hv1
      go_wp2_with fail
      exact freePost _ rfl ⟨⟨WritesF.refl _ _, hj⟩, upd_self⟩
    · intro V L H wq hw hk hj hd
      clear hd
      go_wp2_with fail
      refine (impl_modeWords wq).mono ?_
      rintro e w2 ⟨rfl, rfl⟩
      have hb2 : Below wq.heap.size wq (wq.alloc (.cells #[.string ⟨#[]⟩, .string ⟨#[105, 110, 104]⟩, .string ⟨#[115, 121, 110]⟩, .string ⟨#[99, 111, 108]⟩] 9)) := (Below.refl _ _).alloc (Nat.le_refl _) _
      go_wp2_with fail
      exact freePost _ rfl ⟨⟨(WritesF.refl _ _).later hb2, trivial⟩, And.intro (upd_self) (And.intro (blk_new rfl) ((by simp)))⟩
    · intro V L H wq hw hk hj hd
      clear hd
      go_wp2_with fail
      exact freePost _ rfl ⟨⟨WritesF.refl _ _, hj⟩, upd_self⟩
    · intro V L H wq hw hk hj hd
      obtain ⟨⟨hL4, hM4, hH4, hv4⟩, -⟩ := hd
      rw [hv4]
      have HV4 := Lib.hid hv4
      clear hv4
      have x5 : wq.cell? ⟨w.heap.size, 2, none⟩ = some (.int .i64 (m : Int)) := (hk.cell (p := ⟨w.heap.size, 2, none⟩) ⟨HBXL.out, id, trivial⟩ HBXL.out).trans (pblk_cell HBX.out rfl)
      go_wp2_with fail
      exact freePost _ rfl ⟨⟨WritesF.refl _ _, hj⟩, upd_self⟩
    · intro V L H wq hw hk hj hd
      obtain ⟨⟨hL3, hM3, hH3, hv3, ho3_0, ho3_1⟩, ⟨hL5, hM5, hH5, hv5⟩, -⟩ := hd
      rw [hv3, hv5]
      have HV3 := Lib.hid hv3
      have HV5 := Lib.hid hv5
      clear hv3 hv5
      go_wp2_with fail
      exact freePost _ rfl ⟨⟨WritesF.refl _ _, hj⟩, Exists.intro (L 3) (And.intro (upd_self) ((upd_ne (by decide)).trans HV3.out))⟩
    · intro V L H wq hw hk hj hd
      obtain ⟨⟨hL3, hM3, hH3, hv3, ho3_0, ho3_1⟩, ⟨hL6, hM6, hH6, b6, hv6, ho6_0⟩, -⟩ := hd
      have HV3 := Lib.hid hv3
      clear hv3
      rw [hv6]
      have HV6 := Lib.hid hv6
      clear hv6
      have e9 : b6 = L 3 := by have h := ho6_0.symm.trans HV3.out; simp only [Value.slice.injEq, Option.some.injEq, Addr.mk.injEq, and_true] at h; exact h
      subst e9
      have hcl := pblk_cell (j := m) (v := .string (mW m)) ho3_0 (mW_cell hm4)
      clear ho6_0
      go_wp2_with fail
      exact freePost _ rfl ⟨⟨WritesF.refl _ _, hj⟩, upd_self⟩
    · intro V L H wq hw hk hj hd
      obtain ⟨⟨hL2, hM2, hH2, hv2⟩, ⟨hL7, hM7, hH7, hv7⟩, -⟩ := hd
      rw [hv2, hv7]
      have HV2 := Lib.hid hv2
      have HV7 := Lib.hid hv7
      clear hv2 hv7
      go_wp2_with fail
      exact freePost _ rfl ⟨⟨WritesF.refl _ _, hj⟩, upd_self⟩
    · intro V L H wq hw hk hj hd
      obtain ⟨⟨hL8, hM8, hH8, hv8⟩, -⟩ := hd
      rw [hv8]
      have HV8 := Lib.hid hv8
      clear hv8
      go_wp2_with fail
      exact freePost _ rfl ⟨⟨WritesF.refl _ _, hj⟩, upd_self⟩
    · intro V L H wq hw hk hj hd
      clear hd
      go_wp2_with fail
      refine (impl_typeWords wq).mono ?_
      rintro e w2 ⟨rfl, rfl⟩
      have hb2 : Below wq.heap.size wq (wq.alloc (.cells #[.string ⟨#[]⟩, .string ⟨#[110, 117, 109]⟩, .string ⟨#[115, 101, 116]⟩, .string ⟨#[98, 111, 111, 108]⟩, .string ⟨#[110, 111, 100, 101]⟩] 9)) := (Below.refl _ _).alloc (Nat.le_refl _) _
      go_wp2_with fail
      exact freePost _ rfl ⟨⟨(WritesF.refl _ _).later hb2, trivial⟩, And.intro (upd_self) (And.intro (blk_new rfl) ((by simp)))⟩
    · intro V L H wq hw hk hj hd
      clear hd
      go_wp2_with fail
      exact freePost _ rfl ⟨⟨WritesF.refl _ _, hj⟩, upd_self⟩
    · intro V L H wq hw hk hj hd
      obtain ⟨⟨hL11, hM11, hH11, hv11⟩, -⟩ := hd
      rw [hv11]
      have HV11 := Lib.hid hv11
      clear hv11
      have x12 : wq.cell? ⟨w.heap.size, 1, none⟩ = some (.int .i64 (t : Int)) := (hk.cell (p := ⟨w.heap.size, 1, none⟩) ⟨HBXL.out, id, trivial⟩ HBXL.out).trans (pblk_cell HBX.out rfl)
      go_wp2_with fail
      exact freePost _ rfl ⟨⟨WritesF.refl _ _, hj⟩, upd_self⟩
    · intro V L H wq hw hk hj hd
      obtain ⟨⟨hL10, hM10, hH10, hv10, ho10_0, ho10_1⟩, ⟨hL12, hM12, hH12, hv12⟩, -⟩ := hd
      rw [hv10, hv12]
      have HV10 := Lib.hid hv10
      have HV12 := Lib.hid hv12
      clear hv10 hv12
      go_wp2_with fail
      exact freePost _ rfl ⟨⟨WritesF.refl _ _, hj⟩, Exists.intro (L 10) (And.intro (upd_self) ((upd_ne (by decide)).trans HV10.out))⟩
    · intro V L H wq hw hk hj hd
      obtain ⟨⟨hL10, hM10, hH10, hv10, ho10_0, ho10_1⟩, ⟨hL13, hM13, hH13, b13, hv13, ho13_0⟩, -⟩ := hd
      have HV10 := Lib.hid hv10
      clear hv10
      rw [hv13]
      have HV13 := Lib.hid hv13
      clear hv13
      have e9 : b13 = L 10 := by have h := ho13_0.symm.trans HV10.out; simp only [Value.slice.injEq, Option.some.injEq, Addr.mk.injEq, and_true] at h; exact h
      subst e9
      have hcl := pblk_cell (j := t) (v := .string (tW t)) ho10_0 (tW_cell ht5)
      clear ho13_0
      go_wp2_with fail
      exact freePost _ rfl ⟨⟨WritesF.refl _ _, hj⟩, upd_self⟩
    · intro V L H wq hw hk hj hd
      obtain ⟨⟨hL9, hM9, hH9, hv9⟩, ⟨hL14, hM14, hH14, hv14⟩, -⟩ := hd
      rw [hv9, hv14]
      have HV9 := Lib.hid hv9
      have HV14 := Lib.hid hv14
      clear hv9 hv14
      go_wp2_with fail
      exact freePost _ rfl ⟨⟨WritesF.refl _ _, hj⟩, upd_self⟩
    · intro V L H wq hw hk hj hd
      obtain ⟨⟨hL15, hM15, hH15, hv15⟩, -⟩ := hd
      rw [hv15]
      have HV15 := Lib.hid hv15
      clear hv15
      go_wp2_with fail
      exact freePost _ rfl ⟨⟨WritesF.refl _ _, hj⟩, upd_self⟩
    · intro V L H wq hw hj hd hap hdead
      obtain ⟨⟨hL0, hM0, hH0, hv0⟩, ⟨hL1, hM1, hH1, hv1⟩, ⟨hL2, hM2, hH2, hv2⟩, ⟨hL3, hM3, hH3, hv3, ho3_0, ho3_1⟩, ⟨hL4, hM4, hH4, hv4⟩, ⟨hL5, hM5, hH5, hv5⟩, ⟨hL6, hM6, hH6, b6, hv6, ho6_0⟩, ⟨hL7, hM7, hH7, hv7⟩, ⟨hL8, hM8, hH8, hv8⟩, ⟨hL9, hM9, hH9, hv9⟩, ⟨hL10, hM10, hH10, hv10, ho10_0, ho10_1⟩, ⟨hL11, hM11, hH11, hv11⟩, ⟨hL12, hM12, hH12, hv12⟩, ⟨hL13, hM13, hH13, b13, hv13, ho13_0⟩, ⟨hL14, hM14, hH14, hv14⟩, ⟨hL15, hM15, hH15, hv15⟩, ⟨hL16, hM16, hH16, hv16⟩, -⟩ := hd
      rw [hv0, hv1, hv2, hv3, hv4, hv5, hv6, hv7, hv8, hv9, hv10, hv11, hv12, hv13, hv14, hv15, hv16]
      clear hv0 hv1 hv2 hv3 hv4 hv5 hv6 hv7 hv8 hv9 hv10 hv11 hv12 hv13 hv14 hv15 hv16
      have HW1 := Lib.hid (fa_noneK hw)
      have HB1 := Lib.hid (HB0.out.trans (HW1.out.mono (by simp)))
      have x3 := (HW1.out.cell (p := ⟨w.heap.size, 3, none⟩) HBXL.out).trans (pblk_cell (j := 3) (v := .bool cc) HBX.out rfl)
      clear hw hj hap hdead
      cases cc
      · go_wp2
        go_ret
        exact ⟨rfl, HB1.out⟩
      · go_wp2
        go_ret
        exact ⟨rfl, HB1.out⟩
end Go.Proofs.Yteeehpldkhceoaa
