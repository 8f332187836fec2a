/-
  The draws of the law on pairs, unions and projections.
-/
import Derived.Test.YtkfonlejblcknaaDrawRel2
namespace Go.Proofs.Ytkfonlejblcknaa
open Go.ChangeShapes Go.WideShapes Go.ChangeAt Go.RowKit Go.Deep

theorem results_cell_tmp2 {P : Program} {fn : Func} {p u1 u2 : Tmp} {ty : TypeId} (h : fn.results = #[.cell p ty, .tmp u1, .tmp u2]) (tmps : Array Value) (w : World) (g : Nat) (t : TypeId) (cs : Array Value) (fr : Nat × Nat) (d : TypeDesc)
    (hp : tmps.getD p undef = .pointer (some ⟨g, 0, none⟩)) (hg : w.heap[g]? = some (.cells cs t fr))
    (hu : P.underlying ty = some d) (hd : (match d with | .struct _ | .array _ _ => true | _ => false) = true) (hi : (P.info? ty).map (·.size) = some cs.size) :
    (results fn tmps).run P w = .ok (.tuple #[.agg cs, tmps.getD u1 undef, tmps.getD u2 undef]) w := by
  have hp' : tmps[p]?.getD undef = .pointer (some ⟨g, 0, none⟩) := by simpa using hp
  simp [results, h, hp', asAddr, run_loadVar_row w g t ty cs fr d hg hu hd hi]
theorem results_cell_cell {P : Program} {fn : Func} {p q : Tmp} {ty ty2 : TypeId} (h : fn.results = #[.cell p ty, .cell q ty2]) (tmps : Array Value) (w : World) (g g2 : Nat) (t t2 : TypeId) (cs cs2 : Array Value) (fr fr2 : Nat × Nat) (d d2 : TypeDesc)
    (hp : tmps.getD p undef = .pointer (some ⟨g, 0, none⟩)) (hq : tmps.getD q undef = .pointer (some ⟨g2, 0, none⟩)) (hg : w.heap[g]? = some (.cells cs t fr)) (hg2 : w.heap[g2]? = some (.cells cs2 t2 fr2))
    (hu : P.underlying ty = some d) (hd : (match d with | .struct _ | .array _ _ => true | _ => false) = true) (hi : (P.info? ty).map (·.size) = some cs.size)
    (hu2 : P.underlying ty2 = some d2) (hd2 : (match d2 with | .struct _ | .array _ _ => true | _ => false) = true) (hi2 : (P.info? ty2).map (·.size) = some cs2.size) :
    (results fn tmps).run P w = .ok (.tuple #[.agg cs, .agg cs2]) w := by
  have hp' : tmps[p]?.getD undef = .pointer (some ⟨g, 0, none⟩) := by simpa using hp
  have hq' : tmps[q]?.getD undef = .pointer (some ⟨g2, 0, none⟩) := by simpa using hq
  simp [results, h, hp', hq', asAddr, run_loadVar_row w g t ty cs fr d hg hu hd hi, run_loadVar_row w g2 t2 ty2 cs2 fr2 d2 hg2 hu2 hd2 hi2]
theorem Cur.keptJ2 {B C : Nat} {a : Option Addr} {len cap : Nat} {G : Nat → Prop} {w w' : World} (h : Cur B C a len cap w) (hk : Kept G w w') (hG : ∀ y, y < B → G y) (hGC : G C) : Cur B C a len cap w' := by
  have hle := h.le
  have hc : ∀ p : Addr, G p.block → p.block ≤ C → w'.cell? p = w.cell? p := fun p hg hp => hk.cell hg (Nat.lt_of_le_of_lt hp h.lt)
  have hf : ∀ p : Addr, G p.block → p.block ≤ C → w'.frozen? p = w.frozen? p := fun p hg hp => hk.frozen hg (Nat.lt_of_le_of_lt hp h.lt)
  refine ⟨Nat.lt_of_lt_of_le h.lt hk.1, h.le, h.small, ?_, (hc ⟨C, 0, none⟩ hGC (Nat.le_refl _)).trans h.cb, h.ci.imp fun _ ⟨h1, h2⟩ => ⟨h1, (hc ⟨C, 1, none⟩ hGC (Nat.le_refl _)).trans h2⟩, h.ch.imp fun _ h2 => (hc ⟨C, 2, none⟩ hGC (Nat.le_refl _)).trans h2, (hf ⟨C, 1, none⟩ hGC (Nat.le_refl _)).trans h.f1, (hf ⟨C, 2, none⟩ hGC (Nat.le_refl _)).trans h.f2⟩
  rcases h.code with h0 | ⟨b, off, ha, hB, hcs⟩
  · exact .inl h0
  · exact .inr ⟨b, off, ha, hB, fun k hk => (hcs k hk).imp fun z ⟨h1, h2, hz⟩ => ⟨h1, h2, (hc ⟨b, off + k, none⟩ (hG b hB) (by show b ≤ C; omega)).trans hz⟩⟩
theorem SmallRel.add {r : DRelation} (h : SmallRel r) (i k : Int) : SmallRel (addPair r i k) :=
  ⟨by rw [addPair_N]; exact h.n0, by rw [addPair_N]; exact h.n1, by rw [addPair_len]; exact h.len, addPair_rows h.rows i k⟩
theorem SmallRel.empty {n : Int} (h : 0 ≤ n) (h2 : n ≤ 17) : SmallRel (emptyRel n) := by
  obtain ⟨m, rfl⟩ : ∃ m : Nat, n = m := ⟨n.toNat, by omega⟩
  by_cases hm : m ≤ 16
  · exact (RelN.empty hm).small (by omega)
  · rw [emptyRel_no (by omega)]
    exact ⟨by decide, by decide, by decide, by decide, fun _ h => by simp at h⟩
/-- A relation that lies in blocks of its own. -/
abbrev RelHere (w : World) (lo : Nat) (r : DRelation) (ra : Option Addr) (rc : Nat) : Prop := Own w (fun y => lo ≤ y ∧ y < w.heap.size) (.sl 1 r.fRows.length (rowsI r.fRows)) (.slice ra r.fRows.length rc)


set_option maxHeartbeats 1600000 in
set_option maxRecDepth 100000 in
theorem spec_l22Args {B : Nat} {a : Option Addr} {len cap : Nat} (w : World) (hB : B ≤ w.heap.size) (hl : len ≤ 1048576) (hc : Code B w a len) :
    Calls Try.prog 44 #[.slice a len cap] w fun e w' => ∃ (r : DRelation) (ra : Option Addr) (rc : Nat) (i k : Int), e = .returned (.tuple #[.agg #[.int .i64 (DRelation.fN r), .slice ra (DRelation.fRows r).length rc], .int .i64 i, .int .i64 k]) ∧ SmallRel r ∧ (-1 ≤ i ∧ i ≤ 20) ∧ (0 ≤ k ∧ k ≤ 20) ∧ RelHere w' w.heap.size r ra rc ∧ Below w.heap.size w w' := by
  have HC := Lib.hid (hc.below ((Below.refl B w).alloc hB (.cells #[.int .i64 0, .slice none 0 0] 27)))
  have HB0 := Lib.hid ((Below.refl w.heap.size w).alloc (Nat.le_refl _) (.cells #[.int .i64 0, .slice none 0 0] 27))
  clear hc
  go_enter Try.func44, Try.ntmps44
  go_wp2_with fail
  refine (draw_new (w.alloc (.cells #[.int .i64 0, .slice none 0 0] 27)) (by simp; omega) hl HC.out).mono ?_
  rintro e w1 ⟨C, rfl, hC, hc1, hb1⟩
  have hC1 : w.heap.size + 1 ≤ C := by simpa using hC
  have HG1 := Lib.hid ((hb1.block w.heap.size (by simp)).trans (blk_new rfl))
  have HB1 := Lib.hid (HB0.out.trans (hb1.mono (by simp)))
  have HC1 := Lib.hid hc1
  clear hc1 hb1 hC
  go_wp2_with fail
  refine (spec_l22Draw w1 HC1.out).mono ?_
  rintro e w2 ⟨r, ra, rc, rfl, hs, ho, hcu, hw⟩
  have hz1 := HB1.out.size
  have hlt := HC1.out.lt
  have HG2 := Lib.hid ((hw.block w.heap.size (by omega) (by omega)).trans HG1.out)
  have HB2 := Lib.hid (HB1.out.trans (hw.toBelow (by omega) hz1))
  have HS := Lib.hid hs
  have HO2 := Lib.hid ho
  have HC2 := Lib.hid hcu
  have hz2 : w1.heap.size ≤ w2.heap.size := hw.size
  clear hcu hw hs ho HG1 HB1 HC1
  go_wp2_with fail
  generalize hw3 : World.alloc w2 (.cells #[.int .i64 (DRelation.fN r), .slice ra (DRelation.fRows r).length rc] 27) = w3
  have hs3 : w3.heap.size = w2.heap.size + 1 := by rw [← hw3]; simp
  have HG3 := Lib.hid (show w3.heap[w.heap.size]? = some (.cells #[.int .i64 0, .slice none 0 0] 27) by rw [← hw3]; exact blk_alloc (by omega) HG2.out)
  have HG6 := Lib.hid (show w3.heap[w2.heap.size]? = some (.cells #[.int .i64 (DRelation.fN r), .slice ra (DRelation.fRows r).length rc] 27) by rw [← hw3]; exact blk_new rfl)
  have HB3 := Lib.hid (show Below w.heap.size w w3 by rw [← hw3]; exact HB2.out.alloc HB2.out.size _)
  have HC3 := Lib.hid (show Cur B C a len cap w3 by rw [← hw3]; exact HC2.out.later ((Below.refl _ w2).alloc (Nat.le_refl _) _))
  have HO3 := Lib.hid (show Own w3 (fun y => w1.heap.size ≤ y ∧ y < w2.heap.size) (.sl 1 r.fRows.length (rowsI r.fRows)) (.slice ra r.fRows.length rc) by rw [← hw3]; exact HO2.out.kept (Kept.of_below_all ((Below.refl _ w2).alloc (Nat.le_refl _) _)))
  have hN0 : 0 ≤ r.fN := HS.out.n0
  have hN1 : r.fN ≤ 17 := HS.out.n1
  have rc0 := blk_cell (j := 0) (v := .int .i64 0) HG3.out rfl
  clear HG2 HB2 HC2 HO2 hw3 HC
  skip
  refine wp_region_freeJ [([], .none, []), ([], .none, [12]), ([], .none, [12]), ([2], .none, [12]), ([3], .none, [12]), ([1, 4], .none, [12]), ([5], .none, [12]), ([], .none, [12]), ([], .none, [12]), ([8], .none, [12]), ([9], .none, [12]), ([7, 10], .none, [12]), ([0], .old, []), ([6], .none, [12]), ([11], .none, [12])] [0, 1, 2, 3, 4, 5, 6, 7, 8, 9, 10, 11, 12, 13, 14] [12] (fun y => y = C) (fun wx => Cur B C a len cap wx) (fun jq9 => match jq9 with | 12 => w.heap.size | _ => 0) (fun jq9 V L H wx => match jq9 with | 0 => V 0 = .agg #[.int .i64 (DRelation.fN r), .slice ra (DRelation.fRows r).length rc] | 1 => V 1 = .pointer (some ⟨C, 0, none⟩) | 2 => V 2 = .pointer (some ⟨w2.heap.size, 0, none⟩) | 3 => V 3 = .int .i64 (DRelation.fN r) | 4 => V 4 = .int .i64 (DRelation.fN r + 2) | 5 => ∃ x5, V 5 = .int .i64 x5 ∧ (0 ≤ x5 ∧ x5 < (DRelation.fN r + 2)) | 6 => ∃ x6, V 6 = .int .i64 x6 ∧ (-1 ≤ x6 ∧ x6 ≤ 20) | 7 => V 7 = .pointer (some ⟨C, 0, none⟩) | 8 => V 8 = .pointer (some ⟨w2.heap.size, 0, none⟩) | 9 => V 9 = .int .i64 (DRelation.fN r) | 10 => V 10 = .int .i64 (DRelation.fN r + 1) | 11 => ∃ x11, V 11 = .int .i64 x11 ∧ (0 ≤ x11 ∧ x11 < (DRelation.fN r + 1)) | 12 => ∀ x0 x1, V 0 = .agg #[x0, x1] → L < H ∧ wx.heap[L]? = some (.cells #[x0, x1] 27) | 13 => V 13 = V 6 | 14 => V 14 = V 11 | _ => True) (by kernel_rfl) (by kernel_rfl) ?obs (fun y h => by have h1 : y = C := h; omega) HC3.out (fun wa wb _ hj hk => hj.keptJ2 hk (fun y hy => ⟨by omega, And.intro (show y ≠ w.heap.size by omega) trivial⟩) ⟨by omega, And.intro (show C ≠ w.heap.size by omega) trivial⟩) ?loc ?lasts ?walk
  case obs =>
    exact (And.intro (And.intro (show w.heap.size < w3.heap.size by omega) (show ¬ (w.heap.size = C) by omega)) (And.intro (trivial) (trivial)))
  case loc =>
    intro k V V' L H wx h0 h1 hG
    match k with
    | 0 =>
      try dsimp only at hG ⊢
      rw [← h0]
      exact hG
    | 1 =>
      try dsimp only at hG ⊢
      rw [← h0]
      exact hG
    | 2 =>
      try dsimp only at hG ⊢
      rw [← h0]
      exact hG
    | 3 =>
      try dsimp only at hG ⊢
      rw [← h0]
      exact hG
    | 4 =>
      try dsimp only at hG ⊢
      rw [← h0]
      exact hG
    | 5 =>
      try dsimp only at hG ⊢
      rw [← h0]
      exact hG
    | 6 =>
      try dsimp only at hG ⊢
      rw [← h0]
      exact hG
    | 7 =>
      try dsimp only at hG ⊢
      rw [← h0]
      exact hG
    | 8 =>
      try dsimp only at hG ⊢
      rw [← h0]
      exact hG
    | 9 =>
      try dsimp only at hG ⊢
      rw [← h0]
      exact hG
    | 10 =>
      try dsimp only at hG ⊢
      rw [← h0]
      exact hG
    | 11 =>
      try dsimp only at hG ⊢
      rw [← h0]
      exact hG
    | 12 =>
      have e0 := h1 0 (by decide)
      try dsimp only at hG ⊢
      rw [← e0]
      exact hG
    | 13 =>
      have e6 := h1 6 (by decide)
      try dsimp only at hG ⊢
      rw [← h0, ← e6]
      exact hG
    | 14 =>
      have e11 := h1 11 (by decide)
      try dsimp only at hG ⊢
      rw [← h0, ← e11]
      exact hG
    | n + 15 => trivial
  case lasts =>
    intro i hi V L H wx wy hB hH hk
    match i, hi with
    | 0, _ => exact fun h => h
    | 1, _ => exact fun h => h
    | 2, _ => exact fun h => h
    | 3, _ => exact fun h => h
    | 4, _ => exact fun h => h
    | 5, _ => exact fun ⟨x5, hv, ho0⟩ => ⟨x5, hv, ho0⟩
    | 6, _ => exact fun ⟨x6, hv, ho0⟩ => ⟨x6, hv, ho0⟩
    | 7, _ => exact fun h => h
    | 8, _ => exact fun h => h
    | 9, _ => exact fun h => h
    | 10, _ => exact fun h => h
    | 11, _ => exact fun ⟨x11, hv, ho0⟩ => ⟨x11, hv, ho0⟩
    | 12, _ => exact fun h x0 x1 hv => ⟨(h x0 x1 hv).1, (hk.2 L (.inr ⟨Nat.le_refl _, (h x0 x1 hv).1⟩) (Nat.lt_of_lt_of_le (h x0 x1 hv).1 hH)).trans (h x0 x1 hv).2⟩
    | 13, _ => exact fun h => h
    | 14, _ => exact fun h => h
    | n + 15, hn => exact absurd hn (by simp)
  case walk =>
    simp only [freeJ, effJ, Nat.reduceAdd, Act.put, List.setIfInBounds_toArray, List.set_cons_succ, List.set_cons_zero]
    refine ⟨?_, ?_, ?_, ?_, ?_, ?_, ?_, ?_, ?_, ?_, ?_, ?_, ?_, ?_, ?_, ?_⟩
    · intro V L H w5 hw hk hj hd
      clear hd
      have hblk0 := (hk.2 w2.heap.size ⟨by omega, by omega, trivial⟩ (by omega)).trans HG6.out
      have hc0 := blk_cell (j := 0) (v := .int .i64 (DRelation.fN r)) hblk0 rfl
      have hc1 := blk_cell (j := 1) (v := .slice ra (DRelation.fRows r).length rc) hblk0 rfl
      clear hblk0
      go_wp2_with fail
      exact freePost _ rfl ⟨⟨WritesF.refl _ _, hj⟩, upd_self⟩
    · intro V L H w5 hw hk hj hd
      clear hd
      go_wp2_with fail
      exact freePost _ rfl ⟨⟨WritesF.refl _ _, hj⟩, upd_self⟩
    · intro V L H w5 hw hk hj hd
      clear hd
      go_wp2_with fail
      exact freePost _ rfl ⟨⟨WritesF.refl _ _, hj⟩, upd_self⟩
    · intro V L H w5 hw hk hj hd
      obtain ⟨⟨hL2, hM2, hH2, hv2⟩, -⟩ := hd
      rw [hv2]
      have HV2 := Lib.hid hv2
      clear hv2
      have hblk0 := (hk.2 w2.heap.size ⟨by omega, by omega, (And.intro (show w2.heap.size ≠ w.heap.size by omega) trivial)⟩ (by omega)).trans HG6.out
      have hc0 := blk_cell (j := 0) (v := .int .i64 (DRelation.fN r)) hblk0 rfl
      have hc1 := blk_cell (j := 1) (v := .slice ra (DRelation.fRows r).length rc) hblk0 rfl
      clear hblk0
      go_wp2_with fail
      exact freePost _ rfl ⟨⟨WritesF.refl _ _, hj⟩, upd_self⟩
    · intro V L H w5 hw hk hj hd
      obtain ⟨⟨hL3, hM3, hH3, hv3⟩, -⟩ := hd
      rw [hv3]
      have HV3 := Lib.hid hv3
      clear hv3
      go_wp2_with fail
      exact freePost _ rfl ⟨⟨WritesF.refl _ _, hj⟩, upd_self⟩
    · intro V L H w5 hw hk hj hd
      obtain ⟨⟨hL1, hM1, hH1, hv1⟩, ⟨hL4, hM4, hH4, hv4⟩, -⟩ := hd
      rw [hv1, hv4]
      have HV1 := Lib.hid hv1
      have HV4 := Lib.hid hv4
      clear hv1 hv4
      go_wp2_with fail
      refine (draw_below _ hj (DRelation.fN r + 2) (by omega)).mono ?_
      rintro e w6 ⟨y, rfl, hy0, hy1, hj2, hww⟩
      have hw2 := hww.toF
      clear hww
      go_wp2_with fail
      exact freePost _ rfl ⟨⟨hw2, hj2⟩, Exists.intro y (And.intro (upd_self) ((⟨hy0, hy1⟩ : _ ∧ _)))⟩
    · intro V L H w5 hw hk hj hd
      obtain ⟨⟨hL5, hM5, hH5, x5, hv5, ho5_0⟩, -⟩ := hd
      rw [hv5]
      have HV5 := Lib.hid hv5
      clear hv5
      go_wp2_with fail
      exact freePost _ rfl ⟨⟨WritesF.refl _ _, hj⟩, Exists.intro _ (And.intro (upd_self) ((⟨by omega, by omega⟩ : _ ∧ _)))⟩
    · intro V L H w5 hw hk hj hd
      clear hd
      go_wp2_with fail
      exact freePost _ rfl ⟨⟨WritesF.refl _ _, hj⟩, upd_self⟩
    · intro V L H w5 hw hk hj hd
      clear hd
      go_wp2_with fail
      exact freePost _ rfl ⟨⟨WritesF.refl _ _, hj⟩, upd_self⟩
    · intro V L H w5 hw hk hj hd
      obtain ⟨⟨hL8, hM8, hH8, hv8⟩, -⟩ := hd
      rw [hv8]
      have HV8 := Lib.hid hv8
      clear hv8
      have hblk0 := (hk.2 w2.heap.size ⟨by omega, by omega, (And.intro (show w2.heap.size ≠ w.heap.size by omega) trivial)⟩ (by omega)).trans HG6.out
      have hc0 := blk_cell (j := 0) (v := .int .i64 (DRelation.fN r)) hblk0 rfl
      have hc1 := blk_cell (j := 1) (v := .slice ra (DRelation.fRows r).length rc) hblk0 rfl
      clear hblk0
      go_wp2_with fail
      exact freePost _ rfl ⟨⟨WritesF.refl _ _, hj⟩, upd_self⟩
    · intro V L H w5 hw hk hj hd
      obtain ⟨⟨hL9, hM9, hH9, hv9⟩, -⟩ := hd
      rw [hv9]
      have HV9 := Lib.hid hv9
      clear hv9
      go_wp2_with fail
      exact freePost _ rfl ⟨⟨WritesF.refl _ _, hj⟩, upd_self⟩
    · intro V L H w5 hw hk hj hd
      obtain ⟨⟨hL7, hM7, hH7, hv7⟩, ⟨hL10, hM10, hH10, hv10⟩, -⟩ := hd
      rw [hv7, hv10]
      have HV7 := Lib.hid hv7
      have HV10 := Lib.hid hv10
      clear hv7 hv10
      go_wp2_with fail
      refine (draw_below _ hj (DRelation.fN r + 1) (by omega)).mono ?_
      rintro e w6 ⟨y, rfl, hy0, hy1, hj2, hww⟩
      have hw2 := hww.toF
      clear hww
      go_wp2_with fail
      exact freePost _ rfl ⟨⟨hw2, hj2⟩, Exists.intro y (And.intro (upd_self) ((⟨hy0, hy1⟩ : _ ∧ _)))⟩
    · intro V L H w5 hw hk hj hd
      obtain ⟨⟨hL0, hM0, hH0, hv0⟩, -⟩ := hd
      rw [hv0]
      have HV0 := Lib.hid hv0
      clear hv0
      have hblk : w5.heap[w.heap.size]? = some (.cells #[.int .i64 0, .slice none 0 0] 27) := (hk.2 w.heap.size ⟨by omega, by omega, trivial⟩ (by omega)).trans HG3.out
      have hc_0 := blk_cell (j := 0) (v := .int .i64 0) hblk rfl
      have hf_0 := blk_frozen (j := 0) hblk
      have hc_1 := blk_cell (j := 1) (v := .slice none 0 0) hblk rfl
      have hf_1 := blk_frozen (j := 1) hblk
      have HBLK := Lib.hid hblk
      clear hblk
      go_wp2_with fail
      refine freePost undef rfl ⟨(Touches.put (L := w.heap.size) (H := w.heap.size + 1) (Touches.put (L := w.heap.size) (H := w.heap.size + 1) Touches.refl (p := ⟨w.heap.size, 0, none⟩) ⟨Nat.le_refl _, (Nat.lt_succ_self _)⟩ _) (p := ⟨w.heap.size, 1, none⟩) ⟨Nat.le_refl _, (Nat.lt_succ_self _)⟩ _), fun x0 x1 h => ?_⟩
      cases (HV0.out.symm.trans ((upd_ne (by decide)).symm.trans h))
      exact ⟨(Nat.lt_succ_self _), (blk_putJ (blk_putJ HBLK.out rfl) rfl)⟩
    · intro V L H w5 hw hk hj hd
      obtain ⟨⟨hL6, hM6, hH6, x6, hv6, ho6_0⟩, -⟩ := hd
      rw [hv6]
      have HV6 := Lib.hid hv6
      clear hv6
      go_wp2_with fail
      exact freePost _ rfl ⟨⟨WritesF.refl _ _, hj⟩, upd_self.trans (HV6.out.symm.trans (upd_ne (by decide)).symm)⟩
    · intro V L H w5 hw hk hj hd
      obtain ⟨⟨hL11, hM11, hH11, x11, hv11, ho11_0⟩, -⟩ := hd
      rw [hv11]
      have HV11 := Lib.hid hv11
      clear hv11
      go_wp2_with fail
      exact freePost _ rfl ⟨⟨WritesF.refl _ _, hj⟩, upd_self.trans (HV11.out.symm.trans (upd_ne (by decide)).symm)⟩
    · intro V L H w5 hw hj hd hap hdead
      obtain ⟨⟨hL0, hM0, hH0, hv0⟩, ⟨hL1, hM1, hH1, hv1⟩, ⟨hL2, hM2, hH2, hv2⟩, ⟨hL3, hM3, hH3, hv3⟩, ⟨hL4, hM4, hH4, hv4⟩, ⟨hL5, hM5, hH5, x5, hv5, ho5_0⟩, ⟨hL6, hM6, hH6, x6, hv6, ho6_0⟩, ⟨hL7, hM7, hH7, hv7⟩, ⟨hL8, hM8, hH8, hv8⟩, ⟨hL9, hM9, hH9, hv9⟩, ⟨hL10, hM10, hH10, hv10⟩, ⟨hL11, hM11, hH11, x11, hv11, ho11_0⟩, ⟨hL12, hM12, hH12, hst12_⟩, ⟨hL13, hM13, hH13, hv13⟩, ⟨hL14, hM14, hH14, hv14⟩, -⟩ := hd
      have hv13' := hv13.trans hv6
      have hv14' := hv14.trans hv11
      obtain ⟨pe12, pe12'⟩ : L 12 = w.heap.size ∧ H 12 = w.heap.size + 1 := hL12
      obtain ⟨-, pb12⟩ := hst12_ _ _ hv0
      rw [pe12] at pb12
      rw [hv0, hv1, hv2, hv3, hv4, hv5, hv6, hv7, hv8, hv9, hv10, hv11, hv13', hv14']
      clear hv0 hv1 hv2 hv3 hv4 hv5 hv6 hv7 hv8 hv9 hv10 hv11 hv13' hv14' hv13 hv14
      have HWW := Lib.hid hw
      have HPB := Lib.hid pb12
      clear hw hj hap hdead pb12
      go_wp2
      refine bodyPost_ret (v := .tuple #[.agg #[.int .i64 (DRelation.fN r), .slice ra (DRelation.fRows r).length rc], .int .i64 x6, .int .i64 x11]) (results_cell_tmp2 Try.results44 _ _ w.heap.size 27 #[.int .i64 (DRelation.fN r), .slice ra (DRelation.fRows r).length rc] (0, 0) _ rfl HPB.out Try.underlying27 rfl rfl) rfl ?_
      refine ⟨r, ra, rc, x6, x11, rfl, HS.out, ho6_0, ⟨ho11_0.1, by have := ho11_0.2; omega⟩, ?_, ?_⟩
      · exact (HO3.out.kept (HWW.out.kept (fun y hy h => h.elim (fun h => by have h1 : y = C := h; omega) (fun h => h ⟨(show y ≠ w.heap.size by omega), trivial⟩)))).sub (fun y hy => ⟨by omega, Nat.lt_of_lt_of_le hy.2 (by have := HWW.out.size; omega)⟩)
      · exact HB3.out.trans ⟨HWW.out.os, HWW.out.tape, HWW.out.output, HWW.out.size, fun k hk => HWW.out.block k (by omega) (fun h => h.elim (fun h => by have h1 : k = C := h; omega) (fun h => h ⟨(show k ≠ w.heap.size by omega), trivial⟩))⟩

set_option maxHeartbeats 1600000 in
set_option maxRecDepth 100000 in
theorem spec_DrawAddPair {B : Nat} {a : Option Addr} {len cap : Nat} (w : World) (hB : B ≤ w.heap.size) (hl : len ≤ 1048576) (hc : Code B w a len) :
    Calls Try.prog 20 #[.slice a len cap] w fun e w' => ∃ (r : DRelation) (ra : Option Addr) (rc : Nat) (i k : Int), e = .returned (.tuple #[.agg #[.int .i64 (DRelation.fN r), .slice ra (DRelation.fRows r).length rc], .int .i64 i, .int .i64 k]) ∧ SmallRel r ∧ (-1 ≤ i ∧ i ≤ 20) ∧ (0 ≤ k ∧ k ≤ 20) ∧ RelHere w' w.heap.size r ra rc ∧ Below w.heap.size w w' := by
  have HC := Lib.hid (hc.below ((Below.refl B w).alloc hB (.cells #[.int .i64 0, .slice none 0 0] 27)))
  have HB0 := Lib.hid ((Below.refl w.heap.size w).alloc (Nat.le_refl _) (.cells #[.int .i64 0, .slice none 0 0] 27))
  clear hc
  go_enter Try.func20, Try.ntmps20
  go_wp2_with fail
  refine (spec_l22Args (w.alloc (.cells #[.int .i64 0, .slice none 0 0] 27)) (by simp; omega) hl HC.out).mono ?_
  rintro e w1 ⟨r, ra, rc, i, k, rfl, hs, hi, hk, ho, hb1⟩
  have HG1 := Lib.hid ((hb1.block w.heap.size (by simp)).trans (blk_new rfl))
  have HB1 := Lib.hid (HB0.out.trans (hb1.mono (by simp)))
  have HS := Lib.hid hs
  have HI := Lib.hid hi
  have HK := Lib.hid hk
  have HO := Lib.hid (ho.sub (F' := fun y => w.heap.size + 1 ≤ y ∧ y < w1.heap.size) (fun y hy => ⟨by have := hy.1; simp at this; omega, hy.2⟩))
  have rc0 := blk_cell (j := 0) (v := .int .i64 0) HG1.out rfl
  have rc1 := blk_cell (j := 1) (v := .slice none 0 0) HG1.out rfl
  have rf0 := blk_frozen (j := 0) HG1.out
  have rf1 := blk_frozen (j := 1) HG1.out
  clear hb1 hs hi hk ho
  go_wp2
  refine bodyPost_ret (v := .tuple #[.agg #[.int .i64 (DRelation.fN r), .slice ra (DRelation.fRows r).length rc], .int .i64 i, .int .i64 k]) (results_cell_tmp2 Try.results20 _ _ w.heap.size 27 #[.int .i64 (DRelation.fN r), .slice ra (DRelation.fRows r).length rc] (0, 0) _ rfl (blk_putJ (blk_putJ HG1.out rfl) rfl) Try.underlying27 rfl rfl) rfl ?_
  refine ⟨r, ra, rc, i, k, rfl, HS.out, HI.out, HK.out, ?_, ?_⟩
  · exact (HO.out.kept (by repeat (first | (with_reducible exact Kept.refl) | (refine Kept.put ?_ (by intro h; try dsimp only at h; omega))))).sub (fun y hy => ⟨by omega, Nat.lt_of_lt_of_le hy.2 (by first | (simp; done) | (simp; omega) | (simp [World.setCell]; omega))⟩)
  · repeat (first | (with_reducible exact HB1.out) | (refine Below.setCell ?_ (by simp <;> omega) _))

set_option maxHeartbeats 1600000 in
set_option maxRecDepth 100000 in
theorem spec_DrawUnionRelation {B : Nat} {a : Option Addr} {len cap : Nat} (w : World) (hB : B ≤ w.heap.size) (hl : len ≤ 1048576) (hc : Code B w a len) :
    Calls Try.prog 23 #[.slice a len cap] w fun e w' => ∃ (x : DRelation) (xa : Option Addr) (xc : Nat) (y : DRelation) (ya : Option Addr) (yc : Nat), e = .returned (.tuple #[.agg #[.int .i64 (DRelation.fN x), .slice xa (DRelation.fRows x).length xc], .agg #[.int .i64 (DRelation.fN y), .slice ya (DRelation.fRows y).length yc]]) ∧ SmallRel x ∧ SmallRel y ∧ RelHere w' w.heap.size x xa xc ∧ RelHere w' w.heap.size y ya yc ∧ Below w.heap.size w w' := by
  have HC := Lib.hid (hc.below (((Below.refl B w).alloc hB (.cells #[.int .i64 0, .slice none 0 0] 27)).alloc (by simp; omega) (.cells #[.int .i64 0, .slice none 0 0] 27)))
  have HB0 := Lib.hid (((Below.refl w.heap.size w).alloc (Nat.le_refl _) (.cells #[.int .i64 0, .slice none 0 0] 27)).alloc (by simp) (.cells #[.int .i64 0, .slice none 0 0] 27))
  clear hc
  go_enter Try.func23, Try.ntmps23
  go_wp2_with fail
  refine (draw_new ((w.alloc (.cells #[.int .i64 0, .slice none 0 0] 27)).alloc (.cells #[.int .i64 0, .slice none 0 0] 27)) (by simp; omega) hl HC.out).mono ?_
  rintro e w1 ⟨C, rfl, hC, hc1, hb1⟩
  have hC1 : w.heap.size + 2 ≤ C := by simpa using hC
  have HG1 := Lib.hid ((hb1.block w.heap.size (by simp; omega)).trans (blk_alloc (by simp) (blk_new rfl)))
  have HH1 := Lib.hid ((hb1.block (w.heap.size + 1) (by simp)).trans (blk_new (by simp)))
  have HB1 := Lib.hid (HB0.out.trans (hb1.mono (by simp; omega)))
  have HC1 := Lib.hid hc1
  clear hc1 hb1 hC HC HB0
  go_wp2_with fail
  refine (spec_l22Draw w1 HC1.out).mono ?_
  rintro e w2 ⟨x, xa, xc, rfl, hs, ho, hcu, hw⟩
  have hz1 : w.heap.size ≤ w1.heap.size := HB1.out.size
  have hlt := HC1.out.lt
  have HG2 := Lib.hid ((hw.block w.heap.size (by omega) (by omega)).trans HG1.out)
  have HH2 := Lib.hid ((hw.block (w.heap.size + 1) (by omega) (by omega)).trans HH1.out)
  have HB2 := Lib.hid (HB1.out.trans (hw.toBelow (by omega) hz1))
  have HSX := Lib.hid hs
  have HX2 := Lib.hid ho
  have HC2 := Lib.hid (hcu.later ((Below.refl _ w2).alloc (Nat.le_refl _) (.cells #[.int .i64 (DRelation.fN x), .slice xa (DRelation.fRows x).length xc] 27)))
  have hz2 : w1.heap.size ≤ w2.heap.size := hw.size
  clear hcu hw hs ho HG1 HH1 HB1 HC1
  go_wp2_with fail
  refine (spec_l22Draw (w2.alloc (.cells #[.int .i64 (DRelation.fN x), .slice xa (DRelation.fRows x).length xc] 27)) HC2.out).mono ?_
  rintro e w3 ⟨y, ya, yc, rfl, hs, ho, hcu, hw⟩
  have hz3 : w2.heap.size + 1 ≤ w3.heap.size := Nat.le_trans (by simp) hw.size
  have HG3 := Lib.hid ((hw.block w.heap.size (by simp; omega) (by omega)).trans (blk_alloc (by omega) HG2.out))
  have HH3 := Lib.hid ((hw.block (w.heap.size + 1) (by simp; omega) (by omega)).trans (blk_alloc (by omega) HH2.out))
  have HX5 := Lib.hid ((hw.block w2.heap.size (by simp) (by omega)).trans (blk_new rfl))
  have HB3 := Lib.hid ((HB2.out.alloc HB2.out.size (.cells #[.int .i64 (DRelation.fN x), .slice xa (DRelation.fRows x).length xc] 27)).trans (hw.toBelow (by omega) (by simp; omega)))
  have HX3 := Lib.hid ((HX2.out.kept (Kept.of_below_all ((Below.refl _ w2).alloc (Nat.le_refl _) (.cells #[.int .i64 (DRelation.fN x), .slice xa (DRelation.fRows x).length xc] 27)))).kept (Kept.of_writes hw (fun h => by have := h.1; omega)))
  have HSY := Lib.hid hs
  have HY3 := Lib.hid (ho.sub (F' := fun q => w2.heap.size < q ∧ q < w3.heap.size) (fun q hq => ⟨by have := hq.1; simp at this; omega, hq.2⟩))
  have HC3 := Lib.hid (hcu.later ((Below.refl _ w3).alloc (Nat.le_refl _) (.cells #[.int .i64 (DRelation.fN y), .slice ya (DRelation.fRows y).length yc] 27)))
  clear hcu hw hs ho HG2 HH2 HB2 HC2 HX2
  go_wp2_with fail
  refine (draw_once (w3.alloc (.cells #[.int .i64 (DRelation.fN y), .slice ya (DRelation.fRows y).length yc] 27)) HC3.out 4 (by decide)).mono ?_
  rintro e w4 ⟨vo, rfl, hcu, hw⟩
  have hz4 : w3.heap.size + 1 ≤ w4.heap.size := Nat.le_trans (by simp) hw.size
  have HG4 := Lib.hid ((hw.block w.heap.size (by simp; omega) (by omega)).trans (blk_alloc (by omega) HG3.out))
  have HH4 := Lib.hid ((hw.block (w.heap.size + 1) (by simp; omega) (by omega)).trans (blk_alloc (by omega) HH3.out))
  have HX6 := Lib.hid ((hw.block w2.heap.size (by simp; omega) (by omega)).trans (blk_alloc (by omega) HX5.out))
  have HY6 := Lib.hid ((hw.block w3.heap.size (by simp) (by omega)).trans (blk_new rfl))
  have HB4 := Lib.hid ((HB3.out.alloc HB3.out.size (.cells #[.int .i64 (DRelation.fN y), .slice ya (DRelation.fRows y).length yc] 27)).trans (hw.toBelow (by omega) (by simp; omega)))
  have HX4 := Lib.hid ((HX3.out.kept (Kept.of_below_all ((Below.refl _ w3).alloc (Nat.le_refl _) (.cells #[.int .i64 (DRelation.fN y), .slice ya (DRelation.fRows y).length yc] 27)))).kept (Kept.of_writes hw (fun h => by have := h.1; omega)))
  have HY4 := Lib.hid ((HY3.out.kept (Kept.of_below_all ((Below.refl _ w3).alloc (Nat.le_refl _) (.cells #[.int .i64 (DRelation.fN y), .slice ya (DRelation.fRows y).length yc] 27)))).kept (Kept.of_writes hw (fun h => by have := h.1; omega)))
  have HC4 := Lib.hid hcu
  have hN0 : 0 ≤ x.fN := HSX.out.n0
  have hN1 : x.fN ≤ 17 := HSX.out.n1
  clear hcu hw HG3 HH3 HX5 HB3 HX3 HY3 HC3
  have xc0 := blk_cell (j := 0) (v := .int .i64 (DRelation.fN x)) HX6.out rfl
  have xc1 := blk_cell (j := 1) (v := .slice xa (DRelation.fRows x).length xc) HX6.out rfl
  have yc0 := blk_cell (j := 0) (v := .int .i64 (DRelation.fN y)) HY6.out rfl
  have yc1 := blk_cell (j := 1) (v := .slice ya (DRelation.fRows y).length yc) HY6.out rfl
  have yf0 := blk_frozen (j := 0) HY6.out
  have yf1 := blk_frozen (j := 1) HY6.out
  cases vo with
  | true =>
    go_wp2_with fail
    refine wp_region_freeJ [([], .none, [2, 3]), ([], .none, [2, 3]), ([0], .old, [3]), ([1], .old, [2])] [0, 1, 2, 3] [2, 3] (fun _ => False) (fun _ => True) (fun jq9 => match jq9 with | 2 => w.heap.size | 3 => (w.heap.size + 1) | _ => 0) (fun jq9 V L H wx => match jq9 with | 0 => V 0 = .agg #[.int .i64 (DRelation.fN x), .slice xa (DRelation.fRows x).length xc] | 1 => V 1 = .agg #[.int .i64 (DRelation.fN y), .slice ya (DRelation.fRows y).length yc] | 2 => ∀ x0 x1, V 0 = .agg #[x0, x1] → L < H ∧ wx.heap[L]? = some (.cells #[x0, x1] 27) | 3 => ∀ x0 x1, V 1 = .agg #[x0, x1] → L < H ∧ wx.heap[L]? = some (.cells #[x0, x1] 27) | _ => True) (by kernel_rfl) (by kernel_rfl) ?obs (fun _ h => h.elim) trivial (fun _ _ _ _ _ => trivial) ?loc ?lasts ?walk
    case obs =>
      exact (And.intro (And.intro (show w.heap.size < w4.heap.size by omega) (fun h => h)) (And.intro (And.intro (show w.heap.size ≠ (w.heap.size + 1) by omega) (trivial)) (And.intro (And.intro (show (w.heap.size + 1) < w4.heap.size by omega) (fun h => h)) (And.intro (trivial) (trivial)))))
    case loc =>
      intro k V V' L H wx h0 h1 hG
      match k with
      | 0 =>
        try dsimp only at hG ⊢
        rw [← h0]
        exact hG
      | 1 =>
        try dsimp only at hG ⊢
        rw [← h0]
        exact hG
      | 2 =>
        have e0 := h1 0 (by decide)
        try dsimp only at hG ⊢
        rw [← e0]
        exact hG
      | 3 =>
        have e1 := h1 1 (by decide)
        try dsimp only at hG ⊢
        rw [← e1]
        exact hG
      | n + 4 => trivial
    case lasts =>
      intro i hi V L H wx wy hB hH hk
      match i, hi with
      | 0, _ => exact fun h => h
      | 1, _ => exact fun h => h
      | 2, _ => exact fun h x0 x1 hv => ⟨(h x0 x1 hv).1, (hk.2 L (.inr ⟨Nat.le_refl _, (h x0 x1 hv).1⟩) (Nat.lt_of_lt_of_le (h x0 x1 hv).1 hH)).trans (h x0 x1 hv).2⟩
      | 3, _ => exact fun h x0 x1 hv => ⟨(h x0 x1 hv).1, (hk.2 L (.inr ⟨Nat.le_refl _, (h x0 x1 hv).1⟩) (Nat.lt_of_lt_of_le (h x0 x1 hv).1 hH)).trans (h x0 x1 hv).2⟩
      | n + 4, hn => exact absurd hn (by simp)
    case walk =>
      simp only [freeJ, effJ, Nat.reduceAdd, Act.put, List.setIfInBounds_toArray, List.set_cons_succ, List.set_cons_zero]
      refine ⟨?_, ?_, ?_, ?_, ?_⟩
      · intro V L H w9 hw hk hj hd
        clear hd
        have hblk0 := (hk.2 w2.heap.size ⟨by omega, fun h => h, And.intro (show w2.heap.size ≠ w.heap.size by omega) (And.intro (show w2.heap.size ≠ w.heap.size + 1 by omega) trivial)⟩ (by omega)).trans HX6.out
        have hc0 := blk_cell (j := 0) (v := .int .i64 (DRelation.fN x)) hblk0 rfl
        have hc1 := blk_cell (j := 1) (v := .slice xa (DRelation.fRows x).length xc) hblk0 rfl
        clear hblk0
        go_wp2_with fail
        exact freePost _ rfl ⟨⟨WritesF.refl _ _, hj⟩, upd_self⟩
      · intro V L H w9 hw hk hj hd
        clear hd
        have hblk0 := (hk.2 w3.heap.size ⟨by omega, fun h => h, And.intro (show w3.heap.size ≠ w.heap.size by omega) (And.intro (show w3.heap.size ≠ w.heap.size + 1 by omega) trivial)⟩ (by omega)).trans HY6.out
        have hc0 := blk_cell (j := 0) (v := .int .i64 (DRelation.fN y)) hblk0 rfl
        have hc1 := blk_cell (j := 1) (v := .slice ya (DRelation.fRows y).length yc) hblk0 rfl
        clear hblk0
        go_wp2_with fail
        exact freePost _ rfl ⟨⟨WritesF.refl _ _, hj⟩, upd_self⟩
      · intro V L H w9 hw hk hj hd
        obtain ⟨⟨hL0, hM0, hH0, hv0⟩, -⟩ := hd
        rw [hv0]
        have HV0 := Lib.hid hv0
        clear hv0
        have hblk : w9.heap[w.heap.size]? = some (.cells #[.int .i64 0, .slice none 0 0] 27) := (hk.2 w.heap.size ⟨by omega, fun h => h, And.intro (show w.heap.size ≠ w.heap.size + 1 by omega) trivial⟩ (by omega)).trans HG4.out
        have hc_0 := blk_cell (j := 0) (v := .int .i64 0) hblk rfl
        have hf_0 := blk_frozen (j := 0) hblk
        have hc_1 := blk_cell (j := 1) (v := .slice none 0 0) hblk rfl
        have hf_1 := blk_frozen (j := 1) hblk
        have HBLK := Lib.hid hblk
        clear hblk
        go_wp2_with fail
        refine freePost undef rfl ⟨(Touches.put (L := w.heap.size) (H := w.heap.size + 1) (Touches.put (L := w.heap.size) (H := w.heap.size + 1) Touches.refl (p := ⟨w.heap.size, 0, none⟩) ⟨Nat.le_refl _, (Nat.lt_succ_self _)⟩ _) (p := ⟨w.heap.size, 1, none⟩) ⟨Nat.le_refl _, (Nat.lt_succ_self _)⟩ _), fun x0 x1 h => ?_⟩
        cases (HV0.out.symm.trans ((upd_ne (by decide)).symm.trans h))
        exact ⟨(Nat.lt_succ_self _), (blk_putJ (blk_putJ HBLK.out rfl) rfl)⟩
      · intro V L H w9 hw hk hj hd
        obtain ⟨⟨hL1, hM1, hH1, hv1⟩, -⟩ := hd
        rw [hv1]
        have HV1 := Lib.hid hv1
        clear hv1
        have hblk : w9.heap[(w.heap.size + 1)]? = some (.cells #[.int .i64 0, .slice none 0 0] 27) := (hk.2 (w.heap.size + 1) ⟨by omega, fun h => h, And.intro (show w.heap.size + 1 ≠ w.heap.size by omega) trivial⟩ (by omega)).trans HH4.out
        have hc_0 := blk_cell (j := 0) (v := .int .i64 0) hblk rfl
        have hf_0 := blk_frozen (j := 0) hblk
        have hc_1 := blk_cell (j := 1) (v := .slice none 0 0) hblk rfl
        have hf_1 := blk_frozen (j := 1) hblk
        have HBLK := Lib.hid hblk
        clear hblk
        go_wp2_with fail
        refine freePost undef rfl ⟨(Touches.put (L := (w.heap.size + 1)) (H := (w.heap.size + 1) + 1) (Touches.put (L := (w.heap.size + 1)) (H := (w.heap.size + 1) + 1) Touches.refl (p := ⟨(w.heap.size + 1), 0, none⟩) ⟨Nat.le_refl _, (Nat.lt_succ_self _)⟩ _) (p := ⟨(w.heap.size + 1), 1, none⟩) ⟨Nat.le_refl _, (Nat.lt_succ_self _)⟩ _), fun x0 x1 h => ?_⟩
        cases (HV1.out.symm.trans ((upd_ne (by decide)).symm.trans h))
        exact ⟨(Nat.lt_succ_self _), (blk_putJ (blk_putJ HBLK.out rfl) rfl)⟩
      · intro V L H w9 hw hj hd hap hdead
        obtain ⟨⟨hL0, hM0, hH0, hv0⟩, ⟨hL1, hM1, hH1, hv1⟩, ⟨hL2, hM2, hH2, hst2_⟩, ⟨hL3, hM3, hH3, hst3_⟩, -⟩ := hd
        obtain ⟨pe2, pe2'⟩ : L 2 = w.heap.size ∧ H 2 = w.heap.size + 1 := hL2
        obtain ⟨-, pb2⟩ := hst2_ _ _ hv0
        rw [pe2] at pb2
        obtain ⟨pe3, pe3'⟩ : L 3 = (w.heap.size + 1) ∧ H 3 = (w.heap.size + 1) + 1 := hL3
        obtain ⟨-, pb3⟩ := hst3_ _ _ hv1
        rw [pe3] at pb3
        rw [hv0, hv1]
        clear hv0 hv1
        have Hw4 := Lib.hid hw
        have HP1 := Lib.hid pb2
        have HP2 := Lib.hid pb3
        have hz9 : w4.heap.size ≤ w9.heap.size := hw.size
        clear hw hj hap hdead pb2 pb3
        go_wp2
        refine bodyPost_ret (v := .tuple #[.agg #[.int .i64 (DRelation.fN x), .slice xa (DRelation.fRows x).length xc], .agg #[.int .i64 (DRelation.fN y), .slice ya (DRelation.fRows y).length yc]]) (results_cell_cell Try.results23 _ _ w.heap.size (w.heap.size + 1) 27 27 #[.int .i64 (DRelation.fN x), .slice xa (DRelation.fRows x).length xc] #[.int .i64 (DRelation.fN y), .slice ya (DRelation.fRows y).length yc] (0, 0) (0, 0) _ _ rfl rfl HP1.out HP2.out Try.underlying27 rfl rfl Try.underlying27 rfl rfl) rfl ?_
        refine ⟨x, xa, xc, y, ya, yc, rfl, HSX.out, HSY.out, ?_, ?_, ?_⟩
        · exact (HX4.out.kept (Hw4.out.kept (fun q hq => (fun h => h.elim (fun h => h) (fun h => h ⟨(show q ≠ w.heap.size by omega), ⟨(show q ≠ w.heap.size + 1 by omega), trivial⟩⟩))))).sub (fun q hq => ⟨by omega, by omega⟩)
        · exact (HY4.out.kept (Hw4.out.kept (fun q hq => (fun h => h.elim (fun h => h) (fun h => h ⟨(show q ≠ w.heap.size by omega), ⟨(show q ≠ w.heap.size + 1 by omega), trivial⟩⟩))))).sub (fun q hq => ⟨by omega, by omega⟩)
        · exact HB4.out.trans ⟨Hw4.out.os, Hw4.out.tape, Hw4.out.output, Hw4.out.size, fun k hk => Hw4.out.block k (by omega) (fun h => h.elim (fun h => h) (fun h => h ⟨(show k ≠ w.heap.size by omega), ⟨(show k ≠ w.heap.size + 1 by omega), trivial⟩⟩))⟩
  | false =>
    by_cases hxl : x.fN = (x.fRows.length : Int)
    · have hq : (x.fN == (x.fRows.length : Int)) = true := beq_iff_eq.2 hxl
      clear hxl
      go_wp2_with fail
      refine (spec_EmptyRelation x.fN (by unfold okI; omega) w4).mono ?_
      rintro e w5 ⟨ba0, bc0, rfl, hob, hbe⟩
      have HSB := Lib.hid (SmallRel.empty hN0 hN1)
      generalize emptyRel x.fN = b0 at hob HSB ⊢
      have hz5 : w4.heap.size ≤ w5.heap.size := hbe.size
      have HG5 := Lib.hid ((hbe.block w.heap.size (by omega)).trans HG4.out)
      have HH5 := Lib.hid ((hbe.block (w.heap.size + 1) (by omega)).trans HH4.out)
      have HX7 := Lib.hid ((hbe.block w2.heap.size (by omega)).trans HX6.out)
      have HY7 := Lib.hid ((hbe.block w3.heap.size (by omega)).trans HY6.out)
      have HB5 := Lib.hid (HB4.out.trans (hbe.mono HB4.out.size))
      have HXO := Lib.hid (HX4.out.kept (Kept.of_below_all hbe))
      have HC5 := Lib.hid (HC4.out.later hbe)
      have HOB := Lib.hid (hob.sub (F' := fun q => w2.heap.size < q ∧ q ≠ w3.heap.size ∧ q < w5.heap.size) (fun q hq => ⟨by omega, by omega, hq.2⟩))
      clear hob hbe xc0 xc1 yc0 yc1 yf0 yf1 HG4 HH4 HX6 HY6 HB4 HX4 HY4 HC4
      have xc0 := blk_cell (j := 0) (v := .int .i64 (DRelation.fN x)) HX7.out rfl
      have xc1 := blk_cell (j := 1) (v := .slice xa (DRelation.fRows x).length xc) HX7.out rfl
      have yc0 := blk_cell (j := 0) (v := .int .i64 (DRelation.fN y)) HY7.out rfl
      have yc1 := blk_cell (j := 1) (v := .slice ya (DRelation.fRows y).length yc) HY7.out rfl
      have yf0 := blk_frozen (j := 0) HY7.out
      have yf1 := blk_frozen (j := 1) HY7.out
      go_wp2
      go_loopw [7] (fun i wr => ∃ (k : Nat) (b : DRelation) (ba : Option Addr) (bc : Nat), (k : Int) ≤ x.fN ∧ i = .int .i64 (k : Int) ∧ SmallRel b ∧ wr.heap[w3.heap.size]? = some (.cells #[.int .i64 (DRelation.fN b), .slice ba (DRelation.fRows b).length bc] 27) ∧ Own wr (fun q => w2.heap.size < q ∧ q ≠ w3.heap.size ∧ q < wr.heap.size) (.sl 1 b.fRows.length (rowsI b.fRows)) (.slice ba b.fRows.length bc) ∧ Cur B C a len cap wr ∧ WritesF (fun q => q = C ∨ q = w3.heap.size) w5 wr) (fun i _ => x.fN.toNat - (RowKit.intOf i).toNat)
      case atStart =>
        refine ⟨0, b0, ba0, bc0, hN0, rfl, HSB.out, ?_, ?_, ?_, ?_⟩
        · exact blk_putJ (blk_putJ HY7.out rfl) rfl
        · exact (HOB.out.kept (by repeat (first | (with_reducible exact Kept.refl) | (refine Kept.put ?_ (by intro h; try dsimp only at h; omega))))).sub (fun q hq => ⟨hq.1, hq.2.1, Nat.lt_of_lt_of_le hq.2.2 (by first | (simp; done) | (simp; omega) | (simp [World.setCell]; omega))⟩)
        · exact HC5.out.keptJ (G := fun q => q ≤ C) (by repeat (first | (with_reducible exact Kept.refl) | (refine Kept.put ?_ (by intro h; try dsimp only at h; omega)))) (fun q hq => hq)
        · repeat (first | (with_reducible exact WritesF.refl _ _) | (refine WritesF.setCell ?_ (Or.inr rfl)))
      case round =>
        obtain ⟨k, b, ba, bc, hk, rfl, hsb, hgb, hob, hcu, hwr⟩ := hrel
        clear xc0 xc1 yc0 yc1 yf0 yf1
        have hz6 : w5.heap.size ≤ wr.heap.size := hwr.size
        have HSBK := Lib.hid hsb
        have HGB := Lib.hid hgb
        have HOBK := Lib.hid hob
        have HCK := Lib.hid hcu
        have HWK := Lib.hid hwr
        have HGK := Lib.hid ((hwr.block w.heap.size (by omega) (fun h => by rcases h with h | h <;> omega)).trans HG5.out)
        have HHK := Lib.hid ((hwr.block (w.heap.size + 1) (by omega) (fun h => by rcases h with h | h <;> omega)).trans HH5.out)
        have HXK := Lib.hid ((hwr.block w2.heap.size (by omega) (fun h => by rcases h with h | h <;> omega)).trans HX7.out)
        have HXOK := Lib.hid (HXO.out.kept (hwr.kept (fun q hq h => by rcases h with h | h <;> omega)))
        have HBK := Lib.hid (show Below w.heap.size w wr from HB5.out.trans ⟨hwr.os, hwr.tape, hwr.output, hwr.size, fun q hq => hwr.block q (by omega) (fun h => by rcases h with h | h <;> omega)⟩)
        clear hsb hgb hob hcu hwr
        have xk0 := blk_cell (j := 0) (v := .int .i64 (DRelation.fN x)) HXK.out rfl
        by_cases hlt : (k : Int) < x.fN
        · have HSLB := Lib.hid (Sl.of (HOBK.out.lies (lo := 0) (hi := wr.heap.size) (fun q hq => ⟨Nat.zero_le _, hq.2.2⟩)))
          go_wp2_with fail
          refine wp_region_freeJ [([], .none, []), ([], .none, []), ([], .none, []), ([2], .none, []), ([1, 3], .none, []), ([], .none, []), ([], .none, []), ([6], .none, []), ([5, 7], .none, []), ([0, 4, 8], .none, []), ([9], .old, [])] [0, 1, 2, 3, 4, 5, 6, 7, 8, 9, 10] [10] (fun y => y = C) (fun wx => Cur B C a len cap wx) (fun jq9 => match jq9 with | 10 => w3.heap.size | _ => 0) (fun jq9 V L H wx => match jq9 with | 0 => V 0 = .agg #[.int .i64 (DRelation.fN b), .slice ba (DRelation.fRows b).length bc] | 1 => V 1 = .pointer (some ⟨C, 0, none⟩) | 2 => V 2 = .pointer (some ⟨w2.heap.size, 0, none⟩) | 3 => V 3 = .int .i64 (DRelation.fN x) | 4 => ∃ x4, V 4 = .int .i64 x4 ∧ (0 ≤ x4 ∧ x4 < DRelation.fN x) | 5 => V 5 = .pointer (some ⟨C, 0, none⟩) | 6 => V 6 = .pointer (some ⟨w2.heap.size, 0, none⟩) | 7 => V 7 = .int .i64 (DRelation.fN x) | 8 => ∃ x8, V 8 = .int .i64 x8 ∧ (0 ≤ x8 ∧ x8 < DRelation.fN x) | 9 => ∃ b9 ba9 bc9, V 9 = .agg #[.int .i64 (DRelation.fN b9), .slice ba9 (DRelation.fRows b9).length bc9] ∧ SmallRel b9 ∧ Own wx (fun q => L ≤ q ∧ q < H) (.sl 1 (DRelation.fRows b9).length (rowsI (DRelation.fRows b9))) (.slice ba9 (DRelation.fRows b9).length bc9) | 10 => ∀ x0 x1, V 9 = .agg #[x0, x1] → L < H ∧ wx.heap[L]? = some (.cells #[x0, x1] 27) | _ => True) (by kernel_rfl) (by kernel_rfl) ?obs (fun y h => by have h1 : y = C := h; omega) HCK.out (fun wa wb _ hj hk => hj.keptJ hk (fun q hq => ⟨by omega, And.intro (show q ≠ w3.heap.size by omega) trivial⟩)) ?loc ?lasts ?walk
          case obs =>
            exact (And.intro (And.intro (show w3.heap.size < wr.heap.size by omega) (show ¬ (w3.heap.size = C) by omega)) (And.intro (trivial) (trivial)))
          case loc =>
            intro k V V' L H wx h0 h1 hG
            match k with
            | 0 =>
              try dsimp only at hG ⊢
              rw [← h0]
              exact hG
            | 1 =>
              try dsimp only at hG ⊢
              rw [← h0]
              exact hG
            | 2 =>
              try dsimp only at hG ⊢
              rw [← h0]
              exact hG
            | 3 =>
              try dsimp only at hG ⊢
              rw [← h0]
              exact hG
            | 4 =>
              try dsimp only at hG ⊢
              rw [← h0]
              exact hG
            | 5 =>
              try dsimp only at hG ⊢
              rw [← h0]
              exact hG
            | 6 =>
              try dsimp only at hG ⊢
              rw [← h0]
              exact hG
            | 7 =>
              try dsimp only at hG ⊢
              rw [← h0]
              exact hG
            | 8 =>
              try dsimp only at hG ⊢
              rw [← h0]
              exact hG
            | 9 =>
              try dsimp only at hG ⊢
              rw [← h0]
              exact hG
            | 10 =>
              have e9 := h1 9 (by decide)
              try dsimp only at hG ⊢
              rw [← e9]
              exact hG
            | n + 11 => trivial
          case lasts =>
            intro i hi V L H wx wy hB hH hk
            match i, hi with
            | 0, _ => exact fun h => h
            | 1, _ => exact fun h => h
            | 2, _ => exact fun h => h
            | 3, _ => exact fun h => h
            | 4, _ => exact fun ⟨x4, hv, ho0⟩ => ⟨x4, hv, ho0⟩
            | 5, _ => exact fun h => h
            | 6, _ => exact fun h => h
            | 7, _ => exact fun h => h
            | 8, _ => exact fun ⟨x8, hv, ho0⟩ => ⟨x8, hv, ho0⟩
            | 9, _ => exact fun ⟨b9, ba9, bc9, hv, ho0, ho1⟩ => ⟨b9, ba9, bc9, hv, ho0, ho1.kept (hk.sub (fun q hq => .inr hq))⟩
            | 10, _ => exact fun h x0 x1 hv => ⟨(h x0 x1 hv).1, (hk.2 L (.inr ⟨Nat.le_refl _, (h x0 x1 hv).1⟩) (Nat.lt_of_lt_of_le (h x0 x1 hv).1 hH)).trans (h x0 x1 hv).2⟩
            | n + 11, hn => exact absurd hn (by simp)
          case walk =>
            simp only [freeJ, effJ, Nat.reduceAdd, Act.put, List.setIfInBounds_toArray, List.set_cons_succ, List.set_cons_zero]
            refine ⟨?_, ?_, ?_, ?_, ?_, ?_, ?_, ?_, ?_, ?_, ?_, ?_⟩
            · intro V L H w9 hw hk hj hd
              clear hd
              have hblk0 := (hk.2 w3.heap.size ⟨by omega, by omega, trivial⟩ (by omega)).trans HGB.out
              have hc0 := blk_cell (j := 0) (v := .int .i64 (DRelation.fN b)) hblk0 rfl
              have hc1 := blk_cell (j := 1) (v := .slice ba (DRelation.fRows b).length bc) hblk0 rfl
              clear hblk0
              go_wp2_with fail
              exact freePost _ rfl ⟨⟨WritesF.refl _ _, hj⟩, upd_self⟩
            · intro V L H w9 hw hk hj hd
              clear hd
              go_wp2_with fail
              exact freePost _ rfl ⟨⟨WritesF.refl _ _, hj⟩, upd_self⟩
            · intro V L H w9 hw hk hj hd
              clear hd
              go_wp2_with fail
              exact freePost _ rfl ⟨⟨WritesF.refl _ _, hj⟩, upd_self⟩
            · intro V L H w9 hw hk hj hd
              obtain ⟨⟨hL2, hM2, hH2, hv2⟩, -⟩ := hd
              rw [hv2]
              have HV2 := Lib.hid hv2
              clear hv2
              have hblk0 := (hk.2 w2.heap.size ⟨by omega, by omega, trivial⟩ (by omega)).trans HXK.out
              have hc0 := blk_cell (j := 0) (v := .int .i64 (DRelation.fN x)) hblk0 rfl
              have hc1 := blk_cell (j := 1) (v := .slice xa (DRelation.fRows x).length xc) hblk0 rfl
              clear hblk0
              go_wp2_with fail
              exact freePost _ rfl ⟨⟨WritesF.refl _ _, hj⟩, upd_self⟩
            · intro V L H w9 hw hk hj hd
              obtain ⟨⟨hL1, hM1, hH1, hv1⟩, ⟨hL3, hM3, hH3, hv3⟩, -⟩ := hd
              rw [hv1, hv3]
              have HV1 := Lib.hid hv1
              have HV3 := Lib.hid hv3
              clear hv1 hv3
              go_wp2_with fail
              refine (draw_below _ hj (DRelation.fN x) (by omega)).mono ?_
              rintro e w6 ⟨y, rfl, hy0, hy1, hj2, hww⟩
              have hw2 := hww.toF
              clear hww
              go_wp2_with fail
              exact freePost _ rfl ⟨⟨hw2, hj2⟩, Exists.intro y (And.intro (upd_self) ((⟨hy0, hy1⟩ : _ ∧ _)))⟩
            · intro V L H w9 hw hk hj hd
              clear hd
              go_wp2_with fail
              exact freePost _ rfl ⟨⟨WritesF.refl _ _, hj⟩, upd_self⟩
            · intro V L H w9 hw hk hj hd
              clear hd
              go_wp2_with fail
              exact freePost _ rfl ⟨⟨WritesF.refl _ _, hj⟩, upd_self⟩
            · intro V L H w9 hw hk hj hd
              obtain ⟨⟨hL6, hM6, hH6, hv6⟩, -⟩ := hd
              rw [hv6]
              have HV6 := Lib.hid hv6
              clear hv6
              have hblk0 := (hk.2 w2.heap.size ⟨by omega, by omega, trivial⟩ (by omega)).trans HXK.out
              have hc0 := blk_cell (j := 0) (v := .int .i64 (DRelation.fN x)) hblk0 rfl
              have hc1 := blk_cell (j := 1) (v := .slice xa (DRelation.fRows x).length xc) hblk0 rfl
              clear hblk0
              go_wp2_with fail
              exact freePost _ rfl ⟨⟨WritesF.refl _ _, hj⟩, upd_self⟩
            · intro V L H w9 hw hk hj hd
              obtain ⟨⟨hL5, hM5, hH5, hv5⟩, ⟨hL7, hM7, hH7, hv7⟩, -⟩ := hd
              rw [hv5, hv7]
              have HV5 := Lib.hid hv5
              have HV7 := Lib.hid hv7
              clear hv5 hv7
              go_wp2_with fail
              refine (draw_below _ hj (DRelation.fN x) (by omega)).mono ?_
              rintro e w6 ⟨y, rfl, hy0, hy1, hj2, hww⟩
              have hw2 := hww.toF
              clear hww
              go_wp2_with fail
              exact freePost _ rfl ⟨⟨hw2, hj2⟩, Exists.intro y (And.intro (upd_self) ((⟨hy0, hy1⟩ : _ ∧ _)))⟩
            · intro V L H w9 hw hk hj hd
              obtain ⟨⟨hL0, hM0, hH0, hv0⟩, ⟨hL4, hM4, hH4, x4, hv4, ho4_0⟩, ⟨hL8, hM8, hH8, x8, hv8, ho8_0⟩, -⟩ := hd
              rw [hv0, hv4, hv8]
              have HV0 := Lib.hid hv0
              have HV4 := Lib.hid hv4
              have HV8 := Lib.hid hv8
              clear hv0 hv4 hv8
              go_wp2_with fail
              refine (spec_AddPair (lo := 0) (hi := w9.heap.size) (c0_0 := bc) b HSBK.out.ok HSBK.out.sz x4 (by unfold okI; omega) x8 (by unfold okI; omega) _ (Nat.le_refl _) (Sl.of ((HOBK.out.kept (hk.sub (fun q hq => ⟨by omega, by omega, trivial⟩))).lies (lo := 0) (hi := w9.heap.size) (fun q hq => ⟨Nat.zero_le _, by have := hw.size; omega⟩)))).mono ?_
              rintro e w10 ⟨ba9, bc9, rfl, ho9, hb2⟩
              have hs9 := HSBK.out.add x4 x8
              generalize addPair b x4 x8 = b9 at hs9 ho9 ⊢
              have HS9 := Lib.hid hs9
              clear hs9
              go_wp2_with fail
              exact freePost _ rfl ⟨⟨(WritesF.refl _ _).later hb2, (hj.later hb2)⟩, Exists.intro b9 (Exists.intro ba9 (Exists.intro bc9 (And.intro (upd_self) (And.intro (HS9.out) (ho9)))))⟩
            · intro V L H w9 hw hk hj hd
              obtain ⟨⟨hL9, hM9, hH9, b9, ba9, bc9, hv9, ho9_0, ho9_1⟩, -⟩ := hd
              rw [hv9]
              have HV9 := Lib.hid hv9
              clear hv9
              have hblk : w9.heap[w3.heap.size]? = some (.cells #[.int .i64 (DRelation.fN b), .slice ba (DRelation.fRows b).length bc] 27) := (hk.2 w3.heap.size ⟨by omega, by omega, trivial⟩ (by omega)).trans HGB.out
              have hc_0 := blk_cell (j := 0) (v := .int .i64 (DRelation.fN b)) hblk rfl
              have hf_0 := blk_frozen (j := 0) hblk
              have hc_1 := blk_cell (j := 1) (v := .slice ba (DRelation.fRows b).length bc) hblk rfl
              have hf_1 := blk_frozen (j := 1) hblk
              have HBLK := Lib.hid hblk
              clear hblk
              go_wp2_with fail
              refine freePost undef rfl ⟨(Touches.put (L := w3.heap.size) (H := w3.heap.size + 1) (Touches.put (L := w3.heap.size) (H := w3.heap.size + 1) Touches.refl (p := ⟨w3.heap.size, 0, none⟩) ⟨Nat.le_refl _, (Nat.lt_succ_self _)⟩ _) (p := ⟨w3.heap.size, 1, none⟩) ⟨Nat.le_refl _, (Nat.lt_succ_self _)⟩ _), fun x0 x1 h => ?_⟩
              cases (HV9.out.symm.trans ((upd_ne (by decide)).symm.trans h))
              exact ⟨(Nat.lt_succ_self _), (blk_putJ (blk_putJ HBLK.out rfl) rfl)⟩
            · intro V L H w9 hw hj hd hap hdead
              obtain ⟨⟨hL0, hM0, hH0, hv0⟩, ⟨hL1, hM1, hH1, hv1⟩, ⟨hL2, hM2, hH2, hv2⟩, ⟨hL3, hM3, hH3, hv3⟩, ⟨hL4, hM4, hH4, x4, hv4, ho4_0⟩, ⟨hL5, hM5, hH5, hv5⟩, ⟨hL6, hM6, hH6, hv6⟩, ⟨hL7, hM7, hH7, hv7⟩, ⟨hL8, hM8, hH8, x8, hv8, ho8_0⟩, ⟨hL9, hM9, hH9, b9, ba9, bc9, hv9, ho9_0, ho9_1⟩, ⟨hL10, hM10, hH10, hst10_⟩, -⟩ := hd
              obtain ⟨pe10, pe10'⟩ : L 10 = w3.heap.size ∧ H 10 = w3.heap.size + 1 := hL10
              obtain ⟨-, pb10⟩ := hst10_ _ _ hv9
              rw [pe10] at pb10
              rw [hv0, hv1, hv2, hv3, hv4, hv5, hv6, hv7, hv8, hv9]
              clear hv0 hv1 hv2 hv3 hv4 hv5 hv6 hv7 hv8 hv9
              have hL9' : wr.heap.size ≤ L 9 := hL9
              have HJ := Lib.hid hj
              have HWW := Lib.hid hw
              have hz9 : wr.heap.size ≤ w9.heap.size := hw.size
              clear hw hj hap hdead
              go_wp2
              go_roundw
              case rel =>
                exact ⟨k + 1, b9, ba9, bc9, by omega, by go_num, ho9_0, pb10, ho9_1.sub (fun q hq => ⟨by omega, by omega, by omega⟩), HJ.out, HWK.out.trans (HWW.out.sub fun q h => h.imp id (fun h => Classical.byContradiction fun hn => h ⟨hn, trivial⟩))⟩
              case measure => simp [RowKit.intOf]; omega
        · skip
          go_wp2_with fail
          refine wp_region_freeJ [([], .none, [2, 3]), ([], .none, [2, 3]), ([0], .old, [3]), ([1], .old, [2])] [0, 1, 2, 3] [2, 3] (fun _ => False) (fun _ => True) (fun jq9 => match jq9 with | 2 => w.heap.size | 3 => (w.heap.size + 1) | _ => 0) (fun jq9 V L H wx => match jq9 with | 0 => V 0 = .agg #[.int .i64 (DRelation.fN x), .slice xa (DRelation.fRows x).length xc] | 1 => V 1 = .agg #[.int .i64 (DRelation.fN b), .slice ba (DRelation.fRows b).length bc] | 2 => ∀ x0 x1, V 0 = .agg #[x0, x1] → L < H ∧ wx.heap[L]? = some (.cells #[x0, x1] 27) | 3 => ∀ x0 x1, V 1 = .agg #[x0, x1] → L < H ∧ wx.heap[L]? = some (.cells #[x0, x1] 27) | _ => True) (by kernel_rfl) (by kernel_rfl) ?obs (fun _ h => h.elim) trivial (fun _ _ _ _ _ => trivial) ?loc ?lasts ?walk
          case obs =>
            exact (And.intro (And.intro (show w.heap.size < wr.heap.size by omega) (fun h => h)) (And.intro (And.intro (show w.heap.size ≠ (w.heap.size + 1) by omega) (trivial)) (And.intro (And.intro (show (w.heap.size + 1) < wr.heap.size by omega) (fun h => h)) (And.intro (trivial) (trivial)))))
          case loc =>
            intro k V V' L H wx h0 h1 hG
            match k with
            | 0 =>
              try dsimp only at hG ⊢
              rw [← h0]
              exact hG
            | 1 =>
              try dsimp only at hG ⊢
              rw [← h0]
              exact hG
            | 2 =>
              have e0 := h1 0 (by decide)
              try dsimp only at hG ⊢
              rw [← e0]
              exact hG
            | 3 =>
              have e1 := h1 1 (by decide)
              try dsimp only at hG ⊢
              rw [← e1]
              exact hG
            | n + 4 => trivial
          case lasts =>
            intro i hi V L H wx wy hB hH hk
            match i, hi with
            | 0, _ => exact fun h => h
            | 1, _ => exact fun h => h
            | 2, _ => exact fun h x0 x1 hv => ⟨(h x0 x1 hv).1, (hk.2 L (.inr ⟨Nat.le_refl _, (h x0 x1 hv).1⟩) (Nat.lt_of_lt_of_le (h x0 x1 hv).1 hH)).trans (h x0 x1 hv).2⟩
            | 3, _ => exact fun h x0 x1 hv => ⟨(h x0 x1 hv).1, (hk.2 L (.inr ⟨Nat.le_refl _, (h x0 x1 hv).1⟩) (Nat.lt_of_lt_of_le (h x0 x1 hv).1 hH)).trans (h x0 x1 hv).2⟩
            | n + 4, hn => exact absurd hn (by simp)
          case walk =>
            simp only [freeJ, effJ, Nat.reduceAdd, Act.put, List.setIfInBounds_toArray, List.set_cons_succ, List.set_cons_zero]
            refine ⟨?_, ?_, ?_, ?_, ?_⟩
            · intro V L H w9 hw hk hj hd
              clear hd
              have hblk0 := (hk.2 w2.heap.size ⟨by omega, fun h => h, And.intro (show w2.heap.size ≠ w.heap.size by omega) (And.intro (show w2.heap.size ≠ w.heap.size + 1 by omega) trivial)⟩ (by omega)).trans HXK.out
              have hc0 := blk_cell (j := 0) (v := .int .i64 (DRelation.fN x)) hblk0 rfl
              have hc1 := blk_cell (j := 1) (v := .slice xa (DRelation.fRows x).length xc) hblk0 rfl
              clear hblk0
              go_wp2_with fail
              exact freePost _ rfl ⟨⟨WritesF.refl _ _, hj⟩, upd_self⟩
            · intro V L H w9 hw hk hj hd
              clear hd
              have hblk0 := (hk.2 w3.heap.size ⟨by omega, fun h => h, And.intro (show w3.heap.size ≠ w.heap.size by omega) (And.intro (show w3.heap.size ≠ w.heap.size + 1 by omega) trivial)⟩ (by omega)).trans HGB.out
              have hc0 := blk_cell (j := 0) (v := .int .i64 (DRelation.fN b)) hblk0 rfl
              have hc1 := blk_cell (j := 1) (v := .slice ba (DRelation.fRows b).length bc) hblk0 rfl
              clear hblk0
              go_wp2_with fail
              exact freePost _ rfl ⟨⟨WritesF.refl _ _, hj⟩, upd_self⟩
            · intro V L H w9 hw hk hj hd
              obtain ⟨⟨hL0, hM0, hH0, hv0⟩, -⟩ := hd
              rw [hv0]
              have HV0 := Lib.hid hv0
              clear hv0
              have hblk : w9.heap[w.heap.size]? = some (.cells #[.int .i64 0, .slice none 0 0] 27) := (hk.2 w.heap.size ⟨by omega, fun h => h, And.intro (show w.heap.size ≠ w.heap.size + 1 by omega) trivial⟩ (by omega)).trans HGK.out
              have hc_0 := blk_cell (j := 0) (v := .int .i64 0) hblk rfl
              have hf_0 := blk_frozen (j := 0) hblk
              have hc_1 := blk_cell (j := 1) (v := .slice none 0 0) hblk rfl
              have hf_1 := blk_frozen (j := 1) hblk
              have HBLK := Lib.hid hblk
              clear hblk
              go_wp2_with fail
              refine freePost undef rfl ⟨(Touches.put (L := w.heap.size) (H := w.heap.size + 1) (Touches.put (L := w.heap.size) (H := w.heap.size + 1) Touches.refl (p := ⟨w.heap.size, 0, none⟩) ⟨Nat.le_refl _, (Nat.lt_succ_self _)⟩ _) (p := ⟨w.heap.size, 1, none⟩) ⟨Nat.le_refl _, (Nat.lt_succ_self _)⟩ _), fun x0 x1 h => ?_⟩
              cases (HV0.out.symm.trans ((upd_ne (by decide)).symm.trans h))
              exact ⟨(Nat.lt_succ_self _), (blk_putJ (blk_putJ HBLK.out rfl) rfl)⟩
            · intro V L H w9 hw hk hj hd
              obtain ⟨⟨hL1, hM1, hH1, hv1⟩, -⟩ := hd
              rw [hv1]
              have HV1 := Lib.hid hv1
              clear hv1
              have hblk : w9.heap[(w.heap.size + 1)]? = some (.cells #[.int .i64 0, .slice none 0 0] 27) := (hk.2 (w.heap.size + 1) ⟨by omega, fun h => h, And.intro (show w.heap.size + 1 ≠ w.heap.size by omega) trivial⟩ (by omega)).trans HHK.out
              have hc_0 := blk_cell (j := 0) (v := .int .i64 0) hblk rfl
              have hf_0 := blk_frozen (j := 0) hblk
              have hc_1 := blk_cell (j := 1) (v := .slice none 0 0) hblk rfl
              have hf_1 := blk_frozen (j := 1) hblk
              have HBLK := Lib.hid hblk
              clear hblk
              go_wp2_with fail
              refine freePost undef rfl ⟨(Touches.put (L := (w.heap.size + 1)) (H := (w.heap.size + 1) + 1) (Touches.put (L := (w.heap.size + 1)) (H := (w.heap.size + 1) + 1) Touches.refl (p := ⟨(w.heap.size + 1), 0, none⟩) ⟨Nat.le_refl _, (Nat.lt_succ_self _)⟩ _) (p := ⟨(w.heap.size + 1), 1, none⟩) ⟨Nat.le_refl _, (Nat.lt_succ_self _)⟩ _), fun x0 x1 h => ?_⟩
              cases (HV1.out.symm.trans ((upd_ne (by decide)).symm.trans h))
              exact ⟨(Nat.lt_succ_self _), (blk_putJ (blk_putJ HBLK.out rfl) rfl)⟩
            · intro V L H w9 hw hj hd hap hdead
              obtain ⟨⟨hL0, hM0, hH0, hv0⟩, ⟨hL1, hM1, hH1, hv1⟩, ⟨hL2, hM2, hH2, hst2_⟩, ⟨hL3, hM3, hH3, hst3_⟩, -⟩ := hd
              obtain ⟨pe2, pe2'⟩ : L 2 = w.heap.size ∧ H 2 = w.heap.size + 1 := hL2
              obtain ⟨-, pb2⟩ := hst2_ _ _ hv0
              rw [pe2] at pb2
              obtain ⟨pe3, pe3'⟩ : L 3 = (w.heap.size + 1) ∧ H 3 = (w.heap.size + 1) + 1 := hL3
              obtain ⟨-, pb3⟩ := hst3_ _ _ hv1
              rw [pe3] at pb3
              rw [hv0, hv1]
              clear hv0 hv1
              have Hwr := Lib.hid hw
              have HP1 := Lib.hid pb2
              have HP2 := Lib.hid pb3
              have hz9 : wr.heap.size ≤ w9.heap.size := hw.size
              clear hw hj hap hdead pb2 pb3
              go_wp2
              refine bodyPost_ret (v := .tuple #[.agg #[.int .i64 (DRelation.fN x), .slice xa (DRelation.fRows x).length xc], .agg #[.int .i64 (DRelation.fN b), .slice ba (DRelation.fRows b).length bc]]) (results_cell_cell Try.results23 _ _ w.heap.size (w.heap.size + 1) 27 27 #[.int .i64 (DRelation.fN x), .slice xa (DRelation.fRows x).length xc] #[.int .i64 (DRelation.fN b), .slice ba (DRelation.fRows b).length bc] (0, 0) (0, 0) _ _ rfl rfl HP1.out HP2.out Try.underlying27 rfl rfl Try.underlying27 rfl rfl) rfl ?_
              refine ⟨x, xa, xc, b, ba, bc, rfl, HSX.out, HSBK.out, ?_, ?_, ?_⟩
              · exact (HXOK.out.kept (Hwr.out.kept (fun q hq => (fun h => h.elim (fun h => h) (fun h => h ⟨(show q ≠ w.heap.size by omega), ⟨(show q ≠ w.heap.size + 1 by omega), trivial⟩⟩))))).sub (fun q hq => ⟨by omega, by omega⟩)
              · exact (HOBK.out.kept (Hwr.out.kept (fun q hq => (fun h => h.elim (fun h => h) (fun h => h ⟨(show q ≠ w.heap.size by omega), ⟨(show q ≠ w.heap.size + 1 by omega), trivial⟩⟩))))).sub (fun q hq => ⟨by omega, by omega⟩)
              · exact HBK.out.trans ⟨Hwr.out.os, Hwr.out.tape, Hwr.out.output, Hwr.out.size, fun k hk => Hwr.out.block k (by omega) (fun h => h.elim (fun h => h) (fun h => h ⟨(show k ≠ w.heap.size by omega), ⟨(show k ≠ w.heap.size + 1 by omega), trivial⟩⟩))⟩
    · have hq : (x.fN == (x.fRows.length : Int)) = false := beq_eq_false_iff_ne.2 hxl
      clear hxl
      go_wp2_with fail
      refine wp_region_freeJ [([], .none, [2, 3]), ([], .none, [2, 3]), ([0], .old, [3]), ([1], .old, [2])] [0, 1, 2, 3] [2, 3] (fun _ => False) (fun _ => True) (fun jq9 => match jq9 with | 2 => w.heap.size | 3 => (w.heap.size + 1) | _ => 0) (fun jq9 V L H wx => match jq9 with | 0 => V 0 = .agg #[.int .i64 (DRelation.fN x), .slice xa (DRelation.fRows x).length xc] | 1 => V 1 = .agg #[.int .i64 (DRelation.fN y), .slice ya (DRelation.fRows y).length yc] | 2 => ∀ x0 x1, V 0 = .agg #[x0, x1] → L < H ∧ wx.heap[L]? = some (.cells #[x0, x1] 27) | 3 => ∀ x0 x1, V 1 = .agg #[x0, x1] → L < H ∧ wx.heap[L]? = some (.cells #[x0, x1] 27) | _ => True) (by kernel_rfl) (by kernel_rfl) ?obs (fun _ h => h.elim) trivial (fun _ _ _ _ _ => trivial) ?loc ?lasts ?walk
      case obs =>
        exact (And.intro (And.intro (show w.heap.size < w4.heap.size by omega) (fun h => h)) (And.intro (And.intro (show w.heap.size ≠ (w.heap.size + 1) by omega) (trivial)) (And.intro (And.intro (show (w.heap.size + 1) < w4.heap.size by omega) (fun h => h)) (And.intro (trivial) (trivial)))))
      case loc =>
        intro k V V' L H wx h0 h1 hG
        match k with
        | 0 =>
          try dsimp only at hG ⊢
          rw [← h0]
          exact hG
        | 1 =>
          try dsimp only at hG ⊢
          rw [← h0]
          exact hG
        | 2 =>
          have e0 := h1 0 (by decide)
          try dsimp only at hG ⊢
          rw [← e0]
          exact hG
        | 3 =>
          have e1 := h1 1 (by decide)
          try dsimp only at hG ⊢
          rw [← e1]
          exact hG
        | n + 4 => trivial
      case lasts =>
        intro i hi V L H wx wy hB hH hk
        match i, hi with
        | 0, _ => exact fun h => h
        | 1, _ => exact fun h => h
        | 2, _ => exact fun h x0 x1 hv => ⟨(h x0 x1 hv).1, (hk.2 L (.inr ⟨Nat.le_refl _, (h x0 x1 hv).1⟩) (Nat.lt_of_lt_of_le (h x0 x1 hv).1 hH)).trans (h x0 x1 hv).2⟩
        | 3, _ => exact fun h x0 x1 hv => ⟨(h x0 x1 hv).1, (hk.2 L (.inr ⟨Nat.le_refl _, (h x0 x1 hv).1⟩) (Nat.lt_of_lt_of_le (h x0 x1 hv).1 hH)).trans (h x0 x1 hv).2⟩
        | n + 4, hn => exact absurd hn (by simp)
      case walk =>
        simp only [freeJ, effJ, Nat.reduceAdd, Act.put, List.setIfInBounds_toArray, List.set_cons_succ, List.set_cons_zero]
        refine ⟨?_, ?_, ?_, ?_, ?_⟩
        · intro V L H w9 hw hk hj hd
          clear hd
          have hblk0 := (hk.2 w2.heap.size ⟨by omega, fun h => h, And.intro (show w2.heap.size ≠ w.heap.size by omega) (And.intro (show w2.heap.size ≠ w.heap.size + 1 by omega) trivial)⟩ (by omega)).trans HX6.out
          have hc0 := blk_cell (j := 0) (v := .int .i64 (DRelation.fN x)) hblk0 rfl
          have hc1 := blk_cell (j := 1) (v := .slice xa (DRelation.fRows x).length xc) hblk0 rfl
          clear hblk0
          go_wp2_with fail
          exact freePost _ rfl ⟨⟨WritesF.refl _ _, hj⟩, upd_self⟩
        · intro V L H w9 hw hk hj hd
          clear hd
          have hblk0 := (hk.2 w3.heap.size ⟨by omega, fun h => h, And.intro (show w3.heap.size ≠ w.heap.size by omega) (And.intro (show w3.heap.size ≠ w.heap.size + 1 by omega) trivial)⟩ (by omega)).trans HY6.out
          have hc0 := blk_cell (j := 0) (v := .int .i64 (DRelation.fN y)) hblk0 rfl
          have hc1 := blk_cell (j := 1) (v := .slice ya (DRelation.fRows y).length yc) hblk0 rfl
          clear hblk0
          go_wp2_with fail
          exact freePost _ rfl ⟨⟨WritesF.refl _ _, hj⟩, upd_self⟩
        · intro V L H w9 hw hk hj hd
          obtain ⟨⟨hL0, hM0, hH0, hv0⟩, -⟩ := hd
          rw [hv0]
          have HV0 := Lib.hid hv0
          clear hv0
          have hblk : w9.heap[w.heap.size]? = some (.cells #[.int .i64 0, .slice none 0 0] 27) := (hk.2 w.heap.size ⟨by omega, fun h => h, And.intro (show w.heap.size ≠ w.heap.size + 1 by omega) trivial⟩ (by omega)).trans HG4.out
          have hc_0 := blk_cell (j := 0) (v := .int .i64 0) hblk rfl
          have hf_0 := blk_frozen (j := 0) hblk
          have hc_1 := blk_cell (j := 1) (v := .slice none 0 0) hblk rfl
          have hf_1 := blk_frozen (j := 1) hblk
          have HBLK := Lib.hid hblk
          clear hblk
          go_wp2_with fail
          refine freePost undef rfl ⟨(Touches.put (L := w.heap.size) (H := w.heap.size + 1) (Touches.put (L := w.heap.size) (H := w.heap.size + 1) Touches.refl (p := ⟨w.heap.size, 0, none⟩) ⟨Nat.le_refl _, (Nat.lt_succ_self _)⟩ _) (p := ⟨w.heap.size, 1, none⟩) ⟨Nat.le_refl _, (Nat.lt_succ_self _)⟩ _), fun x0 x1 h => ?_⟩
          cases (HV0.out.symm.trans ((upd_ne (by decide)).symm.trans h))
          exact ⟨(Nat.lt_succ_self _), (blk_putJ (blk_putJ HBLK.out rfl) rfl)⟩
        · intro V L H w9 hw hk hj hd
          obtain ⟨⟨hL1, hM1, hH1, hv1⟩, -⟩ := hd
          rw [hv1]
          have HV1 := Lib.hid hv1
          clear hv1
          have hblk : w9.heap[(w.heap.size + 1)]? = some (.cells #[.int .i64 0, .slice none 0 0] 27) := (hk.2 (w.heap.size + 1) ⟨by omega, fun h => h, And.intro (show w.heap.size + 1 ≠ w.heap.size by omega) trivial⟩ (by omega)).trans HH4.out
          have hc_0 := blk_cell (j := 0) (v := .int .i64 0) hblk rfl
          have hf_0 := blk_frozen (j := 0) hblk
          have hc_1 := blk_cell (j := 1) (v := .slice none 0 0) hblk rfl
          have hf_1 := blk_frozen (j := 1) hblk
          have HBLK := Lib.hid hblk
          clear hblk
          go_wp2_with fail
          refine freePost undef rfl ⟨(Touches.put (L := (w.heap.size + 1)) (H := (w.heap.size + 1) + 1) (Touches.put (L := (w.heap.size + 1)) (H := (w.heap.size + 1) + 1) Touches.refl (p := ⟨(w.heap.size + 1), 0, none⟩) ⟨Nat.le_refl _, (Nat.lt_succ_self _)⟩ _) (p := ⟨(w.heap.size + 1), 1, none⟩) ⟨Nat.le_refl _, (Nat.lt_succ_self _)⟩ _), fun x0 x1 h => ?_⟩
          cases (HV1.out.symm.trans ((upd_ne (by decide)).symm.trans h))
          exact ⟨(Nat.lt_succ_self _), (blk_putJ (blk_putJ HBLK.out rfl) rfl)⟩
        · intro V L H w9 hw hj hd hap hdead
          obtain ⟨⟨hL0, hM0, hH0, hv0⟩, ⟨hL1, hM1, hH1, hv1⟩, ⟨hL2, hM2, hH2, hst2_⟩, ⟨hL3, hM3, hH3, hst3_⟩, -⟩ := hd
          obtain ⟨pe2, pe2'⟩ : L 2 = w.heap.size ∧ H 2 = w.heap.size + 1 := hL2
          obtain ⟨-, pb2⟩ := hst2_ _ _ hv0
          rw [pe2] at pb2
          obtain ⟨pe3, pe3'⟩ : L 3 = (w.heap.size + 1) ∧ H 3 = (w.heap.size + 1) + 1 := hL3
          obtain ⟨-, pb3⟩ := hst3_ _ _ hv1
          rw [pe3] at pb3
          rw [hv0, hv1]
          clear hv0 hv1
          have Hw4 := Lib.hid hw
          have HP1 := Lib.hid pb2
          have HP2 := Lib.hid pb3
          have hz9 : w4.heap.size ≤ w9.heap.size := hw.size
          clear hw hj hap hdead pb2 pb3
          go_wp2
          refine bodyPost_ret (v := .tuple #[.agg #[.int .i64 (DRelation.fN x), .slice xa (DRelation.fRows x).length xc], .agg #[.int .i64 (DRelation.fN y), .slice ya (DRelation.fRows y).length yc]]) (results_cell_cell Try.results23 _ _ w.heap.size (w.heap.size + 1) 27 27 #[.int .i64 (DRelation.fN x), .slice xa (DRelation.fRows x).length xc] #[.int .i64 (DRelation.fN y), .slice ya (DRelation.fRows y).length yc] (0, 0) (0, 0) _ _ rfl rfl HP1.out HP2.out Try.underlying27 rfl rfl Try.underlying27 rfl rfl) rfl ?_
          refine ⟨x, xa, xc, y, ya, yc, rfl, HSX.out, HSY.out, ?_, ?_, ?_⟩
          · exact (HX4.out.kept (Hw4.out.kept (fun q hq => (fun h => h.elim (fun h => h) (fun h => h ⟨(show q ≠ w.heap.size by omega), ⟨(show q ≠ w.heap.size + 1 by omega), trivial⟩⟩))))).sub (fun q hq => ⟨by omega, by omega⟩)
          · exact (HY4.out.kept (Hw4.out.kept (fun q hq => (fun h => h.elim (fun h => h) (fun h => h ⟨(show q ≠ w.heap.size by omega), ⟨(show q ≠ w.heap.size + 1 by omega), trivial⟩⟩))))).sub (fun q hq => ⟨by omega, by omega⟩)
          · exact HB4.out.trans ⟨Hw4.out.os, Hw4.out.tape, Hw4.out.output, Hw4.out.size, fun k hk => Hw4.out.block k (by omega) (fun h => h.elim (fun h => h) (fun h => h ⟨(show k ≠ w.heap.size by omega), ⟨(show k ≠ w.heap.size + 1 by omega), trivial⟩⟩))⟩

/-- Numbers below 'from' and the cursor's block stand as they were. -/
def listSizes : List Int := [0, 1, 2, 3, 4, 16, 17]
theorem listSizes_in : ∀ x ∈ listSizes, 0 ≤ x ∧ x ≤ 17 := by decide
set_option maxHeartbeats 1600000 in
set_option maxRecDepth 100000 in
theorem spec_DrawProjectRelation {B : Nat} {a : Option Addr} {len cap : Nat} (w : World) (hB : B ≤ w.heap.size) (hl : len ≤ 1048576) (hc : Code B w a len) :
    Calls Try.prog 26 #[.slice a len cap] w fun e w' => ∃ (r : DRelation) (ra : Option Addr) (rc : Nat) (l : List Int) (la : Option Addr) (lc : Nat), e = .returned (.tuple #[.agg #[.int .i64 (DRelation.fN r), .slice ra (DRelation.fRows r).length rc], .slice la l.length lc]) ∧ SmallRel r ∧ l.length ≤ 17 ∧ okL okI l ∧ RelHere w' w.heap.size r ra rc ∧ Own w' (fun q => w.heap.size ≤ q ∧ q < w'.heap.size) (.sl 1 l.length (rowsI l)) (.slice la l.length lc) ∧ Below w.heap.size w w' := by
  have HC := Lib.hid (hc.below ((Below.refl B w).alloc hB (.cells #[.int .i64 0, .slice none 0 0] 27)))
  have HB0 := Lib.hid ((Below.refl w.heap.size w).alloc (Nat.le_refl _) (.cells #[.int .i64 0, .slice none 0 0] 27))
  clear hc
  obtain ⟨i0, hi', hq0, hq1, hq2⟩ := info_parts info_Int
  go_enter Try.func26, Try.ntmps26
  go_wp2_with fail
  refine (draw_new (w.alloc (.cells #[.int .i64 0, .slice none 0 0] 27)) (by simp; omega) hl HC.out).mono ?_
  rintro e w1 ⟨C, rfl, hC, hc1, hb1⟩
  have hC1 : w.heap.size + 1 ≤ C := by simpa using hC
  have HG1 := Lib.hid ((hb1.block w.heap.size (by simp)).trans (blk_new rfl))
  have HB1 := Lib.hid (HB0.out.trans (hb1.mono (by simp)))
  have HC1 := Lib.hid hc1
  clear hc1 hb1 hC HC HB0
  go_wp2_with fail
  refine (spec_l22Draw w1 HC1.out).mono ?_
  rintro e w2 ⟨r, ra, rc, rfl, hs, ho, hcu, hw⟩
  have hz1 : w.heap.size ≤ w1.heap.size := HB1.out.size
  have hlt := HC1.out.lt
  have hz2 : w1.heap.size ≤ w2.heap.size := hw.size
  have HG2 := Lib.hid ((hw.block w.heap.size (by omega) (by omega)).trans HG1.out)
  have HB2 := Lib.hid (HB1.out.trans (hw.toBelow (by omega) hz1))
  have HS := Lib.hid hs
  have HO2 := Lib.hid ho
  have hN0 : 0 ≤ r.fN := HS.out.n0
  have hN1 : r.fN ≤ 17 := HS.out.n1
  have HBA := Lib.hid (((Below.refl w2.heap.size w2).alloc (Nat.le_refl _) (.cells #[.int .i64 (DRelation.fN r), .slice ra (DRelation.fRows r).length rc] 27)).alloc (by simp) (.cells #[] 3))
  have HC2 := Lib.hid (hcu.later HBA.out)
  have HV := Lib.hid (show ((w2.alloc (.cells #[.int .i64 (DRelation.fN r), .slice ra (DRelation.fRows r).length rc] 27)).alloc (.cells #[] 3)).ownsRow (w2.heap.size + 1) 3 1 (.slice (some ⟨w2.heap.size + 1, 0, none⟩) 0 0) ([] : List Int).length (([] : List Int).map (Value.int .i64)) from by
    have h := World.ownsRow_made (e := 3) (size := 1) (w2.alloc (.cells #[.int .i64 (DRelation.fN r), .slice ra (DRelation.fRows r).length rc] 27)) #[] 0 (Nat.le_refl _) (Nat.zero_le _) rfl
    rw [show (w2.alloc (.cells #[.int .i64 (DRelation.fN r), .slice ra (DRelation.fRows r).length rc] 27)).heap.size = w2.heap.size + 1 by simp] at h
    exact h)
  clear hcu hw hs ho HG1 HB1 HC1
  go_wp2_with fail
  refine (pick_int_at ((w2.alloc (.cells #[.int .i64 (DRelation.fN r), .slice ra (DRelation.fRows r).length rc] 27)).alloc (.cells #[] 3)) HC2.out (w2.heap.size + 2) (by simp) listSizes (by decide) (by decide) 3).mono ?_
  rintro e w3 ⟨j, hj, rfl, hcu, hw⟩
  have hb := listSizes_in _ (getD_mem (d := 0) listSizes j hj)
  generalize listSizes.getD j 0 = n0 at hb
  obtain ⟨N, rfl⟩ : ∃ N : Nat, n0 = N := ⟨n0.toNat, by omega⟩
  have hN17 : N ≤ 17 := by omega
  have hz3 : w2.heap.size + 2 ≤ w3.heap.size := Nat.le_trans (by simp) hw.size
  have HG3 := Lib.hid ((hw.block w.heap.size (by simp; omega) (by omega)).trans ((HBA.out.block w.heap.size (by omega)).trans HG2.out))
  have HR3 := Lib.hid ((hw.block w2.heap.size (by simp; omega) (by omega)).trans (blk_alloc (by simp) (blk_new rfl)))
  have HO3 := Lib.hid ((HO2.out.kept (Kept.of_below_all HBA.out)).kept (Kept.of_writes hw (fun h => by have := h.1; omega)))
  have HB3 := Lib.hid ((HB2.out.trans (HBA.out.mono HB2.out.size)).trans (hw.toBelow (by omega) (by simp; omega)))
  have HC3 := Lib.hid hcu
  have HV3 := Lib.hid (HV.out.kept (w' := w3) ⟨hw.os, hw.tape, hw.output, hw.size, fun k hk hn => hw.block k hk (fun e => hn (congrArg some e))⟩ (Or.inr (fun e => by simp [Value.ownBlock] at e; omega)))
  clear hb hj hcu hw HG2 HB2 HO2 HBA HC2 HV
  go_wp2
  go_loopw [6, 8] (fun v i wr => ∃ l : List Int, l.length ≤ N ∧ i = .int .i64 (l.length : Int) ∧ wr.ownsRow (w2.heap.size + 1) 3 1 v l.length (l.map (Value.int .i64)) ∧ (∀ z ∈ l, okI z) ∧ Cur B C a len cap wr ∧ WritesF (fun q => q = C ∨ w2.heap.size + 1 ≤ q) w3 wr) (fun _ i _ => N - (RowKit.intOf i).toNat)
  case atStart => exact ⟨[], Nat.zero_le _, rfl, HV3.out, by simp, HC3.out, WritesF.refl _ _⟩
  case round =>
    obtain ⟨l, hk, rfl, hv, hok, hcu, hwr⟩ := hrel
    have hz6 : w3.heap.size ≤ wr.heap.size := hwr.size
    have HV4 := Lib.hid hv
    have HOK := Lib.hid hok
    have HCK := Lib.hid hcu
    have HWK := Lib.hid hwr
    have HGK := Lib.hid ((hwr.block w.heap.size (by omega) (fun h => by rcases h with h | h <;> omega)).trans HG3.out)
    have HRK := Lib.hid ((hwr.block w2.heap.size (by omega) (fun h => by rcases h with h | h <;> omega)).trans HR3.out)
    have HBK := Lib.hid (show Below w.heap.size w wr from HB3.out.trans ⟨hwr.os, hwr.tape, hwr.output, hwr.size, fun q hq => hwr.block q (by omega) (fun h => by rcases h with h | h <;> omega)⟩)
    have HOKR := Lib.hid (HO3.out.kept (hwr.kept (fun q hq h => by rcases h with h | h <;> omega)))
    clear hv hok hcu hwr
    generalize hL : l.length = Ln at hk
    have HLL := Lib.hid hL
    clear hL
    have rk0 := blk_cell (j := 0) (v := .int .i64 (DRelation.fN r)) HRK.out rfl
    have rk1 := blk_cell (j := 1) (v := .slice ra (DRelation.fRows r).length rc) HRK.out rfl
    by_cases hlt : Ln < N
    · go_wp2_with fail
      refine (draw_below _ HCK.out (DRelation.fN r + 2) (by omega)).mono ?_
      rintro e w6 ⟨x, rfl, hx0, hx1, hcu, hw⟩
      have hz7 : wr.heap.size ≤ w6.heap.size := hw.size
      have HV2 := Lib.hid (HV4.out.kept (w' := w6) ⟨hw.os, hw.tape, hw.output, hw.size, fun k hk hn => hw.block k hk (fun e => hn (congrArg some e))⟩ (Or.inr (fun e => by have := (HV4.out.lt _ e).1; omega)))
      have HC6 := Lib.hid hcu
      have HW6 := Lib.hid (HWK.out.trans (hw.toF.sub (fun q h => Or.inl h)))
      clear hcu hw rk0 rk1
      go_wp2_with (at_builtin; refine wpList_append_own _ rfl (.tmp 22) (.tmp 29) 22 rfl (w2.heap.size + 1) 3 i0 (.int .i64 0) 1 8 Try.underlying22 hi' hq0 hq1 hq2 rfl (by decide) _ _ _ rfl (HV2.out.alloc _) ⟨w6.heap.size, 0, none⟩ 1 1 [.int .i64 (x - 1)] rfl rfl cell_one_int (by intro u hu; simp at hu; subst hu; rfl) (by unfold maxLen; have := HLL.out; omega) (by have := HLL.out; omega) (by simp; omega) ?_; intro v' w7 hown' hgrow hnil)
      have hown2 : w7.ownsRow (w2.heap.size + 1) 3 1 v' (l ++ [x - 1]).length ((l ++ [x - 1]).map (Value.int .i64)) := by
        rw [List.length_append, List.map_append]
        exact hown'
      have HV7 := Lib.hid hown2
      have HC7 := Lib.hid ((HC6.out.later ((Below.refl _ w6).alloc (Nat.le_refl _) _)).keptJ (G := fun y => y ≤ C) ⟨hgrow.size, fun y hy hlt => hgrow.block y hlt (fun e => by have := (HV2.out.lt _ e.symm).1; omega)⟩ (fun y hy => hy))
      have HW7 := Lib.hid (show WritesF (fun q => q = C ∨ w2.heap.size + 1 ≤ q) w3 w7 from (HW6.out.later ((Below.refl _ w6).alloc (Nat.le_refl _) _)).trans ⟨hgrow.os, hgrow.tape, hgrow.output, hgrow.size, fun q hq hn => hgrow.block q hq (fun e => hn (Or.inr (HV2.out.lt _ e.symm).1))⟩)
      have HOK7 := Lib.hid (show ∀ z ∈ l ++ [x - 1], okI z from fun z hz => by
        rcases List.mem_append.1 hz with h | h
        · exact HOK.out z h
        · rw [List.mem_singleton.1 h]; unfold okI; omega)
      have HE7 := Lib.hid (show (l ++ [x - 1]).length = Ln + 1 by rw [List.length_append, HLL.out]; rfl)
      clear hown' hown2 hgrow hnil
      go_wp2
      go_roundw
      case rel => exact ⟨l ++ [x - 1], by rw [HE7.out]; omega, by rw [HE7.out]; go_num, HV7.out, HOK7.out, HC7.out, HW7.out⟩
      case measure => simp [RowKit.intOf]; omega
    · obtain rfl : Ln = N := by omega
      obtain ⟨la, lc, rfl, hown⟩ := own_of_row2 (F := fun q => w2.heap.size < q ∧ q < wr.heap.size) HV4.out (fun g cur h1 h2 => ⟨by omega, blk_in h2⟩)
      have HOWN := Lib.hid hown
      clear hown
      have gk0 := blk_cell (j := 0) (v := .int .i64 0) HGK.out rfl
      have gk1 := blk_cell (j := 1) (v := .slice none 0 0) HGK.out rfl
      have gf0 := blk_frozen (j := 0) HGK.out
      have gf1 := blk_frozen (j := 1) HGK.out
      go_wp2
      refine bodyPost_ret (v := .tuple #[.agg #[.int .i64 (DRelation.fN r), .slice ra (DRelation.fRows r).length rc], .slice la l.length lc]) (results_cell_tmp Try.results26 _ _ w.heap.size 27 #[.int .i64 (DRelation.fN r), .slice ra (DRelation.fRows r).length rc] (0, 0) _ rfl (blk_putJ (blk_putJ HGK.out rfl) rfl) Try.underlying27 rfl rfl) rfl ?_
      refine ⟨r, ra, rc, l, la, lc, rfl, HS.out, by rw [HLL.out]; exact hN17, ⟨by rw [HLL.out]; omega, HOK.out⟩, ?_, ?_, ?_⟩
      · exact (HOKR.out.kept (by repeat (first | (with_reducible exact Kept.refl) | (refine Kept.put ?_ (by intro h; try dsimp only at h; omega))))).sub (fun q hq => ⟨by omega, Nat.lt_of_lt_of_le (show q < wr.heap.size by omega) (by first | (simp; done) | (simp; omega) | (simp [World.setCell]; omega))⟩)
      · exact (HOWN.out.kept (by repeat (first | (with_reducible exact Kept.refl) | (refine Kept.put ?_ (by intro h; try dsimp only at h; omega))))).sub (fun q hq => ⟨by omega, Nat.lt_of_lt_of_le hq.2 (by first | (simp; done) | (simp; omega) | (simp [World.setCell]; omega))⟩)
      · repeat (first | (with_reducible exact HBK.out) | (refine Below.setCell ?_ (by simp <;> omega) _))
end Go.Proofs.Ytkfonlejblcknaa
