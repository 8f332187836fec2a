/-
  Stores in the model: l39Same, l39Find, IsValidStore.
-/
import Derived.Test.YtjlcbbaicengbaaDoorStoreT
import Derived.Test.YtjlcbbaicengbaaDoorIntsEq
import Derived.Test.YtjlcbbaicengbaaDoorFreeA
import Derived.Deep.QuietTactic
namespace Go.Proofs.YtjlcbbaicengbaaDoor
open Go.ChangeShapes Go.WideShapes Go.ChangeAt Go.RowKit Go.Deep

theorem toList_injT {x y : ByteArray} (h : x.toList = y.toList) : x = y := by
  rw [Lib.toList_data, Lib.toList_data] at h
  cases x; cases y
  simp only [ByteArray.mk.injEq]
  exact Array.toList_inj.1 h
theorem kids_len {l : List DCell} (h : lsz DCell.sz l ≤ 1048576) {k : Nat} (hk : k < l.length) : (l.getD k default).fChildren.length ≤ 1048576 := by
  have h1 := szle_at (f := DCell.sz) l k hk
  have h2 : (l.getD k default).fChildren.length ≤ DCell.sz (l.getD k default) := by
    unfold DCell.sz
    rw [lsz_zero]
    omega
  omega
theorem same_rule {x y : DCell} (h : x.fRule ≠ y.fRule) : decide (x = y) = false := decide_eq_false (fun e => h (by rw [e]))
theorem same_lit {x y : DCell} (h : x.fLiteral ≠ y.fLiteral) : decide (x = y) = false := decide_eq_false (fun e => h (by rw [e]))
theorem same_kids {x y : DCell} (h1 : x.fRule = y.fRule) (h2 : x.fLiteral = y.fLiteral) : decide (x = y) = decide (x.fChildren = y.fChildren) := by
  cases x; cases y
  dsimp only at h1 h2 ⊢
  subst h1 h2
  exact decide_eq_decide.2 ⟨fun e => by simpa using e, fun e => by rw [e]⟩

set_option maxHeartbeats 12800000 in
set_option maxRecDepth 100000 in
theorem spec_l39Same {lo hi lo2 hi2 c d : Nat} {a b : Option Addr} (x y : DCell) (hx : x.fChildren.length ≤ 1048576) (hy : y.fChildren.length ≤ 1048576) (w : World) (hhi : hi ≤ w.heap.size) (hhi2 : hi2 ≤ w.heap.size) (hs : Sl lo hi w 1 x.fChildren.length (fun k => ictI (x.fChildren.getD k default)) a) (hs2 : Sl lo2 hi2 w 1 y.fChildren.length (fun k => ictI (y.fChildren.getD k default)) b) :
    Calls Tryd.prog 23 #[.agg #[.string x.fRule, .int .i64 x.fLiteral, .slice a x.fChildren.length c], .agg #[.string y.fRule, .int .i64 y.fLiteral, .slice b y.fChildren.length d]] w fun e w' => e = .returned (.bool (decide (x = y))) ∧ Below w.heap.size w w' := by
  have HB := Lib.hid (show Below w.heap.size w ((w.alloc (.cells #[.string x.fRule, .int .i64 x.fLiteral, .slice a x.fChildren.length c] 39)).alloc (.cells #[.string y.fRule, .int .i64 y.fLiteral, .slice b y.fChildren.length d] 39)) from ((Below.refl w.heap.size w).alloc (Nat.le_refl _) (.cells #[.string x.fRule, .int .i64 x.fLiteral, .slice a x.fChildren.length c] 39)).alloc (by simp) (.cells #[.string y.fRule, .int .i64 y.fLiteral, .slice b y.fChildren.length d] 39))
  have HC := Lib.hid (fun (W : World) (hW : Below w.heap.size w W) => spec_l1Ints (cap := c) (cap2 := d) x.fChildren y.fChildren hx hy W (hs.later hW hhi) (hs2.later hW hhi2))
  clear hs hs2 hx hy
  by_cases h1 : x.fRule = y.fRule
  · by_cases h2 : x.fLiteral = y.fLiteral
    · have fin := Lib.hid (same_kids h1 h2)
      rw [h1, h2] at HB ⊢
      clear h1 h2
      go_enter Tryd.func23, Tryd.ntmps23
      go_wp2_with fail
      refine (HC.out _ HB.out).mono ?_
      rintro e w1 ⟨rfl, q, rfl⟩
      go_wp2
      go_ret
      exact ⟨ret_b (by rw [fin.out]), below_drewN HB.out q⟩
    · have fin := Lib.hid (same_lit h2)
      have e2 : (x.fLiteral == y.fLiteral) = false := beq_eq_false_iff_ne.2 h2
      rw [h1] at HB ⊢
      clear h1 h2
      go_enter Tryd.func23, Tryd.ntmps23
      go_wp2
      go_ret
      exact ⟨ret_b (by rw [fin.out]), HB.out⟩
  · have fin := Lib.hid (same_rule h1)
    have e1 : (x.fRule.toList == y.fRule.toList) = false := beq_eq_false_iff_ne.2 (fun e => h1 (toList_injT e))
    go_enter Tryd.func23, Tryd.ntmps23
    go_wp2
    go_ret
    exact ⟨ret_b (by rw [fin.out]), HB.out⟩

set_option maxHeartbeats 12800000 in
set_option maxRecDepth 100000 in
theorem spec_l39Find {lo hi c d : Nat} {a b : Option Addr} (l : List DCell) (hsz : lsz DCell.sz l ≤ 1048576) (y : DCell) (hy : y.fChildren.length ≤ 1048576) (w : World) (hhi : hi ≤ w.heap.size) (hs : Sl lo hi w 3 l.length (fun k => DCell.ct (l.getD k default)) a) (hs2 : Sl lo hi w 1 y.fChildren.length (fun k => ictI (y.fChildren.getD k default)) b) :
    Calls Tryd.prog 13 #[.agg #[.slice a l.length c], .agg #[.string y.fRule, .int .i64 y.fLiteral, .slice b y.fChildren.length d]] w fun e w' => e = .returned (.int .i64 (idxI (PCell y) l)) ∧ Below w.heap.size w w' := by
  have hn : l.length ≤ 1048576 := by unfold lsz at hsz; omega
  have HB := Lib.hid (show Below w.heap.size w ((w.alloc (.cells #[.slice a l.length c] 29)).alloc (.cells #[.string y.fRule, .int .i64 y.fLiteral, .slice b y.fChildren.length d] 39)) from ((Below.refl w.heap.size w).alloc (Nat.le_refl _) (.cells #[.slice a l.length c] 29)).alloc (by simp) (.cells #[.string y.fRule, .int .i64 y.fLiteral, .slice b y.fChildren.length d] 39))
  have HBS := Lib.hid (show ((w.alloc (.cells #[.slice a l.length c] 29)).alloc (.cells #[.string y.fRule, .int .i64 y.fLiteral, .slice b y.fChildren.length d] 39)).heap[w.heap.size]? = some (.cells #[.slice a l.length c] 29) from blk_alloc (by simp) (blk_new rfl))
  have HBY := Lib.hid (show ((w.alloc (.cells #[.slice a l.length c] 29)).alloc (.cells #[.string y.fRule, .int .i64 y.fLiteral, .slice b y.fChildren.length d] 39)).heap[w.heap.size + 1]? = some (.cells #[.string y.fRule, .int .i64 y.fLiteral, .slice b y.fChildren.length d] 39) from blk_new (by simp))
  have HZ := Lib.hid (show ((w.alloc (.cells #[.slice a l.length c] 29)).alloc (.cells #[.string y.fRule, .int .i64 y.fLiteral, .slice b y.fChildren.length d] 39)).heap.size = w.heap.size + 2 by simp)
  have HS := Lib.hid (fun (W : World) (hW : Below w.heap.size w W) => hs.later hW hhi)
  have HS2 := Lib.hid (fun (W : World) (hW : Below w.heap.size w W) => hs2.later hW hhi)
  have HHI := Lib.hid hhi
  have HLN := Lib.hid (fun k (hk : k < l.length) => kids_len hsz hk)
  have HY := Lib.hid hy
  clear hs hs2 hhi hsz hy
  go_enter Tryd.func13, Tryd.ntmps13
  go_wp2
  generalize ((w.alloc (.cells #[.slice a l.length c] 29)).alloc (.cells #[.string y.fRule, .int .i64 y.fLiteral, .slice b y.fChildren.length d] 39)) = w0 at *
  go_loopw [5] (fun i wr => ∃ k : Nat, k ≤ l.length ∧ i = .int .i64 (k : Int) ∧ noneBelow (PCell y) l k ∧ Below w0.heap.size w0 wr) (fun i _ => l.length - (intOf i).toNat)
  case atStart => exact ⟨0, Nat.zero_le _, rfl, noneBelow_zero _ _, Below.refl _ _⟩
  case round =>
    obtain ⟨k, hk, rfl, hno, hb⟩ := hrel
    have HN := Lib.hid hno
    have HBW := Lib.hid hb
    have HBT := Lib.hid (HB.out.trans (hb.mono HB.out.size))
    have hzw : w.heap.size + 2 ≤ wr.heap.size := HZ.out ▸ hb.size
    have HSW := Lib.hid ((hb.block w.heap.size (by rw [HZ.out]; omega)).trans HBS.out)
    have HYW := Lib.hid ((hb.block (w.heap.size + 1) (by rw [HZ.out]; omega)).trans HBY.out)
    have s0 : wr.cell? ⟨w.heap.size, 0, none⟩ = some (.slice a l.length c) := pblk_cell HSW.out rfl
    clear hno hb
    by_cases hlt : k < l.length
    · have hkI : (0 : Int) ≤ (k : Int) ∧ (k : Int) < (l.length : Int) := by omega
      obtain ⟨b0, off, rfl, _, hbh, hc⟩ := (HS.out wr HBT.out).at k hlt
      obtain ⟨a2, c2, hc0, hc1, hc2, hs3⟩ := DCell.open hc
      have HL3 := Lib.hid (HLN.out k hlt)
      have HYES := Lib.hid (fun (h : decide (l.getD k default = y) = true) => idxI_at (p := PCell y) hlt h HN.out)
      have HNO := Lib.hid (fun (h : decide (l.getD k default = y) = false) => noneBelow_succ (p := PCell y) HN.out h)
      have HSK := Lib.hid hs3
      have hbw : b0 < wr.heap.size := by have := HHI.out; omega
      have hbI := Lib.hid (show b0 < w.heap.size by have := HHI.out; omega)
      clear hc hs3 hbw
      generalize l.getD k default = x at *
      go_wp2_with fail
      refine wp_region_freeK [([], .none, []), ([0], .none, []), ([], .none, []), ([1, 2], .none, []), ([3], .none, []), ([], .none, []), ([4, 5], .none, [])] [0, 1, 2, 3, 4, 5, 6] [] (fun _ => False) (fun _ => True) (fun _ => 0) (fun jq9 V L H wx => match jq9 with | 0 => V 0 = .pointer (some ⟨w.heap.size, 0, none⟩) | 1 => V 1 = .slice (some ⟨b0, off, none⟩) l.length c | 2 => V 2 = .int .i64 (k : Int) | 3 => V 3 = .pointer (some ⟨b0, off + k * 3, none⟩) | 4 => V 4 = .agg #[.string x.fRule, .int .i64 x.fLiteral, .slice a2 x.fChildren.length c2] | 5 => V 5 = .agg #[.string y.fRule, .int .i64 y.fLiteral, .slice b y.fChildren.length d] | 6 => V 6 = .bool (decide (x = y)) | _ => True) (by kernel_rfl) (by kernel_rfl) ?obs (fun _ h => h.elim) trivial (fun _ _ _ _ _ => trivial) ?loc ?lasts ?walk
      case obs =>
        trivial
      case loc =>
        intro k V V' L H wx h0 h1 hG
        match k with
        | 0 =>
          try dsimp only at hG ⊢
          rw [← h0]
          exact hG
        | 1 =>
          try dsimp only at hG ⊢
          rw [← h0]
          exact hG
        | 2 =>
          try dsimp only at hG ⊢
          rw [← h0]
          exact hG
        | 3 =>
          try dsimp only at hG ⊢
          rw [← h0]
          exact hG
        | 4 =>
          try dsimp only at hG ⊢
          rw [← h0]
          exact hG
        | 5 =>
          try dsimp only at hG ⊢
          rw [← h0]
          exact hG
        | 6 =>
          try dsimp only at hG ⊢
          rw [← h0]
          exact hG
        | n + 7 => trivial
      case lasts =>
        intro i hi V L H wx wy hB hH hk
        match i, hi with
        | 0, _ => exact fun h => h
        | 1, _ => exact fun h => h
        | 2, _ => exact fun h => h
        | 3, _ => exact fun h => h
        | 4, _ => exact fun h => h
        | 5, _ => exact fun h => h
        | 6, _ => exact fun h => h
        | n + 7, hn => exact absurd hn (by simp)
      case walk =>
        simp (maxSteps := 4000000) only [freeK, Nat.reduceAdd, Act.put, List.setIfInBounds_toArray, List.set_cons_succ, List.set_cons_zero]
        refine ⟨?_, ?_, ?_, ?_, ?_, ?_, ?_, ?_⟩
        · intro V L H w1 hw hk hj hd
          clear hd
          go_wp2_with fail
          exact freePost _ rfl ⟨⟨WritesF.refl _ _, hj⟩, upd_self⟩
        · intro V L H w1 hw hk hj hd
          obtain ⟨⟨hL0, hM0, hH0, hv0⟩, -⟩ := hd
          rw [hv0]
          have HV0 := Lib.hid hv0
          clear hv0
          have s0 : w1.cell? ⟨w.heap.size, 0, none⟩ = some (.slice (some ⟨b0, off, none⟩) l.length c) := (hk.cell (p := ⟨w.heap.size, 0, none⟩) ⟨(show w.heap.size < wr.heap.size by omega), fun h => h, trivial⟩ (show w.heap.size < wr.heap.size by omega)).trans (pblk_cell HSW.out rfl)
          go_wp2_with fail
          exact freePost _ rfl ⟨⟨WritesF.refl _ _, hj⟩, upd_self⟩
        · intro V L H w1 hw hk hj hd
          clear hd
          go_wp2_with fail
          exact freePost _ rfl ⟨⟨WritesF.refl _ _, hj⟩, upd_self⟩
        · intro V L H w1 hw hk hj hd
          obtain ⟨⟨hL1, hM1, hH1, hv1⟩, ⟨hL2, hM2, hH2, hv2⟩, -⟩ := hd
          rw [hv1, hv2]
          have HV1 := Lib.hid hv1
          have HV2 := Lib.hid hv2
          clear hv1 hv2
          go_wp2_with fail
          exact freePost _ rfl ⟨⟨WritesF.refl _ _, hj⟩, upd_self⟩
        · intro V L H w1 hw hk hj hd
          obtain ⟨⟨hL3, hM3, hH3, hv3⟩, -⟩ := hd
          rw [hv3]
          have HV3 := Lib.hid hv3
          clear hv3
          have e0 : w1.cell? ⟨b0, off + k * 3, none⟩ = some (.string x.fRule) := (hk.cell (p := ⟨b0, off + k * 3, none⟩) ⟨(show b0 < wr.heap.size by have := hbI.out; omega), fun h => h, trivial⟩ (show b0 < wr.heap.size by have := hbI.out; omega)).trans hc0
          have e1 : w1.cell? ⟨b0, off + k * 3 + 1, none⟩ = some (.int .i64 x.fLiteral) := (hk.cell (p := ⟨b0, off + k * 3 + 1, none⟩) ⟨(show b0 < wr.heap.size by have := hbI.out; omega), fun h => h, trivial⟩ (show b0 < wr.heap.size by have := hbI.out; omega)).trans hc1
          have e2 : w1.cell? ⟨b0, off + k * 3 + 2, none⟩ = some (.slice a2 x.fChildren.length c2) := (hk.cell (p := ⟨b0, off + k * 3 + 2, none⟩) ⟨(show b0 < wr.heap.size by have := hbI.out; omega), fun h => h, trivial⟩ (show b0 < wr.heap.size by have := hbI.out; omega)).trans hc2
          go_wp2_with fail
          exact freePost _ rfl ⟨⟨WritesF.refl _ _, hj⟩, upd_self⟩
        · intro V L H w1 hw hk hj hd
          clear hd
          have y0 : w1.cell? ⟨(w.heap.size + 1), 0, none⟩ = some (.string y.fRule) := (hk.cell (p := ⟨(w.heap.size + 1), 0, none⟩) ⟨(show w.heap.size + 1 < wr.heap.size by omega), fun h => h, trivial⟩ (show w.heap.size + 1 < wr.heap.size by omega)).trans (pblk_cell HYW.out rfl)
          have y1 : w1.cell? ⟨(w.heap.size + 1), 1, none⟩ = some (.int .i64 y.fLiteral) := (hk.cell (p := ⟨(w.heap.size + 1), 1, none⟩) ⟨(show w.heap.size + 1 < wr.heap.size by omega), fun h => h, trivial⟩ (show w.heap.size + 1 < wr.heap.size by omega)).trans (pblk_cell HYW.out rfl)
          have y2 : w1.cell? ⟨(w.heap.size + 1), 2, none⟩ = some (.slice b y.fChildren.length d) := (hk.cell (p := ⟨(w.heap.size + 1), 2, none⟩) ⟨(show w.heap.size + 1 < wr.heap.size by omega), fun h => h, trivial⟩ (show w.heap.size + 1 < wr.heap.size by omega)).trans (pblk_cell HYW.out rfl)
          go_wp2_with fail
          exact freePost _ rfl ⟨⟨WritesF.refl _ _, hj⟩, upd_self⟩
        · intro V L H w1 hw hk hj hd
          obtain ⟨⟨hL4, hM4, hH4, hv4⟩, ⟨hL5, hM5, hH5, hv5⟩, -⟩ := hd
          rw [hv4, hv5]
          have HV4 := Lib.hid hv4
          have HV5 := Lib.hid hv5
          clear hv4 hv5
          have HX1 := Lib.hid (HSK.out.later (fa_noneK hw) (by have := HHI.out; omega))
          have HX2 := Lib.hid (HS2.out w1 (HBT.out.trans ((fa_noneK hw).mono HBT.out.size)))
          go_wp2_with fail
          refine (spec_l39Same (c := c2) (d := d) x y HL3.out HY.out w1 (Nat.le_trans (by have := HHI.out; omega) hk.1) (Nat.le_trans (by have := HHI.out; omega) hk.1) HX1.out HX2.out).mono ?_
          rintro e w2 ⟨rfl, hb2⟩
          go_wp2_with fail
          exact freePost _ rfl ⟨⟨(WritesF.refl _ _).later hb2, trivial⟩, upd_self⟩
        · intro V L H w1 hw hj hd hap hdead
          obtain ⟨⟨hL0, hM0, hH0, hv0⟩, ⟨hL1, hM1, hH1, hv1⟩, ⟨hL2, hM2, hH2, hv2⟩, ⟨hL3, hM3, hH3, hv3⟩, ⟨hL4, hM4, hH4, hv4⟩, ⟨hL5, hM5, hH5, hv5⟩, ⟨hL6, hM6, hH6, hv6⟩, -⟩ := hd
          rw [hv0, hv1, hv2, hv3, hv4, hv5, hv6]
          clear hv0 hv1 hv2 hv3 hv4 hv5 hv6
          have HBN := Lib.hid (HBW.out.trans ((fa_noneK hw).mono HBW.out.size))
          clear hw hj hap hdead hc0 hc1 hc2 HSK
          cases hd : decide (x = y)
          · have HN2 := Lib.hid (HNO.out hd)
            clear HNO HYES hd
            go_wp2
            go_roundw
            case rel => exact ⟨k + 1, by omega, by go_num, HN2.out, HBN.out⟩
            case measure => simp [intOf]; omega
          · have FIN := Lib.hid (HYES.out hd)
            clear HNO HYES hd
            go_wp2
            go_ret
            exact ⟨ret_i FIN.out.symm, HB.out.trans (HBN.out.mono HB.out.size)⟩
    · obtain rfl : k = l.length := by omega
      have FIN := Lib.hid (idxI_none (p := PCell y) HN.out)
      go_wp2
      go_ret
      exact ⟨ret_i FIN.out.symm, HBT.out⟩

set_option maxHeartbeats 12800000 in
set_option maxRecDepth 100000 in
theorem spec_IsValidStoreL {lo hi c : Nat} {a : Option Addr} (l : List DCell) (hsz : lsz DCell.sz l ≤ 1048576) (w : World) (hhi : hi ≤ w.heap.size) (hs : Sl lo hi w 3 l.length (fun k => DCell.ct (l.getD k default)) a) :
    Calls Tryd.prog 6 #[.agg #[.slice a l.length c]] w fun e w' => e = .returned (.bool (storeOk l)) ∧ Below w.heap.size w w' := by
  have hn : l.length ≤ 1048576 := by unfold lsz at hsz; omega
  have HB := Lib.hid (show Below w.heap.size w (w.alloc (.cells #[.slice a l.length c] 29)) from (Below.refl w.heap.size w).alloc (Nat.le_refl _) (.cells #[.slice a l.length c] 29))
  have HBS := Lib.hid (show (w.alloc (.cells #[.slice a l.length c] 29)).heap[w.heap.size]? = some (.cells #[.slice a l.length c] 29) from blk_new rfl)
  have HZ := Lib.hid (show (w.alloc (.cells #[.slice a l.length c] 29)).heap.size = w.heap.size + 1 by simp)
  have HS := Lib.hid (fun (W : World) (hW : Below w.heap.size w W) => hs.later hW hhi)
  have HHI := Lib.hid hhi
  have HLN := Lib.hid (fun k (hk : k < l.length) => kids_len hsz hk)
  have HSZ := Lib.hid hsz
  clear hs hhi hsz
  go_enter Tryd.func6, Tryd.ntmps6
  go_wp2
  generalize (w.alloc (.cells #[.slice a l.length c] 29)) = w0 at *
  go_loopw [3] (fun i wr => ∃ k : Nat, k ≤ l.length ∧ i = .int .i64 (k : Int) ∧ (∀ j, j < k → cellOk l j = true) ∧ Below w0.heap.size w0 wr) (fun i _ => l.length - (intOf i).toNat)
  case atStart => exact ⟨0, Nat.zero_le _, rfl, fun _ h => absurd h (Nat.not_lt_zero _), Below.refl _ _⟩
  case round =>
    obtain ⟨k, hk, rfl, hno, hb⟩ := hrel
    have HN := Lib.hid hno
    have HBW := Lib.hid hb
    have HBT := Lib.hid (HB.out.trans (hb.mono HB.out.size))
    have hzw : w.heap.size + 1 ≤ wr.heap.size := HZ.out ▸ hb.size
    have HSW := Lib.hid ((hb.block w.heap.size (by rw [HZ.out]; omega)).trans HBS.out)
    have s0 : wr.cell? ⟨w.heap.size, 0, none⟩ = some (.slice a l.length c) := pblk_cell HSW.out rfl
    clear hno hb
    by_cases hlt : k < l.length
    · have hkI : (0 : Int) ≤ (k : Int) ∧ (k : Int) < (l.length : Int) := by omega
      obtain ⟨b0, off, rfl, _, hbh, hc⟩ := (HS.out wr HBT.out).at k hlt
      obtain ⟨a2, c2, hc0, hc1, hc2, hs3⟩ := DCell.open hc
      have HL3 := Lib.hid (HLN.out k hlt)
      have HDUP := Lib.hid (@cellOk_dup l k)
      have HKID := Lib.hid (@cellOk_kids l k)
      have HNO := Lib.hid (fun (h : cellOk l k = false) => storeOk_no hlt h)
      have HSK := Lib.hid hs3
      have hbI := Lib.hid (show b0 < w.heap.size by have := HHI.out; omega)
      have HFD := Lib.hid (fun (W : World) (h1 : hi ≤ W.heap.size) s1 s2 => spec_l39Find (lo := lo) (hi := hi) (c := c) (d := c2) (a := some ⟨b0, off, none⟩) (b := a2) l HSZ.out (l.getD k default) HL3.out W h1 s1 s2)
      clear hc hs3
      generalize l.getD k default = x at *
      go_wp2_with fail
      refine wp_region_freeK [([], .none, []), ([], .none, []), ([1], .none, []), ([], .none, []), ([2, 3], .none, []), ([4], .none, []), ([0, 5], .none, []), ([], .none, []), ([6, 7], .none, [])] [0, 1, 2, 3, 4, 5, 6, 7, 8] [] (fun _ => False) (fun _ => True) (fun _ => 0) (fun jq9 V L H wx => match jq9 with | 0 => V 0 = .agg #[.slice (some ⟨b0, off, none⟩) l.length c] | 1 => V 1 = .pointer (some ⟨w.heap.size, 0, none⟩) | 2 => V 2 = .slice (some ⟨b0, off, none⟩) l.length c | 3 => V 3 = .int .i64 (k : Int) | 4 => V 4 = .pointer (some ⟨b0, off + k * 3, none⟩) | 5 => V 5 = .agg #[.string x.fRule, .int .i64 x.fLiteral, .slice a2 x.fChildren.length c2] | 6 => V 6 = .int .i64 (idxI (PCell x) l) | 7 => V 7 = .int .i64 (k : Int) | 8 => V 8 = .bool (idxI (PCell x) l != (k : Int)) | _ => True) (by kernel_rfl) (by kernel_rfl) ?obs (fun _ h => h.elim) trivial (fun _ _ _ _ _ => trivial) ?loc ?lasts ?walk
      case obs =>
        trivial
      case loc =>
        intro k V V' L H wx h0 h1 hG
        match k with
        | 0 =>
          try dsimp only at hG ⊢
          rw [← h0]
          exact hG
        | 1 =>
          try dsimp only at hG ⊢
          rw [← h0]
          exact hG
        | 2 =>
          try dsimp only at hG ⊢
          rw [← h0]
          exact hG
        | 3 =>
          try dsimp only at hG ⊢
          rw [← h0]
          exact hG
        | 4 =>
          try dsimp only at hG ⊢
          rw [← h0]
          exact hG
        | 5 =>
          try dsimp only at hG ⊢
          rw [← h0]
          exact hG
        | 6 =>
          try dsimp only at hG ⊢
          rw [← h0]
          exact hG
        | 7 =>
          try dsimp only at hG ⊢
          rw [← h0]
          exact hG
        | 8 =>
          try dsimp only at hG ⊢
          rw [← h0]
          exact hG
        | n + 9 => trivial
      case lasts =>
        intro i hi V L H wx wy hB hH hk
        match i, hi with
        | 0, _ => exact fun h => h
        | 1, _ => exact fun h => h
        | 2, _ => exact fun h => h
        | 3, _ => exact fun h => h
        | 4, _ => exact fun h => h
        | 5, _ => exact fun h => h
        | 6, _ => exact fun h => h
        | 7, _ => exact fun h => h
        | 8, _ => exact fun h => h
        | n + 9, hn => exact absurd hn (by simp)
      case walk =>
        simp (maxSteps := 4000000) only [freeK, Nat.reduceAdd, Act.put, List.setIfInBounds_toArray, List.set_cons_succ, List.set_cons_zero]
        refine ⟨?_, ?_, ?_, ?_, ?_, ?_, ?_, ?_, ?_, ?_⟩
        · intro V L H w1 hw hk hj hd
          clear hd
          have s0 : w1.cell? ⟨w.heap.size, 0, none⟩ = some (.slice (some ⟨b0, off, none⟩) l.length c) := (hk.cell (p := ⟨w.heap.size, 0, none⟩) ⟨(show w.heap.size < wr.heap.size by omega), fun h => h, trivial⟩ (show w.heap.size < wr.heap.size by omega)).trans (pblk_cell HSW.out rfl)
          go_wp2_with fail
          exact freePost _ rfl ⟨⟨WritesF.refl _ _, hj⟩, upd_self⟩
        · intro V L H w1 hw hk hj hd
          clear hd
          go_wp2_with fail
          exact freePost _ rfl ⟨⟨WritesF.refl _ _, hj⟩, upd_self⟩
        · intro V L H w1 hw hk hj hd
          obtain ⟨⟨hL1, hM1, hH1, hv1⟩, -⟩ := hd
          rw [hv1]
          have HV1 := Lib.hid hv1
          clear hv1
          have s0 : w1.cell? ⟨w.heap.size, 0, none⟩ = some (.slice (some ⟨b0, off, none⟩) l.length c) := (hk.cell (p := ⟨w.heap.size, 0, none⟩) ⟨(show w.heap.size < wr.heap.size by omega), fun h => h, trivial⟩ (show w.heap.size < wr.heap.size by omega)).trans (pblk_cell HSW.out rfl)
          go_wp2_with fail
          exact freePost _ rfl ⟨⟨WritesF.refl _ _, hj⟩, upd_self⟩
        · intro V L H w1 hw hk hj hd
          clear hd
          go_wp2_with fail
          exact freePost _ rfl ⟨⟨WritesF.refl _ _, hj⟩, upd_self⟩
        · intro V L H w1 hw hk hj hd
          obtain ⟨⟨hL2, hM2, hH2, hv2⟩, ⟨hL3, hM3, hH3, hv3⟩, -⟩ := hd
          rw [hv2, hv3]
          have HV2 := Lib.hid hv2
          have HV3 := Lib.hid hv3
          clear hv2 hv3
          go_wp2_with fail
          exact freePost _ rfl ⟨⟨WritesF.refl _ _, hj⟩, upd_self⟩
        · intro V L H w1 hw hk hj hd
          obtain ⟨⟨hL4, hM4, hH4, hv4⟩, -⟩ := hd
          rw [hv4]
          have HV4 := Lib.hid hv4
          clear hv4
          have e0 : w1.cell? ⟨b0, off + k * 3, none⟩ = some (.string x.fRule) := (hk.cell (p := ⟨b0, off + k * 3, none⟩) ⟨(show b0 < wr.heap.size by have := hbI.out; omega), fun h => h, trivial⟩ (show b0 < wr.heap.size by have := hbI.out; omega)).trans hc0
          have e1 : w1.cell? ⟨b0, off + k * 3 + 1, none⟩ = some (.int .i64 x.fLiteral) := (hk.cell (p := ⟨b0, off + k * 3 + 1, none⟩) ⟨(show b0 < wr.heap.size by have := hbI.out; omega), fun h => h, trivial⟩ (show b0 < wr.heap.size by have := hbI.out; omega)).trans hc1
          have e2 : w1.cell? ⟨b0, off + k * 3 + 2, none⟩ = some (.slice a2 x.fChildren.length c2) := (hk.cell (p := ⟨b0, off + k * 3 + 2, none⟩) ⟨(show b0 < wr.heap.size by have := hbI.out; omega), fun h => h, trivial⟩ (show b0 < wr.heap.size by have := hbI.out; omega)).trans hc2
          go_wp2_with fail
          exact freePost _ rfl ⟨⟨WritesF.refl _ _, hj⟩, upd_self⟩
        · intro V L H w1 hw hk hj hd
          obtain ⟨⟨hL0, hM0, hH0, hv0⟩, ⟨hL5, hM5, hH5, hv5⟩, -⟩ := hd
          rw [hv0, hv5]
          have HV0 := Lib.hid hv0
          have HV5 := Lib.hid hv5
          clear hv0 hv5
          have HX1 := Lib.hid (HSK.out.later (fa_noneK hw) (by have := HHI.out; omega))
          have HX2 := Lib.hid (HS.out w1 (HBT.out.trans ((fa_noneK hw).mono HBT.out.size)))
          go_wp2_with fail
          refine (HFD.out w1 (Nat.le_trans (by have := HHI.out; omega) hk.1) HX2.out HX1.out).mono ?_
          rintro e w2 ⟨rfl, hb2⟩
          go_wp2_with fail
          exact freePost _ rfl ⟨⟨(WritesF.refl _ _).later hb2, trivial⟩, upd_self⟩
        · intro V L H w1 hw hk hj hd
          clear hd
          go_wp2_with fail
          exact freePost _ rfl ⟨⟨WritesF.refl _ _, hj⟩, upd_self⟩
        · intro V L H w1 hw hk hj hd
          obtain ⟨⟨hL6, hM6, hH6, hv6⟩, ⟨hL7, hM7, hH7, hv7⟩, -⟩ := hd
          rw [hv6, hv7]
          have HV6 := Lib.hid hv6
          have HV7 := Lib.hid hv7
          clear hv6 hv7
          go_wp2_with fail
          exact freePost _ rfl ⟨⟨WritesF.refl _ _, hj⟩, upd_self⟩
        · intro V L H w1 hw hj hd hap hdead
          obtain ⟨⟨hL0, hM0, hH0, hv0⟩, ⟨hL1, hM1, hH1, hv1⟩, ⟨hL2, hM2, hH2, hv2⟩, ⟨hL3, hM3, hH3, hv3⟩, ⟨hL4, hM4, hH4, hv4⟩, ⟨hL5, hM5, hH5, hv5⟩, ⟨hL6, hM6, hH6, hv6⟩, ⟨hL7, hM7, hH7, hv7⟩, ⟨hL8, hM8, hH8, hv8⟩, -⟩ := hd
          rw [hv0, hv1, hv2, hv3, hv4, hv5, hv6, hv7, hv8]
          clear hv0 hv1 hv2 hv3 hv4 hv5 hv6 hv7 hv8
          have HBN := Lib.hid (HBW.out.trans ((fa_noneK hw).mono HBW.out.size))
          have HBX := Lib.hid (fa_noneK hw)
          clear hw hj hap hdead
          by_cases hd : idxI (PCell x) l = (k : Int)
          · have HK2 := Lib.hid (HKID.out hd)
            have e0 : (idxI (PCell x) l != (k : Int)) = false := by rw [hd]; simp
            rw [e0]
            clear e0 hd HKID HDUP HFD
            have hc0' : w1.cell? ⟨b0, off + k * 3, none⟩ = some (.string x.fRule) := (HBX.out.cell (p := ⟨b0, off + k * 3, none⟩) (show b0 < _ by have := hbI.out; omega)).trans hc0
            have hc2' : w1.cell? ⟨b0, off + k * 3 + 2, none⟩ = some (.slice a2 x.fChildren.length c2) := (HBX.out.cell (p := ⟨b0, off + k * 3 + 2, none⟩) (show b0 < _ by have := hbI.out; omega)).trans hc2
            have s1 : w1.cell? ⟨w.heap.size, 0, none⟩ = some (.slice (some ⟨b0, off, none⟩) l.length c) := (HBX.out.cell (p := ⟨w.heap.size, 0, none⟩) (show w.heap.size < _ by omega)).trans s0
            have HSK1 := Lib.hid (HSK.out.later HBX.out (by have := HHI.out; omega))
            clear hc0 hc1 hc2 s0 HSK
            generalize hch : x.fChildren = ch at *
            clear hch
            go_wp2
            go_loopw [4] (fun i wq => ∃ j : Nat, j ≤ ch.length ∧ i = .int .i64 (j : Int) ∧ (∀ t, t < j → inR (ch.getD t default) 0 ((k : Int) - 1) = true) ∧ Below w1.heap.size w1 wq) (fun i _ => ch.length - (intOf i).toNat)
            case atStart => exact ⟨0, Nat.zero_le _, rfl, fun _ h => absurd h (Nat.not_lt_zero _), Below.refl _ _⟩
            case round =>
              obtain ⟨j, hj, rfl, hkn, hbq⟩ := hrel
              have HKN := Lib.hid hkn
              have HBQ := Lib.hid hbq
              have hc2q : wr.cell? ⟨b0, off + k * 3 + 2, none⟩ = some (.slice a2 ch.length c2) := (hbq.cell (p := ⟨b0, off + k * 3 + 2, none⟩) (show b0 < _ by have := hbI.out; have := HBX.out.size; omega)).trans hc2'
              have s1q : wr.cell? ⟨w.heap.size, 0, none⟩ = some (.slice (some ⟨b0, off, none⟩) l.length c) := (hbq.cell (p := ⟨w.heap.size, 0, none⟩) (show w.heap.size < _ by have := HBX.out.size; omega)).trans s1
              have HSQ := Lib.hid (HSK1.out.later hbq (by have := HHI.out; have := HBX.out.size; omega))
              have HBNQ := Lib.hid (HBN.out.trans (hbq.mono HBN.out.size))
              clear hkn hbq
              by_cases hjl : j < ch.length
              · have hn3 : ch.length ≤ 1048576 := HL3.out
                have hjI : (0 : Int) ≤ (j : Int) ∧ (j : Int) < (ch.length : Int) := by omega
                obtain ⟨b3, off3, rfl, _, _, hcc⟩ := HSQ.out.at j hjl
                rw [Nat.mul_one] at hcc
                have hcc0 := open_Int hcc
                have HIN := Lib.hid (fun W : World => spec_l1In (ch.getD j default) 0 ((k : Int) - 1) W)
                clear hcc
                cases hr : inR (ch.getD j default) 0 ((k : Int) - 1)
                · have FIN := Lib.hid (HNO.out (HK2.out.trans (kidsB_no hjl hr)))
                  rw [hr] at HIN
                  clear hr
                  generalize ch.getD j default = z at *
                  go_wp2_with fail
                  refine (HIN.out _).mono ?_
                  rintro e w5 ⟨rfl, rfl⟩
                  go_wp2
                  go_ret
                  exact ⟨ret_b FIN.out.symm, HB.out.trans (HBNQ.out.mono HB.out.size)⟩
                · have HKN2 := Lib.hid (show ∀ t, t < j + 1 → inR (ch.getD t default) 0 ((k : Int) - 1) = true from fun t ht => by
                    by_cases htj : t = j
                    · subst htj; exact hr
                    · exact HKN.out t (by omega))
                  rw [hr] at HIN
                  clear hr
                  generalize ch.getD j default = z at *
                  go_wp2_with fail
                  refine (HIN.out _).mono ?_
                  rintro e w5 ⟨rfl, rfl⟩
                  go_wp2
                  go_roundw
                  case rel => exact ⟨j + 1, by omega, by go_num, HKN2.out, HBQ.out⟩
                  case measure => simp [intOf]; omega
              · obtain rfl : j = ch.length := by omega
                have HN2 := Lib.hid (show ∀ t, t < k + 1 → cellOk l t = true from fun t ht => by
                  by_cases htj : t = k
                  · subst htj; exact HK2.out.trans (kidsB_yes HKN.out)
                  · exact HN.out t (by omega))
                go_wp2
                go_roundw
                case rel => exact ⟨k + 1, by omega, by go_num, HN2.out, HBNQ.out⟩
                case measure => simp [intOf]; omega
          · have FIN := Lib.hid (HNO.out (HDUP.out hd))
            have e0 : (idxI (PCell x) l != (k : Int)) = true := bne_iff_ne.2 hd
            rw [e0]
            clear e0 hd HKID HDUP HFD HSK hc0 hc1 hc2 s0
            go_wp2
            go_ret
            exact ⟨ret_b FIN.out.symm, HB.out.trans (HBN.out.mono HB.out.size)⟩
    · obtain rfl : k = l.length := by omega
      have FIN := Lib.hid (storeOk_yes HN.out)
      go_wp2
      go_ret
      exact ⟨ret_b FIN.out.symm, HBT.out⟩
end Go.Proofs.YtjlcbbaicengbaaDoor
