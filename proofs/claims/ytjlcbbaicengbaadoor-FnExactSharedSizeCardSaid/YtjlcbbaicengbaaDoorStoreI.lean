/-
  Stores in the program: the key of a cell; IsValidStore.
-/
import Derived.Test.YtjlcbbaicengbaaDoorStoreS
import Derived.Test.YtjlcbbaicengbaaDoorJoinW
import Derived.Test.YtjlcbbaicengbaaDoorItoa
import Derived.Test.YtjlcbbaicengbaaDoorNumF
import Derived.Lib.ItoaLen
namespace Go.Proofs.YtjlcbbaicengbaaDoor
open Go.ChangeShapes Go.WideShapes Go.ChangeAt Go.RowKit Go.Deep
open Go.Lib hiding intOf

theorem num_step {l : List Int} {j : Nat} (hj : j < l.length) : numT (l.take (j + 1)) = numT (l.take j) ++ [⟨(itoa (l.getD j default)).toArray⟩] := by
  rw [take_snoc hj]
  unfold numT
  rw [List.map_append]
  rfl
theorem num_len {l : List Int} {j : Nat} (hj : j ≤ l.length) : (numT (l.take j)).length = j := by unfold numT; rw [List.length_map, List.length_take]; omega
theorem num_size (n : Int) (h : okI n) : (⟨(itoa n).toArray⟩ : ByteArray).size ≤ 32 := by
  have h1 := itoa_length_le n h.1 h.2
  have e : (⟨(itoa n).toArray⟩ : ByteArray).size = (itoa n).length := by show (itoa n).toArray.size = _; rw [List.size_toArray]
  omega
theorem num_sum : ∀ {l : List Int}, (∀ x ∈ l, okI x) → sumSize (numT l) ≤ 32 * l.length
  | [], _ => Nat.zero_le _
  | x :: l, h => by
    have hx := num_size x (h x (List.mem_cons_self ..))
    have ih := num_sum (l := l) (fun y hy => h y (List.mem_cons_of_mem _ hy))
    unfold numT sumSize at *
    simp only [List.map_cons, List.sum_cons, List.length_cons]
    omega
theorem size_sumT : ∀ (L : List ByteArray) (k : Nat), (L.getD k ByteArray.empty).size ≤ sumSize L
  | [], _ => by rw [List.getD_nil]; exact Nat.zero_le _
  | x :: L, 0 => by unfold sumSize; rw [List.getD_cons_zero, List.map_cons, List.sum_cons]; omega
  | x :: L, k + 1 => by
    have ih := size_sumT L k
    unfold sumSize at *
    rw [List.getD_cons_succ, List.map_cons, List.sum_cons]
    omega
theorem own_belowT {w w' : World} {base : Nat} {e : TypeId} {size : Nat} {v : Value} {n : Nat} {xs : List Value} (h : w.ownsRow base e size v n xs) (hb : Below w.heap.size w w') : w'.ownsRow base e size v n xs :=
  h.kept (row := none) ⟨hb.os, hb.tape, hb.output, hb.size, fun k hk _ => hb.block k hk⟩ (Classical.byCases Or.inl fun hn => Or.inr hn)
theorem join_sizeT (L : List ByteArray) : (⟨(join (L.map (·.data.toList)) [32]).toArray⟩ : ByteArray).size ≤ sumSize L + L.length * 1048576 := by
  have h1 := jo_length L ⟨#[32]⟩ (by decide) L.length (Nat.le_refl _)
  rw [jo_all, List.take_length] at h1
  show (join (L.map (·.data.toList)) [32]).toArray.size ≤ _
  rw [List.size_toArray]
  exact h1
theorem key_ok {x : DCell} (hx : x.ok) (hn : x.fChildren.length ≤ 1048576) : okMK (keyC x) := by
  refine ⟨hx.1, hx.2.1, ?_⟩
  show (kidsT x.fChildren).size ≤ maxLen
  have h1 := join_sizeT (numT x.fChildren)
  have h2 := num_sum hx.2.2.2
  have h3 : (numT x.fChildren).length = x.fChildren.length := by unfold numT; rw [List.length_map]
  have h4 : (numT x.fChildren).length * 1048576 ≤ 1048576 * 1048576 := Nat.mul_le_mul_right _ (by omega)
  unfold maxLen
  unfold kidsT
  omega

set_option maxHeartbeats 12800000 in
set_option maxRecDepth 100000 in
theorem impl_key {lo hi c : Nat} {a : Option Addr} (x : DCell) (hok : okL okI x.fChildren) (hx : x.fChildren.length ≤ 1048576) (w : World) (hhi : hi ≤ w.heap.size) (hs : Sl lo hi w 1 x.fChildren.length (fun k => ictI (x.fChildren.getD k default)) a) (hp : Pow w) :
    Calls Tryd.prog 16 #[.agg #[.string x.fRule, .int .i64 x.fLiteral, .slice a x.fChildren.length c]] w fun e w' => e = .returned (embK (keyC x)) ∧ Below w.heap.size w w' := by
  have HB := Lib.hid (show Below w.heap.size w ((w.alloc (.cells #[.string x.fRule, .int .i64 x.fLiteral, .slice a x.fChildren.length c] 39)).alloc (.cells #[.string ⟨#[]⟩, .int .i64 0, .string ⟨#[]⟩] 44)) from ((Below.refl w.heap.size w).alloc (Nat.le_refl _) (.cells #[.string x.fRule, .int .i64 x.fLiteral, .slice a x.fChildren.length c] 39)).alloc (by simp) (.cells #[.string ⟨#[]⟩, .int .i64 0, .string ⟨#[]⟩] 44))
  have HBC := Lib.hid (show ((w.alloc (.cells #[.string x.fRule, .int .i64 x.fLiteral, .slice a x.fChildren.length c] 39)).alloc (.cells #[.string ⟨#[]⟩, .int .i64 0, .string ⟨#[]⟩] 44)).heap[w.heap.size]? = some (.cells #[.string x.fRule, .int .i64 x.fLiteral, .slice a x.fChildren.length c] 39) from blk_alloc (by simp) (blk_new rfl))
  have HBZ := Lib.hid (show ((w.alloc (.cells #[.string x.fRule, .int .i64 x.fLiteral, .slice a x.fChildren.length c] 39)).alloc (.cells #[.string ⟨#[]⟩, .int .i64 0, .string ⟨#[]⟩] 44)).heap[w.heap.size + 1]? = some (.cells #[.string ⟨#[]⟩, .int .i64 0, .string ⟨#[]⟩] 44) from blk_new (by simp))
  have HZ := Lib.hid (show ((w.alloc (.cells #[.string x.fRule, .int .i64 x.fLiteral, .slice a x.fChildren.length c] 39)).alloc (.cells #[.string ⟨#[]⟩, .int .i64 0, .string ⟨#[]⟩] 44)).heap.size = w.heap.size + 2 by simp)
  have HS := Lib.hid (fun (W : World) (hW : Below w.heap.size w W) => hs.later hW hhi)
  have HP := Lib.hid hp
  have HOK := Lib.hid hok
  have HSM := Lib.hid (Nat.le_trans (num_sum hok.2) (show 32 * x.fChildren.length ≤ 67108864 by omega))
  have HKT := Lib.hid (show kidsT x.fChildren = ⟨(join ((numT x.fChildren).map (·.data.toList)) [32]).toArray⟩ from rfl)
  obtain ⟨i0, hi', hz0, hz1, hz2⟩ := info_parts info_string
  clear hs hhi hp hok
  have hem : embK (keyC x) = .agg #[.string x.fRule, .int .i64 x.fLiteral, .string (kidsT x.fChildren)] := rfl
  rw [hem]
  clear hem
  generalize hch : x.fChildren = ch at *
  clear hch
  generalize x.fRule = ru at *
  generalize x.fLiteral = li at *
  go_enter Tryd.func16, Tryd.ntmps16
  go_wp2
  generalize ((w.alloc (.cells #[.string ru, .int .i64 li, .slice a ch.length c] 39)).alloc (.cells #[.string ⟨#[]⟩, .int .i64 0, .string ⟨#[]⟩] 44)) = w0 at *
  go_loopw [3, 9] (fun s i wr => ∃ (j : Nat) (v : Value), j ≤ ch.length ∧ i = .int .i64 (j : Int) ∧ s = v ∧ wr.ownsRow w0.heap.size 9 1 v (numT (ch.take j)).length ((numT (ch.take j)).flatMap vS) ∧ Below w0.heap.size w0 wr) (fun _ i _ => ch.length - (intOf i).toNat)
  case atStart => exact ⟨0, _, Nat.zero_le _, rfl, rfl, grown_nil, Below.refl _ _⟩
  case round =>
    obtain ⟨j, v, hj, rfl, rfl, hown, hbl⟩ := hrel
    have HO := Lib.hid hown
    have HBL := Lib.hid hbl
    have HBT := Lib.hid (HB.out.trans (hbl.mono HB.out.size))
    have hsz1 : w0.heap.size ≤ wr.heap.size := hbl.size
    have HCW := Lib.hid ((hbl.block w.heap.size (by rw [HZ.out]; omega)).trans HBC.out)
    have HZW := Lib.hid ((hbl.block (w.heap.size + 1) (by rw [HZ.out]; omega)).trans HBZ.out)
    clear hown hbl
    by_cases hlt : j < ch.length
    · have hjI : (0 : Int) ≤ (j : Int) ∧ (j : Int) < (ch.length : Int) := by omega
      have HST := Lib.hid (num_step hlt)
      have hln : (numT (ch.take j)).length ≤ 1048576 := by rw [num_len hj]; omega
      obtain ⟨hx0, hx1⟩ := HOK.out.at hlt
      obtain ⟨b3, off3, rfl, _, _, hcc⟩ := (HS.out wr HBT.out).at j hlt
      rw [Nat.mul_one] at hcc
      have hcc0 := open_Int hcc
      have HF := Lib.hid (fun (W : World) (h : Pow W) => impl_FormatInt (ch.getD j default) hx0 hx1 W h)
      clear hcc
      generalize (⟨(itoa (ch.getD j default)).toArray⟩ : ByteArray) = u at *
      generalize ch.getD j default = n at *
      generalize numT (ch.take j) = L at *
      go_wp2_with fail
      refine (HF.out _ (HP.out.below HBT.out)).mono ?_
      rintro e w1 ⟨rfl, hb⟩
      have HB1 := Lib.hid (show Below w0.heap.size w0 w1 from HBL.out.trans (hb.mono hsz1))
      have HO1 := Lib.hid (own_belowT HO.out hb)
      have hsz2 : w0.heap.size ≤ w1.heap.size := HB1.out.size
      clear hb
      go_wp2_with (at_builtin; refine wpList_append_own _ rfl (.tmp 13) (.tmp 16) 55 rfl (w0.heap.size) 9 i0 (.string ⟨#[]⟩) 1 16 Tryd.underlying55 hi' hz0 hz1 hz2 rfl (by decide) _ _ _ rfl (HO1.out.alloc _) ⟨w1.heap.size, 0, none⟩ 1 1 [.string u] rfl rfl (cell_one_new _ _ _) (by intro u hu; simp at hu; subst hu; rfl) (by unfold maxLen; omega) (by omega) (by simp <;> omega) ?_; intro v' w2 hown' hgrow hnil)
      have R1 := Lib.hid (grown_one (l := L) (x := u) (vals := vS) hown' rfl)
      rw [← HST.out] at R1
      have R3 := Lib.hid (show Below w0.heap.size w0 w2 from (HB1.out.alloc hsz2 _).grown hgrow (by simp <;> omega) (fun g hg => (HO1.out.lt g hg).1))
      clear hown' hgrow hnil
      go_wp2
      go_roundw
      case rel => exact ⟨j + 1, _, by omega, by go_num, rfl, R1.out, R3.out⟩
      case measure => simp [intOf]; omega
    · obtain rfl : j = ch.length := by omega
      have ho := HO.out
      rw [List.take_length] at ho
      have HO2 := Lib.hid ho
      have HZZ := Lib.hid (fun k => Nat.le_trans (size_sumT (numT ch) k) (Nat.le_trans HSM.out (by decide : 67108864 ≤ 9223372036854775807)))
      have HNL := Lib.hid (show (numT ch).length ≤ 1048576 by unfold numT; rw [List.length_map]; exact hx)
      have HJ := Lib.hid (fun (W : World) (h : W.ownsRow w0.heap.size 9 1 u3 (numT ch).length ((numT ch).flatMap vS)) => impl_Join_own h HZZ.out ⟨#[32]⟩ (by decide) HNL.out HSM.out)
      rw [show (⟨#[32]⟩ : ByteArray).data.toList = [32] from rfl, ← HKT.out] at HJ
      clear ho HO HKT HSM HZZ
      generalize hkt : kidsT ch = kt at *
      have HKQ := Lib.hid hkt
      clear hkt
      generalize numT ch = L at *
      go_wp2_with fail
      refine wp_region_freeK [([], .none, []), ([0], .none, []), ([], .none, []), ([2], .none, []), ([], .none, []), ([4], .none, []), ([1, 3, 5], .none, []), ([6], .old, [])] [0, 1, 2, 3, 4, 5, 6, 7] [7] (fun _ => False) (fun _ => True) (fun jq9 => match jq9 with | 7 => (w.heap.size + 1) | _ => 0) (fun jq9 V L H wx => match jq9 with | 0 => V 0 = .pointer (some ⟨w.heap.size, 0, none⟩) | 1 => V 1 = .string ru | 2 => V 2 = .pointer (some ⟨w.heap.size, 1, none⟩) | 3 => V 3 = .int .i64 li | 4 => V 4 = u3 | 5 => V 5 = .string kt | 6 => V 6 = .agg #[.string ru, .int .i64 li, .string kt] | 7 => ∀ x0 x1 x2, V 6 = .agg #[x0, x1, x2] → wx.heap[(w.heap.size + 1)]? = some (.cells #[x0, x1, x2] 44) | _ => True) (by kernel_rfl) (by kernel_rfl) ?obs (fun _ h => h.elim) trivial (fun _ _ _ _ _ => trivial) ?loc ?lasts ?walk
      case obs =>
        exact (And.intro (And.intro (show w.heap.size + 1 < wr.heap.size by have := HZ.out; omega) (fun h => h)) (And.intro (trivial) (trivial)))
      case loc =>
        intro k V V' L H wx h0 h1 hG
        match k with
        | 0 =>
          try dsimp only at hG ⊢
          rw [← h0]
          exact hG
        | 1 =>
          try dsimp only at hG ⊢
          rw [← h0]
          exact hG
        | 2 =>
          try dsimp only at hG ⊢
          rw [← h0]
          exact hG
        | 3 =>
          try dsimp only at hG ⊢
          rw [← h0]
          exact hG
        | 4 =>
          try dsimp only at hG ⊢
          rw [← h0]
          exact hG
        | 5 =>
          try dsimp only at hG ⊢
          rw [← h0]
          exact hG
        | 6 =>
          try dsimp only at hG ⊢
          rw [← h0]
          exact hG
        | 7 =>
          have e6 := h1 6 (by decide)
          try dsimp only at hG ⊢
          rw [← e6]
          exact hG
        | n + 8 => trivial
      case lasts =>
        intro i hi V L H wx wy hB hH hk
        match i, hi with
        | 0, _ => exact fun h => h
        | 1, _ => exact fun h => h
        | 2, _ => exact fun h => h
        | 3, _ => exact fun h => h
        | 4, _ => exact fun h => h
        | 5, _ => exact fun h => h
        | 6, _ => exact fun h => h
        | 7, _ => exact fun h x0 x1 x2 hv => (hk.2 ((w.heap.size + 1)) (.inr (.inr ⟨rfl, rfl⟩)) (Nat.lt_of_lt_of_le (show w.heap.size + 1 < wr.heap.size by have := HZ.out; omega) hB)).trans (h x0 x1 x2 hv)
        | n + 8, hn => exact absurd hn (by simp)
      case walk =>
        simp (maxSteps := 4000000) only [freeK, Nat.reduceAdd, Act.put, List.setIfInBounds_toArray, List.set_cons_succ, List.set_cons_zero]
        refine ⟨?_, ?_, ?_, ?_, ?_, ?_, ?_, ?_, ?_⟩
        · intro V L H w1 hw hk hj hd
          clear hd
          go_wp2_with fail
          exact freePost _ rfl ⟨⟨WritesF.refl _ _, hj⟩, upd_self⟩
        · intro V L H w1 hw hk hj hd
          obtain ⟨⟨hL0, hM0, hH0, hv0⟩, -⟩ := hd
          rw [hv0]
          have HV0 := Lib.hid hv0
          clear hv0
          have e0 : w1.cell? ⟨w.heap.size, 0, none⟩ = some (.string ru) := (hk.cell (p := ⟨w.heap.size, 0, none⟩) ⟨(show w.heap.size < wr.heap.size by have := HZ.out; omega), fun h => h, trivial⟩ (show w.heap.size < wr.heap.size by have := HZ.out; omega)).trans (pblk_cell HCW.out rfl)
          go_wp2_with fail
          exact freePost _ rfl ⟨⟨WritesF.refl _ _, hj⟩, upd_self⟩
        · intro V L H w1 hw hk hj hd
          clear hd
          go_wp2_with fail
          exact freePost _ rfl ⟨⟨WritesF.refl _ _, hj⟩, upd_self⟩
        · intro V L H w1 hw hk hj hd
          obtain ⟨⟨hL2, hM2, hH2, hv2⟩, -⟩ := hd
          rw [hv2]
          have HV2 := Lib.hid hv2
          clear hv2
          have e1 : w1.cell? ⟨w.heap.size, 1, none⟩ = some (.int .i64 li) := (hk.cell (p := ⟨w.heap.size, 1, none⟩) ⟨(show w.heap.size < wr.heap.size by have := HZ.out; omega), fun h => h, trivial⟩ (show w.heap.size < wr.heap.size by have := HZ.out; omega)).trans (pblk_cell HCW.out rfl)
          go_wp2_with fail
          exact freePost _ rfl ⟨⟨WritesF.refl _ _, hj⟩, upd_self⟩
        · intro V L H w1 hw hk hj hd
          clear hd
          go_wp2_with fail
          exact freePost _ rfl ⟨⟨WritesF.refl _ _, hj⟩, upd_self⟩
        · intro V L H w1 hw hk hj hd
          obtain ⟨⟨hL4, hM4, hH4, hv4⟩, -⟩ := hd
          rw [hv4]
          have HV4 := Lib.hid hv4
          clear hv4
          go_wp2_with fail
          refine (HJ.out w1 (ownsRow_keptAt HO2.out fun g hg => hk.2 g ⟨(HO2.out.lt g hg).2, fun h => h, trivial⟩ (HO2.out.lt g hg).2)).mono ?_
          rintro e w2 ⟨rfl, hb2⟩
          go_wp2_with fail
          exact freePost _ rfl ⟨⟨(WritesF.refl _ _).later hb2, trivial⟩, upd_self⟩
        · intro V L H w1 hw hk hj hd
          obtain ⟨⟨hL1, hM1, hH1, hv1⟩, ⟨hL3, hM3, hH3, hv3⟩, ⟨hL5, hM5, hH5, hv5⟩, -⟩ := hd
          rw [hv1, hv3, hv5]
          have HV1 := Lib.hid hv1
          have HV3 := Lib.hid hv3
          have HV5 := Lib.hid hv5
          clear hv1 hv3 hv5
          go_wp2_with fail
          exact freePost _ rfl ⟨⟨WritesF.refl _ _, hj⟩, upd_self⟩
        · intro V L H w1 hw hk hj hd
          obtain ⟨⟨hL6, hM6, hH6, hv6⟩, -⟩ := hd
          rw [hv6]
          have HV6 := Lib.hid hv6
          clear hv6
          have hblk : w1.heap[(w.heap.size + 1)]? = some (.cells #[.string ⟨#[]⟩, .int .i64 0, .string ⟨#[]⟩] 44) := (hk.2 (w.heap.size + 1) ⟨(show w.heap.size + 1 < wr.heap.size by have := HZ.out; omega), fun h => h, trivial⟩ (show w.heap.size + 1 < wr.heap.size by have := HZ.out; omega)).trans HZW.out
          have hc_0 := pblk_cell (j := 0) (v := .string ⟨#[]⟩) hblk rfl
          have hf_0 := pblk_frozen (j := 0) hblk
          have hc_1 := pblk_cell (j := 1) (v := .int .i64 0) hblk rfl
          have hf_1 := pblk_frozen (j := 1) hblk
          have hc_2 := pblk_cell (j := 2) (v := .string ⟨#[]⟩) hblk rfl
          have hf_2 := pblk_frozen (j := 2) hblk
          have HBLK := Lib.hid hblk
          clear hblk
          go_wp2_with fail
          refine freePost undef rfl ⟨(Touches.put (L := (w.heap.size + 1)) (H := (w.heap.size + 1) + 1) (Touches.put (L := (w.heap.size + 1)) (H := (w.heap.size + 1) + 1) (Touches.put (L := (w.heap.size + 1)) (H := (w.heap.size + 1) + 1) Touches.refl (p := ⟨(w.heap.size + 1), 0, none⟩) ⟨Nat.le_refl _, (Nat.lt_succ_self _)⟩ _) (p := ⟨(w.heap.size + 1), 1, none⟩) ⟨Nat.le_refl _, (Nat.lt_succ_self _)⟩ _) (p := ⟨(w.heap.size + 1), 2, none⟩) ⟨Nat.le_refl _, (Nat.lt_succ_self _)⟩ _), fun x0 x1 x2 h => ?_⟩
          cases (HV6.out.symm.trans ((upd_ne (by decide)).symm.trans h))
          exact (pblk_put (pblk_put (pblk_put HBLK.out rfl) rfl) rfl)
        · intro V L H w1 hw hj hd hap hdead
          obtain ⟨⟨hL0, hM0, hH0, hv0⟩, ⟨hL1, hM1, hH1, hv1⟩, ⟨hL2, hM2, hH2, hv2⟩, ⟨hL3, hM3, hH3, hv3⟩, ⟨hL4, hM4, hH4, hv4⟩, ⟨hL5, hM5, hH5, hv5⟩, ⟨hL6, hM6, hH6, hv6⟩, ⟨hL7, hM7, hH7, hst7_⟩, -⟩ := hd
          have pb7 := hst7_ _ _ _ hv6
          rw [hv0, hv1, hv2, hv3, hv4, hv5, hv6]
          clear hv0 hv1 hv2 hv3 hv4 hv5 hv6
          have HBW := Lib.hid (show WritesF (fun y => y = w.heap.size + 1) wr w1 from hw.sub (fun y hy => hy.elim (fun h => h.elim) (fun h => by
            by_cases e : y = w.heap.size + 1
            · exact e
            · exact absurd (show y ≠ w.heap.size + 1 ∧ True from ⟨e, trivial⟩) h)))
          have HP7 := Lib.hid pb7
          clear pb7 hw hj hap hdead
          go_wp2
          refine bodyPost_ret (v := .agg #[.string ru, .int .i64 li, .string kt]) (results_cell_row Tryd.results16 _ _ (w.heap.size + 1) 44 #[.string ru, .int .i64 li, .string kt] (0, 0) _ rfl HP7.out Tryd.underlying44 rfl (by kernel_rfl)) rfl ⟨by rw [HKQ.out], ?_⟩
          exact HBT.out.trans (HBW.out.below (fun z h => by show w.heap.size ≤ z; have : z = w.heap.size + 1 := h; omega) HBT.out.size)

theorem idx_anyT {α : Type} [Inhabited α] (p : α → Bool) (l : List α) : decide (0 ≤ idxI p l) = l.any p := by
  unfold idxI
  cases h : l.findIdx? p with
  | none =>
    rw [List.findIdx?_eq_none_iff] at h
    have : l.any p = false := by rw [List.any_eq_false]; intro a ha; simp [h a ha]
    rw [this]; rfl
  | some k =>
    rw [List.findIdx?_eq_some_iff_getElem] at h
    obtain ⟨h1, h2, _⟩ := h
    have : l.any p = true := List.any_eq_true.2 ⟨l[k], List.getElem_mem _, h2⟩
    rw [this]; simp
theorem all_anyT {α : Type} (p : α → Bool) (l : List α) : (!(l.any fun x => !p x)) = l.all p := by
  induction l with
  | nil => rfl
  | cons a l ih => rw [List.any_cons, List.all_cons, ← ih, Bool.not_or, Bool.not_not]

set_option maxHeartbeats 3200000 in
set_option maxRecDepth 100000 in
theorem not_ints (z : Int) (q : Nat)  (v : Bool) (q1 : Nat) (w : World) (hq : w.cell? ⟨q1, 0, none⟩ = some (.func (.func 18) #[] #[.pointer (some ⟨q, 0, none⟩)])) (_ : q1 < w.heap.size)
    (hc : ∀ W, Below w.heap.size w W → Calls Tryd.prog 18 #[.int .i64 z, .pointer (some ⟨q, 0, none⟩)] W fun e W' => e = .returned (.bool v) ∧ Below W.heap.size W W') :
    Calls Tryd.prog 28 #[.int .i64 z, .pointer (some ⟨q1, 0, none⟩)] w fun e w' => e = .returned (.bool (!v)) ∧ Below w.heap.size w w' := by
  have HB := Lib.hid (Below.refl w.heap.size w)
  have HC := Lib.hid (hc _ HB.out)
  clear hc
  go_enter Tryd.func28, Tryd.ntmps28
  go_wp2_with fail
  refine HC.out.mono ?_
  rintro e w1 ⟨rfl, hb1⟩
  have HB1 := Lib.hid (HB.out.trans (hb1.mono HB.out.size))
  clear hb1
  go_wp2
  go_ret
  exact ⟨rfl, HB1.out⟩

set_option maxHeartbeats 3200000 in
set_option maxRecDepth 100000 in
theorem index_ints {lo hi c : Nat} {a : Option Addr} (q : Int → Bool) (q1 : Nat) (l : List Int) (hl : l.length ≤ 1048577) (w : World) (hhi : hi ≤ w.heap.size) (hs : Sl lo hi w 1 l.length (fun k => ictI (l.getD k default)) a) (HP : ∀ k, k < l.length → ∀ (W : World), Below w.heap.size w W → Calls Tryd.prog 28 #[.int .i64 (l.getD k default), .pointer (some ⟨q1, 0, none⟩)] W fun e W' => e = .returned (.bool (q (l.getD k default))) ∧ Below W.heap.size W W') :
    Calls Tryd.prog 35 #[.slice a l.length c, .func (.func 28) #[] #[.pointer (some ⟨q1, 0, none⟩)]] w fun e w' => e = .returned (.int .i64 (idxI q l)) ∧ Below w.heap.size w w' := by
  have HS := Lib.hid hs
  have HPX := Lib.hid HP
  clear hs HP
  go_enter Tryd.func35, Tryd.ntmps35
  go_wp2
  go_loopw [8] (fun i wr => ∃ k : Nat, k ≤ l.length ∧ i = .int .i64 (k : Int) ∧ noneBelow q l k ∧ Below w.heap.size w wr) (fun i _ => l.length - (intOf i).toNat)
  case atStart => exact ⟨0, Nat.zero_le _, rfl, noneBelow_zero _ _, Below.refl _ _⟩
  case round =>
    obtain ⟨k, hk, rfl, hno, hbl⟩ := hrel
    have HBL := Lib.hid hbl
    have HNO := Lib.hid hno
    clear hno
    by_cases hlt : k < l.length
    · obtain ⟨b, off, rfl, _, _, hc⟩ := (HS.out.later (hbl.mono hhi) (Nat.le_refl _)).at k hlt
      rw [Nat.mul_one] at hc
      have hu := open_Int hc
      have HC := Lib.hid (HPX.out k hlt wr hbl)
      clear hc
      clear hbl
      cases hr : q (l.getD k default)
      · have HPS := Lib.hid (noneBelow_succ HNO.out hr)
        rw [hr] at HC
        clear hr
        generalize l.getD k default = x at *
        go_wp2_with fail
        refine HC.out.mono ?_
        rintro e w1 ⟨rfl, hb1⟩
        have HB1 := Lib.hid (HBL.out.trans (hb1.mono HBL.out.size))
        clear hb1
        go_wp2
        go_roundw
        case rel => exact ⟨k + 1, by omega, by go_num, HPS.out, HB1.out⟩
        case measure => simp [intOf]; omega
      · have FIN := Lib.hid (idxI_at hlt hr HNO.out)
        rw [hr] at HC
        clear hr
        generalize l.getD k default = x at *
        go_wp2_with fail
        refine HC.out.mono ?_
        rintro e w1 ⟨rfl, hb1⟩
        have HB1 := Lib.hid (HBL.out.trans (hb1.mono HBL.out.size))
        clear hb1
        go_wp2
        go_ret
        exact ⟨ret_i FIN.out.symm, HB1.out⟩
    · obtain rfl : k = l.length := by omega
      have FIN := Lib.hid (idxI_none HNO.out)
      go_wp2
      go_ret
      exact ⟨ret_i FIN.out.symm, HBL.out⟩

set_option maxHeartbeats 3200000 in
set_option maxRecDepth 100000 in
theorem contains_ints {lo hi c : Nat} {a : Option Addr} (q : Int → Bool) (q1 : Nat) (l : List Int) (hl : l.length ≤ 1048577) (w : World) (hhi : hi ≤ w.heap.size) (hs : Sl lo hi w 1 l.length (fun k => ictI (l.getD k default)) a) (HP : ∀ k, k < l.length → ∀ (W : World), Below w.heap.size w W → Calls Tryd.prog 28 #[.int .i64 (l.getD k default), .pointer (some ⟨q1, 0, none⟩)] W fun e W' => e = .returned (.bool (q (l.getD k default))) ∧ Below W.heap.size W W') :
    Calls Tryd.prog 27 #[.slice a l.length c, .func (.func 28) #[] #[.pointer (some ⟨q1, 0, none⟩)]] w fun e w' => e = .returned (.bool (l.any q)) ∧ Below w.heap.size w w' := by
  have HI := Lib.hid (index_ints (c := c) q q1 l hl w hhi hs HP)
  have HD := Lib.hid (idx_anyT q l)
  clear hs HP
  generalize idxI q l = z at *
  generalize l.any q = r at *
  generalize l.length = n at *
  go_enter Tryd.func27, Tryd.ntmps27
  go_wp2_with fail
  refine HI.out.mono ?_
  rintro e w1 ⟨rfl, hb1⟩
  go_wp2
  go_ret
  exact ⟨ret_b HD.out, hb1⟩

set_option maxHeartbeats 3200000 in
set_option maxRecDepth 100000 in
theorem allValid_ints {lo hi c : Nat} {a : Option Addr} (p : Int → Bool) (q : Nat)  (l : List Int) (hl : l.length ≤ 1048577) (w : World) (hhi : hi ≤ w.heap.size) (hs : Sl lo hi w 1 l.length (fun k => ictI (l.getD k default)) a) (HP : ∀ k, k < l.length → ∀ (W : World), Below w.heap.size w W → Calls Tryd.prog 18 #[.int .i64 (l.getD k default), .pointer (some ⟨q, 0, none⟩)] W fun e W' => e = .returned (.bool (p (l.getD k default))) ∧ Below W.heap.size W W') :
    Calls Tryd.prog 17 #[.slice a l.length c, .func (.func 18) #[] #[.pointer (some ⟨q, 0, none⟩)]] w fun e w' => e = .returned (.bool (l.all p)) ∧ Below w.heap.size w w' := by
  have HB := Lib.hid ((Below.refl w.heap.size w).alloc (Nat.le_refl _) (.cells #[.func (.func 18) #[] #[.pointer (some ⟨q, 0, none⟩)]] 47))
  have HD := Lib.hid (all_anyT p l)
  have HI := Lib.hid (contains_ints (c := c) (fun x => !p x) w.heap.size l hl (w.alloc (.cells #[.func (.func 18) #[] #[.pointer (some ⟨q, 0, none⟩)]] 47)) (Nat.le_trans hhi HB.out.size) (hs.later HB.out hhi) (fun k hk  W hW  => not_ints _ q  _ _ W ((hW.cell (p := ⟨w.heap.size, 0, none⟩) (by simp)).trans (by go_simp)) (Nat.lt_of_lt_of_le (by simp) hW.size) (fun W2 hW2 => HP k hk  W2 (HB.out.trans ((hW.trans (hW2.mono hW.size)).mono HB.out.size)) )))
  clear hs HP
  generalize l.all p = r at *
  generalize (l.any fun x => !p x) = z at *
  generalize l.length = n at *
  go_enter Tryd.func17, Tryd.ntmps17
  go_wp2_with fail
  refine HI.out.mono ?_
  rintro e w1 ⟨rfl, hb1⟩
  have HB1 := Lib.hid (HB.out.trans (hb1.mono HB.out.size))
  clear hb1
  go_wp2
  go_ret
  exact ⟨ret_b HD.out, HB1.out⟩

theorem kid_no {z : Int} {k : Nat} (h : ¬ 0 ≤ z) : (decide (0 ≤ z) && decide (z < (k : Int))) = false := by rw [decide_eq_false h, Bool.false_and]
theorem kid_yes {z : Int} {k : Nat} (h : 0 ≤ z) : (decide (0 ≤ z) && decide (z < (k : Int))) = decide (z < (k : Int)) := by rw [decide_eq_true h, Bool.true_and]

set_option maxHeartbeats 12800000 in
set_option maxRecDepth 100000 in
theorem impl_kidOk (z : Int) (k q : Nat) (w : World) (hq : w.cell? ⟨q, 0, none⟩ = some (.int .i64 (k : Int))) :
    Calls Tryd.prog 18 #[.int .i64 z, .pointer (some ⟨q, 0, none⟩)] w fun e w' => e = .returned (.bool (decide (0 ≤ z) && decide (z < (k : Int)))) ∧ Below w.heap.size w w' := by
  by_cases h : 0 ≤ z
  · have fin := Lib.hid (kid_yes (k := k) h)
    go_enter Tryd.func18, Tryd.ntmps18
    go_wp2
    go_ret
    exact ⟨ret_b fin.out.symm, Below.refl _ _⟩
  · have fin := Lib.hid (kid_no (k := k) h)
    go_enter Tryd.func18, Tryd.ntmps18
    go_wp2
    go_ret
    exact ⟨ret_b fin.out.symm, Below.refl _ _⟩

set_option maxHeartbeats 12800000 in
set_option maxRecDepth 100000 in
theorem impl_IsValidStoreL {lo hi c : Nat} {a : Option Addr} (l : List DCell) (hok : okL DCell.ok l) (hsz : lsz DCell.sz l ≤ 1048576) (w : World) (hhi : hi ≤ w.heap.size) (hs : Sl lo hi w 3 l.length (fun k => DCell.ct (l.getD k default)) a) (hp : Pow w) :
    Calls Tryd.prog 8 #[.agg #[.slice a l.length c]] w fun e w' => e = .returned (.bool (storeOk l)) ∧ Below w.heap.size w w' := by
  have hn : l.length ≤ 1048576 := by unfold lsz at hsz; omega
  have HB := Lib.hid (show Below w.heap.size w ((w.alloc (.cells #[.slice a l.length c] 29)).alloc (.map #[] 0)) from ((Below.refl w.heap.size w).alloc (Nat.le_refl _) (.cells #[.slice a l.length c] 29)).alloc (by simp) (.map #[] 0))
  have HBS := Lib.hid (show ((w.alloc (.cells #[.slice a l.length c] 29)).alloc (.map #[] 0)).heap[w.heap.size]? = some (.cells #[.slice a l.length c] 29) from blk_alloc (by simp) (blk_new rfl))
  have HM0 := Lib.hid (show MapF Tryd.prog 44 4 okMK embK litB false ((w.alloc (.cells #[.slice a l.length c] 29)).alloc (.map #[] 0)) (w.heap.size + 1) 0 (foundK l 0) from by have h := MapF.made (P := Tryd.prog) (k := 44) (e := 4) (okK := okMK) (emb := embK) (vl := litB) (z := false) (w.alloc (.cells #[.slice a l.length c] 29)); rw [show (w.alloc (.cells #[.slice a l.length c] 29)).heap.size = w.heap.size + 1 by simp] at h; exact h)
  have HZ := Lib.hid (show ((w.alloc (.cells #[.slice a l.length c] 29)).alloc (.map #[] 0)).heap.size = w.heap.size + 2 by simp)
  have HS := Lib.hid (fun (W : World) (hW : Below w.heap.size w W) => hs.later hW hhi)
  have HHI := Lib.hid hhi
  have HLN := Lib.hid (fun k (hk : k < l.length) => kids_len hsz hk)
  have HOK := Lib.hid hok
  have HP := Lib.hid hp
  clear hs hhi hsz hok hp
  have hmm := @run_makeMap Tryd.prog
  go_enter Tryd.func8, Tryd.ntmps8
  go_wp2
  clear hmm
  generalize ((w.alloc (.cells #[.slice a l.length c] 29)).alloc (.map #[] 0)) = w0 at *
  go_loopw [10] (fun i wr => ∃ k : Nat, k ≤ l.length ∧ i = .int .i64 (k : Int) ∧ (∀ j, j < k → cellOk l j = true) ∧ (∃ n, n ≤ k ∧ MapF Tryd.prog 44 4 okMK embK litB false wr (w.heap.size + 1) n (foundK l k)) ∧ WritesF (fun y => y = w.heap.size + 1) w0 wr) (fun i _ => l.length - (intOf i).toNat)
  case atStart => exact ⟨0, Nat.zero_le _, rfl, fun _ h => absurd h (Nat.not_lt_zero _), ⟨0, Nat.le_refl _, HM0.out⟩, WritesF.refl _ _⟩
  case round =>
    obtain ⟨k, hk, rfl, hno, ⟨n, hnk, hm⟩, hw⟩ := hrel
    have HN := Lib.hid hno
    have HM := Lib.hid hm
    have HW := Lib.hid hw
    have hmlt : w.heap.size + 1 < wr.heap.size := hm.lt
    have HBR := Lib.hid (show Below w.heap.size w wr from HB.out.trans (hw.below (fun x h => by show w.heap.size ≤ x; have : x = w.heap.size + 1 := h; omega) (by have := HZ.out; omega)))
    have HSW := Lib.hid ((hw.block w.heap.size (by rw [HZ.out]; omega) (by show ¬ w.heap.size = w.heap.size + 1; omega)).trans HBS.out)
    clear hno hm hw
    by_cases hlt : k < l.length
    · have hkI : (0 : Int) ≤ (k : Int) ∧ (k : Int) < (l.length : Int) := by omega
      obtain ⟨b0, off, rfl, _, hbh, hc⟩ := (HS.out wr HBR.out).at k hlt
      obtain ⟨a2, c2, hc0, hc1, hc2, hs3⟩ := DCell.open hc
      have HL3 := Lib.hid (HLN.out k hlt)
      have HOX := Lib.hid (HOK.out.at hlt)
      have HKO := Lib.hid (key_ok HOX.out HL3.out)
      have HDUP := Lib.hid (fun h => storeOk_no hlt (cellOk_dup (found_yes HOK.out hlt h)))
      have HKID := Lib.hid (fun h => cellOk_kids (found_no hlt h))
      have HNO := Lib.hid (fun (h : cellOk l k = false) => storeOk_no hlt h)
      have HPUT := Lib.hid (foundK_put l k)
      have HOTH := Lib.hid (fun x => @foundK_other l k x)
      have HSK := Lib.hid hs3
      have hbI := Lib.hid (show b0 < w.heap.size by have := HHI.out; omega)
      clear hc hs3
      generalize l.getD k default = x at *
      have HA := Lib.hid (show Below wr.heap.size wr ((wr.alloc (.cells #[.int .i64 (k : Int)] 3)).alloc (.cells #[.string x.fRule, .int .i64 x.fLiteral, .slice a2 x.fChildren.length c2] 39)) from ((Below.refl _ _).alloc (Nat.le_refl _) (.cells #[.int .i64 (k : Int)] 3)).alloc (by simp) (.cells #[.string x.fRule, .int .i64 x.fLiteral, .slice a2 x.fChildren.length c2] 39))
      have HAK := Lib.hid (show ((wr.alloc (.cells #[.int .i64 (k : Int)] 3)).alloc (.cells #[.string x.fRule, .int .i64 x.fLiteral, .slice a2 x.fChildren.length c2] 39)).heap[wr.heap.size]? = some (.cells #[.int .i64 (k : Int)] 3) from blk_alloc (by simp) (blk_new rfl))
      have HAX := Lib.hid (show ((wr.alloc (.cells #[.int .i64 (k : Int)] 3)).alloc (.cells #[.string x.fRule, .int .i64 x.fLiteral, .slice a2 x.fChildren.length c2] 39)).heap[wr.heap.size + 1]? = some (.cells #[.string x.fRule, .int .i64 x.fLiteral, .slice a2 x.fChildren.length c2] 39) from blk_new (by simp))
      have HZA := Lib.hid (show ((wr.alloc (.cells #[.int .i64 (k : Int)] 3)).alloc (.cells #[.string x.fRule, .int .i64 x.fLiteral, .slice a2 x.fChildren.length c2] 39)).heap.size = wr.heap.size + 2 by simp)
      have HKEY := Lib.hid (fun (W : World) (hW : Below wr.heap.size wr W) => impl_key (c := c2) x HOX.out.2.2 HL3.out W (Nat.le_trans (Nat.le_trans HHI.out HBR.out.size) hW.size) (HSK.out.later hW (Nat.le_trans HHI.out HBR.out.size)) (HP.out.below (HBR.out.trans (hW.mono HBR.out.size))))
      go_wp2_with fail
      generalize ((wr.alloc (.cells #[.int .i64 (k : Int)] 3)).alloc (.cells #[.string x.fRule, .int .i64 x.fLiteral, .slice a2 x.fChildren.length c2] 39)) = W1 at *
      refine (HKEY.out _ HA.out).mono ?_
      rintro e w3 ⟨rfl, hb3⟩
      have HB3 := Lib.hid (HA.out.trans (hb3.mono HA.out.size))
      have HK3 := Lib.hid ((hb3.block wr.heap.size (by rw [HZA.out]; omega)).trans HAK.out)
      have HX3 := Lib.hid ((hb3.block (wr.heap.size + 1) (by rw [HZA.out]; omega)).trans HAX.out)
      have HM3 := Lib.hid (HM.out.later HB3.out)
      have hz3 : wr.heap.size + 2 ≤ w3.heap.size := by have := hb3.size; rw [HZA.out] at this; exact this
      clear hb3 hc0 hc1 hc2
      cases hf : foundK l k (keyC x)
      · have HF := Lib.hid hf
        have HCO := Lib.hid (HKID.out hf)
        clear hf HDUP HKID
        have x2 : w3.cell? ⟨wr.heap.size + 1, 2, none⟩ = some (.slice a2 x.fChildren.length c2) := pblk_cell HX3.out rfl
        go_wp2_with (refine wpList_look_mapF _ rfl (.tmp 15) (.tmp 17) rfl mapK_KB HM3.out rfl (y := keyC x) HKO.out rfl ?_; rw [show valB (foundK l k (keyC x)) = .bool false from by rw [HF.out]; rfl])
        refine (allValid_ints (c := c2) (fun z => decide (0 ≤ z) && decide (z < (k : Int))) wr.heap.size x.fChildren (by have := HL3.out; omega) _ (Nat.le_trans (Nat.le_trans HHI.out HBR.out.size) HB3.out.size) (HSK.out.later HB3.out (Nat.le_trans HHI.out HBR.out.size)) (fun t _ W hW => impl_kidOk _ k wr.heap.size W (pblk_cell ((hW.block wr.heap.size (by omega)).trans HK3.out) rfl))).mono ?_
        rintro e w4 ⟨rfl, hb4⟩
        have HKB := Lib.hid (show (x.fChildren.all fun z => decide (0 ≤ z) && decide (z < (k : Int))) = kidsB k x.fChildren from rfl)
        rw [HKB.out]
        have HB4 := Lib.hid (HB3.out.trans (hb4.mono HB3.out.size))
        have HX4 := Lib.hid ((hb4.block (wr.heap.size + 1) (by omega)).trans HX3.out)
        have HM4 := Lib.hid (HM3.out.later hb4)
        have HW4 := Lib.hid (HW.out.later HB4.out)
        have hz4 : wr.heap.size + 2 ≤ w4.heap.size := Nat.le_trans hz3 hb4.size
        clear hb4 x2 HKB
        cases hkb : kidsB k x.fChildren
        · have FIN := Lib.hid (HNO.out (HCO.out.trans hkb))
          clear hkb HCO HNO
          go_wp2
          go_ret
          exact ⟨ret_b FIN.out.symm, HBR.out.trans (HB4.out.mono HBR.out.size)⟩
        · have HN2 := Lib.hid (show ∀ t, t < k + 1 → cellOk l t = true from fun t ht => by
            by_cases htj : t = k
            · subst htj; exact HCO.out.trans hkb
            · exact HN.out t (by omega))
          clear hkb HCO HNO
          have HX4c : ∀ q v, (#[.string x.fRule, .int .i64 x.fLiteral, .slice a2 x.fChildren.length c2] : Array Value)[q]? = some v → w4.cell? ⟨wr.heap.size + 1, q, none⟩ = some v := fun q v h => pblk_cell HX4.out h
          have y0 : w4.cell? ⟨wr.heap.size + 1, 0, none⟩ = some (.string x.fRule) := pblk_cell HX4.out rfl
          have y1 : w4.cell? ⟨wr.heap.size + 1, 1, none⟩ = some (.int .i64 x.fLiteral) := pblk_cell HX4.out rfl
          have y2 : w4.cell? ⟨wr.heap.size + 1, 2, none⟩ = some (.slice a2 x.fChildren.length c2) := pblk_cell HX4.out rfl
          clear HX4c
          go_wp2_with fail
          refine (HKEY.out _ HB4.out).mono ?_
          rintro e w5 ⟨rfl, hb5⟩
          have HM5 := Lib.hid (HM4.out.later hb5)
          have HW5 := Lib.hid (HW4.out.later hb5)
          have hnx : n < maxLen := by unfold maxLen; omega
          clear hb5 y0 y1 y2
          go_wp2_with (at_mapUpdate; refine wpList_put_mapF _ rfl (.tmp 26) (.tmp 28) (.const (.bool true)) rfl mapK_KB HM5.out hnx rfl (y := keyC x) HKO.out (u := true) trivial rfl rfl (f' := foundK l (k + 1)) HPUT.out (fun q _ hq => HOTH.out q hq) ?_; intro w9 hm9 hg9)
          have R1 := Lib.hid hm9
          have R2 := Lib.hid (HW5.out.grownN hg9 (fun g hg => by injection hg with e; exact e.symm))
          clear hm9 hg9
          go_wp2
          go_roundw
          case rel => exact ⟨k + 1, by omega, by go_num, HN2.out, ⟨n + 1, by omega, R1.out⟩, R2.out⟩
          case measure => simp [intOf]; omega
      · have HF := Lib.hid hf
        have FIN := Lib.hid (HDUP.out hf)
        clear hf HDUP HKID HNO
        go_wp2_with (refine wpList_look_mapF _ rfl (.tmp 15) (.tmp 17) rfl mapK_KB HM3.out rfl (y := keyC x) HKO.out rfl ?_; rw [show valB (foundK l k (keyC x)) = .bool true from by rw [HF.out]; rfl])
        go_ret
        exact ⟨ret_b FIN.out.symm, HBR.out.trans (HB3.out.mono HBR.out.size)⟩
    · obtain rfl : k = l.length := by omega
      have FIN := Lib.hid (storeOk_yes HN.out)
      go_wp2
      go_ret
      exact ⟨ret_b FIN.out.symm, HBR.out⟩
end Go.Proofs.YtjlcbbaicengbaaDoor
