/-
  FormatSymbol of the model and of the program.
-/
import Derived.Test.YteeehpldkhceoaaFmtSym
namespace Go.Proofs.Yteeehpldkhceoaa
open Go.ChangeShapes Go.WideShapes Go.ChangeAt Go.RowKit Go.Deep

theorem size_le_sumV : ∀ (L : List ByteArray) (k : Nat), (L.getD k ByteArray.empty).size ≤ sumSize L
  | [], _ => by rw [List.getD_nil]; exact Nat.zero_le _
  | x :: L, 0 => by unfold sumSize; rw [List.getD_cons_zero, List.map_cons, List.sum_cons]; omega
  | x :: L, k + 1 => by
    have ih := size_le_sumV L k
    unfold sumSize at *
    rw [List.getD_cons_succ, List.map_cons, List.sum_cons]
    omega

set_option maxHeartbeats 3200000 in
set_option maxRecDepth 100000 in
theorem impl_FormatSymbol {lo hi : Nat} {a1 : Option Addr} {c0_0 : Nat} (s : DSymbol) (hok : s.ok) (hsz : s.sz ≤ 1048576) (w : World) (hhi : hi ≤ w.heap.size) (hs : Sl lo hi w 4 s.fAttributes.length (fun k => DAttribute.ct (s.fAttributes.getD k default)) a1) :
    Calls Try.prog 7 #[.agg #[.string s.fName, .slice a1 s.fAttributes.length c0_0]] w fun e w' => e = .returned (.string (fmtSym s.fName s.fAttributes)) ∧ Below w.heap.size w w' := by
  have HB0 := Lib.hid ((Below.refl w.heap.size w).alloc (Nat.le_refl _) (.cells #[.string s.fName, .slice a1 s.fAttributes.length c0_0] 29))
  have HX0 := Lib.hid (show (w.alloc (.cells #[.string s.fName, .slice a1 s.fAttributes.length c0_0] 29)).heap[w.heap.size]? = some (.cells #[.string s.fName, .slice a1 s.fAttributes.length c0_0] 29) from blk_new rfl)
  have HZ0 := Lib.hid (show (w.alloc (.cells #[.string s.fName, .slice a1 s.fAttributes.length c0_0] 29)).heap.size = w.heap.size + 1 by simp)
  have HV := Lib.hid (impl_IsValidSymbol (c0_0 := c0_0) s hok hsz (w.alloc (.cells #[.string s.fName, .slice a1 s.fAttributes.length c0_0] 29)) (Nat.le_trans hhi HB0.out.size) (hs.later HB0.out hhi))
  have HS := Lib.hid hs
  have HHI := Lib.hid hhi
  clear hs hok hsz hhi
  cases hv : symV s.fName s.fAttributes
  · have FIN := Lib.hid (fmtSym_no hv)
    rw [hv] at HV
    clear hv
    generalize fmtSym s.fName s.fAttributes = res at *
    go_enter Try.func7, Try.ntmps7
    go_wp2_with fail
    refine HV.out.mono ?_
    rintro e w1 ⟨rfl, hb1⟩
    have HB1 := Lib.hid (HB0.out.trans (hb1.mono HB0.out.size))
    clear hb1
    go_wp2
    go_ret
    exact ⟨ret_st2 FIN.out.symm, HB1.out⟩
  · have HG := Lib.hid (goodS hv)
    have FIN := Lib.hid (@fmtSym_join s.fName s.fAttributes hv)
    rw [hv] at HV
    clear hv
    generalize hl : s.fAttributes = l at *
    generalize hnm : s.fName = nm at *
    clear hl hnm
    generalize fmtSym nm l = res at *
    have hln : l.length ≤ 4 := HG.out.len
    go_enter Try.func7, Try.ntmps7
    go_wp2_with fail
    refine HV.out.mono ?_
    rintro e w1 ⟨rfl, hb1⟩
    have HB1 := Lib.hid (HB0.out.trans (hb1.mono HB0.out.size))
    have HX1 := Lib.hid ((hb1.block w.heap.size (by rw [HZ0.out]; omega)).trans HX0.out)
    have HZ1 := Lib.hid (show w.heap.size + 1 ≤ w1.heap.size by have := hb1.size; rw [HZ0.out] at this; exact this)
    have y0 := pblk_cell (j := 0) (v := .string nm) HX1.out rfl
    have y1 := pblk_cell (j := 1) (v := .slice a1 l.length c0_0) HX1.out rfl
    have hyl : w.heap.size < w1.heap.size := HZ1.out
    clear hb1 HV
    obtain ⟨i0, hi', hz0, hz1, hz2⟩ := info_parts info_string
    have HO0 := Lib.hid (show (w1.alloc (.cells #[.string ⟨#[115, 121, 109, 98, 111, 108]⟩, .string nm] 9)).ownsRow w.heap.size 9 1 (.slice (some ⟨w1.heap.size, 0, none⟩) 2 2) (wordsS nm (l.take 0)).length ((wordsS nm (l.take 0)).flatMap vS) from World.ownsRow_lit (base := w.heap.size) (size := 1) (e := 9) w1 #[.string ⟨#[115, 121, 109, 98, 111, 108]⟩, .string nm] 2 (by omega) (by decide) rfl)
    go_wp2
    go_loopw [3, 15] (fun v i wr => ∃ j : Nat, j ≤ l.length ∧ i = .int .i64 (j : Int) ∧ wr.ownsRow w.heap.size 9 1 v (wordsS nm (l.take j)).length ((wordsS nm (l.take j)).flatMap vS) ∧ Below w.heap.size w wr) (fun _ i _ => l.length - (intOf i).toNat)
    case atStart => exact ⟨0, Nat.zero_le _, rfl, HO0.out, HB1.out.alloc HB1.out.size _⟩
    case round =>
      clear y0 y1 HO0 hyl
      obtain ⟨j, hj, rfl, hown, hbl⟩ := hrel
      have HO := Lib.hid hown
      have HBL := Lib.hid hbl
      have hsz1 : w.heap.size ≤ wr.heap.size := hbl.size
      clear hown hbl
      by_cases hlt : j < l.length
      · skip
        obtain ⟨hsn, ⟨m, hm, hm4⟩, ⟨t, ht, ht5⟩⟩ := HG.out.attr j hlt
        obtain ⟨b, off, rfl, _, hbh, hc⟩ := (HS.out.later HBL.out HHI.out).at j hlt
        obtain ⟨hc0, hc1, hc2, hc3⟩ := DAttribute.open hc
        have hbw : b < w.heap.size := Nat.lt_of_lt_of_le hbh HHI.out
        clear hc
        rw [hm] at hc2
        rw [ht] at hc1
        have HT := Lib.hid (fun (W : World) => impl_formatAttribute (l.getD j default).fName m t (l.getD j default).fCircular (by omega) hm4 ht5 W)
        have HTK := Lib.hid (show attrT (l.getD j default) = if (l.getD j default).fCircular then attrW (l.getD j default).fName m t ++ ⟨#[33]⟩ else attrW (l.getD j default).fName m t by unfold attrT; rw [hm, ht]; rfl)
        rw [← HTK.out] at HT
        have HST := Lib.hid (words_step (nm := nm) hlt)
        have hln2 : (wordsS nm (l.take j)).length ≤ 1048576 := by rw [words_len hj]; omega
        clear HTK hm ht hsn
        generalize attrT (l.getD j default) = tk at *
        generalize wordsS nm (l.take j) = L at *
        generalize (l.getD j default).fName = an at *
        generalize (l.getD j default).fCircular = cc at *
        have HBA := Lib.hid (show Below w.heap.size w (wr.alloc (.cells #[.string an, .int .i64 (t : Int), .int .i64 (m : Int), .bool cc] 36)) from HBL.out.alloc hsz1 (.cells #[.string an, .int .i64 (t : Int), .int .i64 (m : Int), .bool cc] 36))
        go_wp2_with fail
        refine (HT.out _).mono ?_
        rintro e w2 ⟨rfl, hb⟩
        have HB2 := Lib.hid (show Below w.heap.size w w2 from HBA.out.trans (hb.mono HBA.out.size))
        have HO1 := Lib.hid (own_belowS (HO.out.alloc (.cells #[.string an, .int .i64 (t : Int), .int .i64 (m : Int), .bool cc] 36)) hb)
        have hsz2 : w.heap.size ≤ w2.heap.size := HB2.out.size
        clear hb
        go_wp2_with (at_builtin; refine wpList_append_own _ rfl (.tmp 19) (.tmp 22) 37 rfl (w.heap.size) 9 i0 (.string ⟨#[]⟩) 1 16 Try.underlying37 hi' hz0 hz1 hz2 rfl (by decide) _ _ _ rfl (HO1.out.alloc _) ⟨w2.heap.size, 0, none⟩ 1 1 [.string tk] rfl rfl (cell_one_new _ _ _) (by intro u hu; simp at hu; subst hu; rfl) (by unfold maxLen; omega) (by omega) (by simp <;> omega) ?_; intro v' w3 hown' hgrow hnil)
        have R1 := Lib.hid (grown_one (l := L) (x := tk) (vals := vS) hown' rfl)
        rw [← HST.out] at R1
        have R3 := Lib.hid (show Below w.heap.size w w3 from (HB2.out.alloc hsz2 _).grown hgrow (by simp <;> omega) (fun g hg => (HO1.out.lt g hg).1))
        clear hown' hgrow hnil
        go_wp2
        go_roundw
        case rel => exact ⟨j + 1, by omega, by go_num, R1.out, R3.out⟩
        case measure => simp [intOf]; omega
      · obtain rfl : j = l.length := by omega
        have ho := HO.out
        rw [List.take_length] at ho
        have hsum := words_sum HG.out
        have HZ : ∀ k, ((wordsS nm l).getD k ByteArray.empty).size ≤ 9223372036854775807 := fun k => Nat.le_trans (size_le_sumV _ k) (by omega)
        have hwl : (wordsS nm l).length ≤ 1048576 := by have := words_len (nm := nm) (Nat.le_refl l.length); rw [List.take_length] at this; omega
        have HJ := Lib.hid (impl_Join_own ho HZ ⟨#[32]⟩ (by decide) hwl (by omega))
        rw [show (⟨#[32]⟩ : ByteArray).data.toList = [32] from rfl, FIN.out] at HJ
        clear ho HZ hsum hwl
        go_wp2_with fail
        refine HJ.out.mono ?_
        rintro e w2 ⟨rfl, hb2⟩
        go_wp2
        go_ret
        exact ⟨rfl, HBL.out.trans (hb2.mono hsz1)⟩

set_option maxHeartbeats 3200000 in
set_option maxRecDepth 100000 in
theorem spec_FormatSymbol {lo hi : Nat} {a1 : Option Addr} {c0_0 : Nat} (s : DSymbol) (hok : s.ok) (hsz : s.sz ≤ 1048576) (w : World) (hhi : hi ≤ w.heap.size) (hs : Sl lo hi w 4 s.fAttributes.length (fun k => DAttribute.ct (s.fAttributes.getD k default)) a1) :
    Calls Try.prog 5 #[.agg #[.string s.fName, .slice a1 s.fAttributes.length c0_0]] w fun e w' => e = .returned (.string (fmtSym s.fName s.fAttributes)) ∧ Below w.heap.size w w' := by
  have HB0 := Lib.hid ((Below.refl w.heap.size w).alloc (Nat.le_refl _) (.cells #[.string s.fName, .slice a1 s.fAttributes.length c0_0] 29))
  have HX0 := Lib.hid (show (w.alloc (.cells #[.string s.fName, .slice a1 s.fAttributes.length c0_0] 29)).heap[w.heap.size]? = some (.cells #[.string s.fName, .slice a1 s.fAttributes.length c0_0] 29) from blk_new rfl)
  have HZ0 := Lib.hid (show (w.alloc (.cells #[.string s.fName, .slice a1 s.fAttributes.length c0_0] 29)).heap.size = w.heap.size + 1 by simp)
  have HV := Lib.hid (spec_IsValidSymbol (c0_0 := c0_0) s hok hsz (w.alloc (.cells #[.string s.fName, .slice a1 s.fAttributes.length c0_0] 29)) (Nat.le_trans hhi HB0.out.size) (hs.later HB0.out hhi))
  have HS := Lib.hid hs
  have HHI := Lib.hid hhi
  clear hs hok hsz hhi
  cases hv : symV s.fName s.fAttributes
  · have FIN := Lib.hid (fmtSym_no hv)
    rw [hv] at HV
    clear hv
    generalize fmtSym s.fName s.fAttributes = res at *
    go_enter Try.func5, Try.ntmps5
    go_wp2_with fail
    refine HV.out.mono ?_
    rintro e w1 ⟨rfl, hb1⟩
    have HB1 := Lib.hid (HB0.out.trans (hb1.mono HB0.out.size))
    clear hb1
    go_wp2
    go_ret
    exact ⟨ret_st2 FIN.out.symm, HB1.out⟩
  · have HG := Lib.hid (goodS hv)
    have FIN := Lib.hid ((fmtSym_yes hv).symm)
    rw [hv] at HV
    clear hv
    generalize hl : s.fAttributes = l at *
    generalize hnm : s.fName = nm at *
    clear hl hnm
    generalize fmtSym nm l = res at *
    have hln : l.length ≤ 4 := HG.out.len
    go_enter Try.func5, Try.ntmps5
    go_wp2_with fail
    refine HV.out.mono ?_
    rintro e w1 ⟨rfl, hb1⟩
    have HB1 := Lib.hid (HB0.out.trans (hb1.mono HB0.out.size))
    have HX1 := Lib.hid ((hb1.block w.heap.size (by rw [HZ0.out]; omega)).trans HX0.out)
    have HZ1 := Lib.hid (show w.heap.size + 1 ≤ w1.heap.size by have := hb1.size; rw [HZ0.out] at this; exact this)
    have y0 := pblk_cell (j := 0) (v := .string nm) HX1.out rfl
    have y1 := pblk_cell (j := 1) (v := .slice a1 l.length c0_0) HX1.out rfl
    have hyl : w.heap.size < w1.heap.size := HZ1.out
    clear hb1 HV
    have h7 : (⟨#[115, 121, 109, 98, 111, 108, 32]⟩ : ByteArray).size = 7 := rfl
    have hn8 := HG.out.name
    have hadd9 := fun w' => run_string_add (P := Try.prog) w' ⟨#[115, 121, 109, 98, 111, 108, 32]⟩ nm (by rw [h7]; decide) (by omega)
    clear h7 hn8
    go_wp2
    go_loopw [3, 4] (fun v i wr => ∃ j : Nat, j ≤ l.length ∧ i = .int .i64 (j : Int) ∧ v = .string (outA nm (l.take j)) ∧ Below (w.heap.size + 1) w1 wr) (fun _ i _ => l.length - (intOf i).toNat)
    case atStart => exact ⟨0, Nat.zero_le _, rfl, rfl, Below.refl _ _⟩
    case round =>
      clear y0 y1 hadd9
      obtain ⟨j, hj, rfl, rfl, hbw1⟩ := hrel
      have HBK := Lib.hid hbw1
      have HBL := Lib.hid (show Below w.heap.size w wr from HB1.out.trans (hbw1.mono (Nat.le_succ _)))
      have y1 := (hbw1.cell (p := ⟨w.heap.size, 1, none⟩) (Nat.lt_succ_self _)).trans (pblk_cell (j := 1) (v := .slice a1 l.length c0_0) HX1.out rfl)
      have hsz1 : w.heap.size + 1 ≤ wr.heap.size := Nat.le_trans HZ1.out hbw1.size
      clear hbw1 hyl
      by_cases hlt : j < l.length
      · have hos := outA_size HG.out j hj
        obtain ⟨hsn, ⟨m, hm, hm4⟩, ⟨t, ht, ht5⟩⟩ := HG.out.attr j hlt
        obtain ⟨b, off, rfl, _, hbh, hc⟩ := (HS.out.later HBL.out HHI.out).at j hlt
        obtain ⟨hc0, hc1, hc2, hc3⟩ := DAttribute.open hc
        have hbw : b < w.heap.size := Nat.lt_of_lt_of_le hbh HHI.out
        clear hc
        rw [hm] at hc2
        rw [ht] at hc1
        have HST := Lib.hid (show outA nm (l.take (j + 1)) = if (l.getD j default).fCircular then outW (outA nm (l.take j)) (l.getD j default).fName m t ++ ⟨#[33]⟩ else outW (outA nm (l.take j)) (l.getD j default).fName m t by rw [outA_step hlt]; unfold outS; rw [hm, ht]; rfl)
        generalize outA nm (l.take j) = out at *
        generalize (l.getD j default).fName = an at *
        generalize (l.getD j default).fCircular = cc at *
        clear hm ht
        have han : an.size ≤ 8 := hsn
        have hou : out.size ≤ 200 := by omega
        have hmz := mW_size m
        have htz := tW_size t
        have hz58 : (⟨#[58]⟩ : ByteArray).size = 1 := rfl
        have hz32 : (⟨#[32]⟩ : ByteArray).size = 1 := rfl
        have hz33 : (⟨#[33]⟩ : ByteArray).size = 1 := rfl
        have hadd0 := fun w' => run_string_add (P := Try.prog) w' out ⟨#[32]⟩ (by first | omega | (simp only [sz_app, hz58, hz32]; omega)) (by first | omega | (simp only [hz58, hz32, hz33]; omega))
        have hadd1 := fun w' => run_string_add (P := Try.prog) w' (out ++ ⟨#[32]⟩) an (by first | omega | (simp only [sz_app, hz58, hz32]; omega)) (by first | omega | (simp only [hz58, hz32, hz33]; omega))
        have hadd2 := fun w' => run_string_add (P := Try.prog) w' ((out ++ ⟨#[32]⟩) ++ an) ⟨#[58]⟩ (by first | omega | (simp only [sz_app, hz58, hz32]; omega)) (by first | omega | (simp only [hz58, hz32, hz33]; omega))
        have hadd3 := fun w' => run_string_add (P := Try.prog) w' (((out ++ ⟨#[32]⟩) ++ an) ++ ⟨#[58]⟩) (mW m) (by first | omega | (simp only [sz_app, hz58, hz32]; omega)) (by first | omega | (simp only [hz58, hz32, hz33]; omega))
        have hadd4 := fun w' => run_string_add (P := Try.prog) w' ((((out ++ ⟨#[32]⟩) ++ an) ++ ⟨#[58]⟩) ++ mW m) ⟨#[58]⟩ (by first | omega | (simp only [sz_app, hz58, hz32]; omega)) (by first | omega | (simp only [hz58, hz32, hz33]; omega))
        have hadd5 := fun w' => run_string_add (P := Try.prog) w' (((((out ++ ⟨#[32]⟩) ++ an) ++ ⟨#[58]⟩) ++ mW m) ++ ⟨#[58]⟩) (tW t) (by first | omega | (simp only [sz_app, hz58, hz32]; omega)) (by first | omega | (simp only [hz58, hz32, hz33]; omega))
        have hadd6 := fun w' => run_string_add (P := Try.prog) w' ((((((out ++ ⟨#[32]⟩) ++ an) ++ ⟨#[58]⟩) ++ mW m) ++ ⟨#[58]⟩) ++ tW t) ⟨#[33]⟩ (by first | omega | (simp only [sz_app, hz58, hz32]; omega)) (by first | omega | (simp only [hz58, hz32, hz33]; omega))
        have hmi : (0 : Int) ≤ (m : Int) ∧ (m : Int) < 4 := by omega
        have hti : (0 : Int) ≤ (t : Int) ∧ (t : Int) < 5 := by omega
        clear hz58 hz32 hz33 hmz htz hos hsn han hou
        have HBX := Lib.hid (show (wr.alloc (.cells #[.string an, .int .i64 (t : Int), .int .i64 (m : Int), .bool cc] 36)).heap[wr.heap.size]? = some (.cells #[.string an, .int .i64 (t : Int), .int .i64 (m : Int), .bool cc] 36) from blk_new rfl)
        have HBXL := Lib.hid (show wr.heap.size < (wr.alloc (.cells #[.string an, .int .i64 (t : Int), .int .i64 (m : Int), .bool cc] 36)).heap.size by simp)
        unfold outW at HST
        go_wp2_with fail
        refine wp_region_freeK [([], .none, []), ([0], .none, []), ([], .none, []), ([2], .none, []), ([1, 3], .none, []), ([4], .none, []), ([], .none, []), ([], .none, []), ([7], .none, []), ([6, 8], .none, []), ([6, 9], .none, []), ([5, 10], .none, []), ([11], .none, []), ([], .none, []), ([], .none, []), ([14], .none, []), ([13, 15], .none, []), ([13, 16], .none, []), ([12, 17], .none, []), ([18], .none, [])] [0, 1, 2, 3, 4, 5, 6, 7, 8, 9, 10, 11, 12, 13, 14, 15, 16, 17, 18, 19] [] (fun _ => False) (fun _ => True) (fun _ => 0) (fun jq9 V L H wx => match jq9 with | 0 => V 0 = .string (out) | 1 => V 1 = .string (out ++ ⟨#[32]⟩) | 2 => V 2 = .pointer (some ⟨wr.heap.size, 0, none⟩) | 3 => V 3 = .string (an) | 4 => V 4 = .string ((out ++ ⟨#[32]⟩) ++ an) | 5 => V 5 = .string (((out ++ ⟨#[32]⟩) ++ an) ++ ⟨#[58]⟩) | 6 => V 6 = .slice (some ⟨L, 0, none⟩) 4 4 ∧ wx.heap[L]? = some (.cells #[.string ⟨#[]⟩, .string ⟨#[105, 110, 104]⟩, .string ⟨#[115, 121, 110]⟩, .string ⟨#[99, 111, 108]⟩] 9) ∧ L < H | 7 => V 7 = .pointer (some ⟨wr.heap.size, 2, none⟩) | 8 => V 8 = .int .i64 (m : Int) | 9 => ∃ b9, V 9 = .pointer (some ⟨b9, m, none⟩) ∧ V 6 = .slice (some ⟨b9, 0, none⟩) 4 4 | 10 => V 10 = .string (mW m) | 11 => V 11 = .string ((((out ++ ⟨#[32]⟩) ++ an) ++ ⟨#[58]⟩) ++ mW m) | 12 => V 12 = .string (((((out ++ ⟨#[32]⟩) ++ an) ++ ⟨#[58]⟩) ++ mW m) ++ ⟨#[58]⟩) | 13 => V 13 = .slice (some ⟨L, 0, none⟩) 5 5 ∧ wx.heap[L]? = some (.cells #[.string ⟨#[]⟩, .string ⟨#[110, 117, 109]⟩, .string ⟨#[115, 101, 116]⟩, .string ⟨#[98, 111, 111, 108]⟩, .string ⟨#[110, 111, 100, 101]⟩] 9) ∧ L < H | 14 => V 14 = .pointer (some ⟨wr.heap.size, 1, none⟩) | 15 => V 15 = .int .i64 (t : Int) | 16 => ∃ b16, V 16 = .pointer (some ⟨b16, t, none⟩) ∧ V 13 = .slice (some ⟨b16, 0, none⟩) 5 5 | 17 => V 17 = .string (tW t) | 18 => V 18 = .string ((((((out ++ ⟨#[32]⟩) ++ an) ++ ⟨#[58]⟩) ++ mW m) ++ ⟨#[58]⟩) ++ tW t) | 19 => V 19 = .string ((((((out ++ ⟨#[32]⟩) ++ an) ++ ⟨#[58]⟩) ++ mW m) ++ ⟨#[58]⟩) ++ tW t) | _ => True) (by kernel_rfl) (by kernel_rfl) ?obs (fun _ h => h.elim) trivial (fun _ _ _ _ _ => trivial) ?loc ?lasts ?walk
        case obs =>
          trivial
        case loc =>
          intro k V V' L H wx h0 h1 hG
          match k with
          | 0 =>
            try dsimp only at hG ⊢
            rw [← h0]
            exact hG
          | 1 =>
            try dsimp only at hG ⊢
            rw [← h0]
            exact hG
          | 2 =>
            try dsimp only at hG ⊢
            rw [← h0]
            exact hG
          | 3 =>
            try dsimp only at hG ⊢
            rw [← h0]
            exact hG
          | 4 =>
            try dsimp only at hG ⊢
            rw [← h0]
            exact hG
          | 5 =>
            try dsimp only at hG ⊢
            rw [← h0]
            exact hG
          | 6 =>
            try dsimp only at hG ⊢
            rw [← h0]
            exact hG
          | 7 =>
            try dsimp only at hG ⊢
            rw [← h0]
            exact hG
          | 8 =>
            try dsimp only at hG ⊢
            rw [← h0]
            exact hG
          | 9 =>
            have e6 := h1 6 (by decide)
            try dsimp only at hG ⊢
            rw [← h0, ← e6]
            exact hG
          | 10 =>
            try dsimp only at hG ⊢
            rw [← h0]
            exact hG
          | 11 =>
            try dsimp only at hG ⊢
            rw [← h0]
            exact hG
          | 12 =>
            try dsimp only at hG ⊢
            rw [← h0]
            exact hG
          | 13 =>
            try dsimp only at hG ⊢
            rw [← h0]
            exact hG
          | 14 =>
            try dsimp only at hG ⊢
            rw [← h0]
            exact hG
          | 15 =>
            try dsimp only at hG ⊢
            rw [← h0]
            exact hG
          | 16 =>
            have e13 := h1 13 (by decide)
            try dsimp only at hG ⊢
            rw [← h0, ← e13]
            exact hG
          | 17 =>
            try dsimp only at hG ⊢
            rw [← h0]
            exact hG
          | 18 =>
            try dsimp only at hG ⊢
            rw [← h0]
            exact hG
          | 19 =>
            try dsimp only at hG ⊢
            rw [← h0]
            exact hG
          | n + 20 => trivial
        case lasts =>
          intro i hi V L H wx wy hB hH hk
          match i, hi with
          | 0, _ => exact fun h => h
          | 1, _ => exact fun h => h
          | 2, _ => exact fun h => h
          | 3, _ => exact fun h => h
          | 4, _ => exact fun h => h
          | 5, _ => exact fun h => h
          | 6, _ => exact fun ⟨hv, ho0, ho1⟩ => ⟨hv, (hk.2 L (.inr (.inl ⟨Nat.le_refl _, ho1⟩)) (Nat.lt_of_lt_of_le ho1 hH)).trans ho0, ho1⟩
          | 7, _ => exact fun h => h
          | 8, _ => exact fun h => h
          | 9, _ => exact fun ⟨b9, hv, ho0⟩ => ⟨b9, hv, ho0⟩
          | 10, _ => exact fun h => h
          | 11, _ => exact fun h => h
          | 12, _ => exact fun h => h
          | 13, _ => exact fun ⟨hv, ho0, ho1⟩ => ⟨hv, (hk.2 L (.inr (.inl ⟨Nat.le_refl _, ho1⟩)) (Nat.lt_of_lt_of_le ho1 hH)).trans ho0, ho1⟩
          | 14, _ => exact fun h => h
          | 15, _ => exact fun h => h
          | 16, _ => exact fun ⟨b16, hv, ho0⟩ => ⟨b16, hv, ho0⟩
          | 17, _ => exact fun h => h
          | 18, _ => exact fun h => h
          | 19, _ => exact fun h => h
          | n + 20, hn => exact absurd hn (by simp)
        case walk =>
          simp (maxSteps := 4000000) only [freeK, effK, Nat.reduceAdd, Act.put, List.setIfInBounds_toArray, List.set_cons_succ, List.set_cons_zero]
          refine ⟨?_, ?_, ?_, ?_, ?_, ?_, ?_, ?_, ?_, ?_, ?_, ?_, ?_, ?_, ?_, ?_, ?_, ?_, ?_, ?_, ?_⟩
          · intro V L H wq hw hk hj hd
            clear hd
            go_wp2_with fail
            exact freePost _ rfl ⟨⟨WritesF.refl _ _, hj⟩, upd_self⟩
          · intro V L H wq hw hk hj hd
            obtain ⟨⟨hL0, hM0, hH0, hv0⟩, -⟩ := hd
            rw [hv0]
            have HV0 := Lib.hid hv0
            clear hv0
            go_wp2_with fail
            exact freePost _ rfl ⟨⟨WritesF.refl _ _, hj⟩, upd_self⟩
          · intro V L H wq hw hk hj hd
            clear hd
            go_wp2_with fail
            exact freePost _ rfl ⟨⟨WritesF.refl _ _, hj⟩, upd_self⟩
          · intro V L H wq hw hk hj hd
            obtain ⟨⟨hL2, hM2, hH2, hv2⟩, -⟩ := hd
            rw [hv2]
            have HV2 := Lib.hid hv2
            clear hv2
            have x3 : wq.cell? ⟨wr.heap.size, 0, none⟩ = some (.string an) := (hk.cell (p := ⟨wr.heap.size, 0, none⟩) ⟨HBXL.out, id, trivial⟩ HBXL.out).trans (pblk_cell HBX.out rfl)
            go_wp2_with fail
            exact freePost _ rfl ⟨⟨WritesF.refl _ _, hj⟩, upd_self⟩
          · intro V L H wq hw hk hj hd
            obtain ⟨⟨hL1, hM1, hH1, hv1⟩, ⟨hL3, hM3, hH3, hv3⟩, -⟩ := hd
            rw [hv1, hv3]
            have HV1 := Lib.hid hv1
            have HV3 := Lib.hid hv3
            clear hv1 hv3
            go_wp2_with fail
            exact freePost _ rfl ⟨⟨WritesF.refl _ _, hj⟩, upd_self⟩
          · intro V L H wq hw hk hj hd
            obtain ⟨⟨hL4, hM4, hH4, hv4⟩, -⟩ := hd
            rw [hv4]
            have HV4 := Lib.hid hv4
            clear hv4
            go_wp2_with fail
            exact freePost _ rfl ⟨⟨WritesF.refl _ _, hj⟩, upd_self⟩
          · intro V L H wq hw hk hj hd
            clear hd
            go_wp2_with fail
            refine (spec_l8Modes wq).mono ?_
            rintro e w2 ⟨rfl, rfl⟩
            have hb2 : Below wq.heap.size wq (wq.alloc (.cells #[.string ⟨#[]⟩, .string ⟨#[105, 110, 104]⟩, .string ⟨#[115, 121, 110]⟩, .string ⟨#[99, 111, 108]⟩] 9)) := (Below.refl _ _).alloc (Nat.le_refl _) _
            go_wp2_with fail
            exact freePost _ rfl ⟨⟨(WritesF.refl _ _).later hb2, trivial⟩, And.intro (upd_self) (And.intro (blk_new rfl) ((by simp)))⟩
          · intro V L H wq hw hk hj hd
            clear hd
            go_wp2_with fail
            exact freePost _ rfl ⟨⟨WritesF.refl _ _, hj⟩, upd_self⟩
          · intro V L H wq hw hk hj hd
            obtain ⟨⟨hL7, hM7, hH7, hv7⟩, -⟩ := hd
            rw [hv7]
            have HV7 := Lib.hid hv7
            clear hv7
            have x8 : wq.cell? ⟨wr.heap.size, 2, none⟩ = some (.int .i64 (m : Int)) := (hk.cell (p := ⟨wr.heap.size, 2, none⟩) ⟨HBXL.out, id, trivial⟩ HBXL.out).trans (pblk_cell HBX.out rfl)
            go_wp2_with fail
            exact freePost _ rfl ⟨⟨WritesF.refl _ _, hj⟩, upd_self⟩
          · intro V L H wq hw hk hj hd
            obtain ⟨⟨hL6, hM6, hH6, hv6, ho6_0, ho6_1⟩, ⟨hL8, hM8, hH8, hv8⟩, -⟩ := hd
            rw [hv6, hv8]
            have HV6 := Lib.hid hv6
            have HV8 := Lib.hid hv8
            clear hv6 hv8
            go_wp2_with fail
            exact freePost _ rfl ⟨⟨WritesF.refl _ _, hj⟩, Exists.intro (L 6) (And.intro (upd_self) ((upd_ne (by decide)).trans HV6.out))⟩
          · intro V L H wq hw hk hj hd
            obtain ⟨⟨hL6, hM6, hH6, hv6, ho6_0, ho6_1⟩, ⟨hL9, hM9, hH9, b9, hv9, ho9_0⟩, -⟩ := hd
            have HV6 := Lib.hid hv6
            clear hv6
            rw [hv9]
            have HV9 := Lib.hid hv9
            clear hv9
            have e9 : b9 = L 6 := by have h := ho9_0.symm.trans HV6.out; simp only [Value.slice.injEq, Option.some.injEq, Addr.mk.injEq, and_true] at h; exact h
            subst e9
            have hcl := pblk_cell (j := m) (v := .string (mW m)) ho6_0 (mW_cell hm4)
            clear ho9_0
            go_wp2_with fail
            exact freePost _ rfl ⟨⟨WritesF.refl _ _, hj⟩, upd_self⟩
          · intro V L H wq hw hk hj hd
            obtain ⟨⟨hL5, hM5, hH5, hv5⟩, ⟨hL10, hM10, hH10, hv10⟩, -⟩ := hd
            rw [hv5, hv10]
            have HV5 := Lib.hid hv5
            have HV10 := Lib.hid hv10
            clear hv5 hv10
            go_wp2_with fail
            exact freePost _ rfl ⟨⟨WritesF.refl _ _, hj⟩, upd_self⟩
          · intro V L H wq hw hk hj hd
            obtain ⟨⟨hL11, hM11, hH11, hv11⟩, -⟩ := hd
            rw [hv11]
            have HV11 := Lib.hid hv11
            clear hv11
            go_wp2_with fail
            exact freePost _ rfl ⟨⟨WritesF.refl _ _, hj⟩, upd_self⟩
          · intro V L H wq hw hk hj hd
            clear hd
            go_wp2_with fail
            refine (spec_l8Types wq).mono ?_
            rintro e w2 ⟨rfl, rfl⟩
            have hb2 : Below wq.heap.size wq (wq.alloc (.cells #[.string ⟨#[]⟩, .string ⟨#[110, 117, 109]⟩, .string ⟨#[115, 101, 116]⟩, .string ⟨#[98, 111, 111, 108]⟩, .string ⟨#[110, 111, 100, 101]⟩] 9)) := (Below.refl _ _).alloc (Nat.le_refl _) _
            go_wp2_with fail
            exact freePost _ rfl ⟨⟨(WritesF.refl _ _).later hb2, trivial⟩, And.intro (upd_self) (And.intro (blk_new rfl) ((by simp)))⟩
          · intro V L H wq hw hk hj hd
            clear hd
            go_wp2_with fail
            exact freePost _ rfl ⟨⟨WritesF.refl _ _, hj⟩, upd_self⟩
          · intro V L H wq hw hk hj hd
            obtain ⟨⟨hL14, hM14, hH14, hv14⟩, -⟩ := hd
            rw [hv14]
            have HV14 := Lib.hid hv14
            clear hv14
            have x15 : wq.cell? ⟨wr.heap.size, 1, none⟩ = some (.int .i64 (t : Int)) := (hk.cell (p := ⟨wr.heap.size, 1, none⟩) ⟨HBXL.out, id, trivial⟩ HBXL.out).trans (pblk_cell HBX.out rfl)
            go_wp2_with fail
            exact freePost _ rfl ⟨⟨WritesF.refl _ _, hj⟩, upd_self⟩
          · intro V L H wq hw hk hj hd
            obtain ⟨⟨hL13, hM13, hH13, hv13, ho13_0, ho13_1⟩, ⟨hL15, hM15, hH15, hv15⟩, -⟩ := hd
            rw [hv13, hv15]
            have HV13 := Lib.hid hv13
            have HV15 := Lib.hid hv15
            clear hv13 hv15
            go_wp2_with fail
            exact freePost _ rfl ⟨⟨WritesF.refl _ _, hj⟩, Exists.intro (L 13) (And.intro (upd_self) ((upd_ne (by decide)).trans HV13.out))⟩
          · intro V L H wq hw hk hj hd
            obtain ⟨⟨hL13, hM13, hH13, hv13, ho13_0, ho13_1⟩, ⟨hL16, hM16, hH16, b16, hv16, ho16_0⟩, -⟩ := hd
            have HV13 := Lib.hid hv13
            clear hv13
            rw [hv16]
            have HV16 := Lib.hid hv16
            clear hv16
            have e9 : b16 = L 13 := by have h := ho16_0.symm.trans HV13.out; simp only [Value.slice.injEq, Option.some.injEq, Addr.mk.injEq, and_true] at h; exact h
            subst e9
            have hcl := pblk_cell (j := t) (v := .string (tW t)) ho13_0 (tW_cell ht5)
            clear ho16_0
            go_wp2_with fail
            exact freePost _ rfl ⟨⟨WritesF.refl _ _, hj⟩, upd_self⟩
          · intro V L H wq hw hk hj hd
            obtain ⟨⟨hL12, hM12, hH12, hv12⟩, ⟨hL17, hM17, hH17, hv17⟩, -⟩ := hd
            rw [hv12, hv17]
            have HV12 := Lib.hid hv12
            have HV17 := Lib.hid hv17
            clear hv12 hv17
            go_wp2_with fail
            exact freePost _ rfl ⟨⟨WritesF.refl _ _, hj⟩, upd_self⟩
          · intro V L H wq hw hk hj hd
            obtain ⟨⟨hL18, hM18, hH18, hv18⟩, -⟩ := hd
            rw [hv18]
            have HV18 := Lib.hid hv18
            clear hv18
            go_wp2_with fail
            exact freePost _ rfl ⟨⟨WritesF.refl _ _, hj⟩, upd_self⟩
          · intro V L H wq hw hj hd hap hdead
            obtain ⟨⟨hL0, hM0, hH0, hv0⟩, ⟨hL1, hM1, hH1, hv1⟩, ⟨hL2, hM2, hH2, hv2⟩, ⟨hL3, hM3, hH3, hv3⟩, ⟨hL4, hM4, hH4, hv4⟩, ⟨hL5, hM5, hH5, hv5⟩, ⟨hL6, hM6, hH6, hv6, ho6_0, ho6_1⟩, ⟨hL7, hM7, hH7, hv7⟩, ⟨hL8, hM8, hH8, hv8⟩, ⟨hL9, hM9, hH9, b9, hv9, ho9_0⟩, ⟨hL10, hM10, hH10, hv10⟩, ⟨hL11, hM11, hH11, hv11⟩, ⟨hL12, hM12, hH12, hv12⟩, ⟨hL13, hM13, hH13, hv13, ho13_0, ho13_1⟩, ⟨hL14, hM14, hH14, hv14⟩, ⟨hL15, hM15, hH15, hv15⟩, ⟨hL16, hM16, hH16, b16, hv16, ho16_0⟩, ⟨hL17, hM17, hH17, hv17⟩, ⟨hL18, hM18, hH18, hv18⟩, ⟨hL19, hM19, hH19, hv19⟩, -⟩ := hd
            rw [hv0, hv1, hv2, hv3, hv4, hv5, hv6, hv7, hv8, hv9, hv10, hv11, hv12, hv13, hv14, hv15, hv16, hv17, hv18, hv19]
            clear hv0 hv1 hv2 hv3 hv4 hv5 hv6 hv7 hv8 hv9 hv10 hv11 hv12 hv13 hv14 hv15 hv16 hv17 hv18 hv19
            have HW1 := Lib.hid (fa_noneK hw)
            have HB4 := Lib.hid (show Below (w.heap.size + 1) w1 wq from (HBK.out.alloc hsz1 (.cells #[.string an, .int .i64 (t : Int), .int .i64 (m : Int), .bool cc] 36)).trans (HW1.out.mono (by simp; omega)))
            have x3 := (HW1.out.cell (p := ⟨wr.heap.size, 3, none⟩) HBXL.out).trans (pblk_cell (j := 3) (v := .bool cc) HBX.out rfl)
            clear hw hap hdead
            cases cc
            · go_wp2
              go_roundw
              case rel => exact ⟨j + 1, by omega, by go_num, congrArg Value.string HST.out.symm, HB4.out⟩
              case measure => simp [intOf]; omega
            · go_wp2
              go_roundw
              case rel => exact ⟨j + 1, by omega, by go_num, congrArg Value.string HST.out.symm, HB4.out⟩
              case measure => simp [intOf]; omega
      · obtain rfl : j = l.length := by omega
        have HF2 := Lib.hid (show outA nm (l.take l.length) = res by rw [List.take_length]; exact FIN.out)
        go_wp2
        go_ret
        exact ⟨ret_st2 HF2.out, HBL.out⟩
end Go.Proofs.Yteeehpldkhceoaa
