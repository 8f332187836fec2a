/-
  LastUse of the model.
-/
import Derived.Test.YtopcpgbhmnlcnaaLastUse
import Derived.Test.YtopcpgbhmnlcnaaInR
namespace Go.Proofs.Ytopcpgbhmnlcnaa
open Go.ChangeShapes Go.WideShapes Go.ChangeAt Go.RowKit Go.Deep

theorem lastM_zero (tr : List DTraceStep) (x : DInstance) (k : Nat) : max (k : Int) (lastI tr x (k + 1)) = (k : Int) := by
  have h := lastI_le tr x (k + 1)
  omega
theorem lastM_yes {tr : List DTraceStep} {x : DInstance} {k j : Nat} (h : hasI (tr.getD j default).fInputs x = true) (hk : k < j) : max (k : Int) (lastI tr x (j + 1)) = (j : Int) := by
  have e : lastI tr x (j + 1) = (j : Int) := by show (if _ then _ else _) = _; rw [if_pos h]
  omega
theorem lastM_no {tr : List DTraceStep} {x : DInstance} {k j : Nat} (h : hasI (tr.getD j default).fInputs x = false) : max (k : Int) (lastI tr x (j + 1)) = max (k : Int) (lastI tr x j) := by
  have e : lastI tr x (j + 1) = lastI tr x j := by show (if _ then _ else _) = _; rw [if_neg (by rw [h]; decide)]
  rw [e]

set_option maxHeartbeats 6400000 in
set_option maxRecDepth 100000 in
theorem spec_LastUseU {lo hi : Nat} {aT : Option Addr} {cT : Nat} (tr : List DTraceStep) (hn : tr.length ≤ 1048576) (hin : ∀ k, k < tr.length → (tr.getD k default).fInputs.length ≤ 1048576) (w : World) (hhi : hi ≤ w.heap.size) (hs : Sl lo hi w 3 tr.length (fun k => DTraceStep.ct (tr.getD k default)) aT) (i : Int) (hiw : -9223372036854775808 ≤ i ∧ i ≤ 9223372036854775807) :
    Calls Try.prog 7 #[.slice aT tr.length cT, .int .i64 i] w fun e w' => e = .returned (.int .i64 (lastUse tr i)) ∧ Below w.heap.size w w' := by
  by_cases hii : 0 ≤ i ∧ i < tr.length
  · obtain ⟨k, rfl⟩ : ∃ k : Nat, i = (k : Int) := ⟨i.toNat, by omega⟩
    have hk : k < tr.length := by omega
    have HS := Lib.hid (fun (W : World) (hW : Below w.heap.size w W) => hs.later hW hhi)
    have HIN := Lib.hid hin
    have HHI := Lib.hid hhi
    have HR := Lib.hid (show inR (k : Int) 0 ((tr.length : Int) - 1) = true by unfold inR; simp; omega)
    have HL := Lib.hid (show lastUse tr (k : Int) = max (k : Int) (lastI tr (tr.getD k default).fAt tr.length) from lastUse_in hk)
    have HM0 := Lib.hid (lastM_zero tr (tr.getD k default).fAt k)
    clear hin hs hhi
    have hkI : (0 : Int) ≤ (k : Int) ∧ (k : Int) < (tr.length : Int) := by omega
    go_enter Try.func7, Try.ntmps7
    go_wp2_with fail
    refine (spec_l1In (k : Int) 0 ((tr.length : Int) - 1) w).mono ?_
    rintro e w' ⟨rfl, rfl⟩
    rw [HR.out]
    go_wp2
    go_loopw [5, 6] (fun l i wr => ∃ j : Nat, k < j ∧ j ≤ tr.length ∧ i = .int .i64 (j : Int) ∧ l = .int .i64 (max (k : Int) (lastI tr (tr.getD k default).fAt j)) ∧ Below w.heap.size w wr) (fun _ i _ => tr.length - (intOf i).toNat)
    case atStart => exact ⟨k + 1, by omega, by omega, by go_num, by rw [HM0.out], Below.refl _ _⟩
    case round =>
      obtain ⟨j, hkj, hj, rfl, rfl, hb⟩ := hrel
      have HB := Lib.hid hb
      have HSW := Lib.hid (HS.out wr hb)
      clear hb
      by_cases hlt : j < tr.length
      · obtain ⟨bt, off, rfl, _, hbt, hc⟩ := HSW.out.at j hlt
        obtain ⟨bt', off', he, _, _, hc'⟩ := HSW.out.at k hk
        cases he
        obtain ⟨a2, c2, h0, h1, h2, hsin⟩ := DTraceStep.open hc
        obtain ⟨a2', c2', h0', h1', h2', _⟩ := DTraceStep.open hc'
        have HC2 := Lib.hid h2
        have HC0' := Lib.hid h0'
        have HC1' := Lib.hid h1'
        have HSI := Lib.hid hsin
        have HIJ := Lib.hid (HIN.out j hlt)
        have HX1 := Lib.hid (fun h => lastM_yes (tr := tr) (x := (tr.getD k default).fAt) (k := k) (j := j) h hkj)
        have HX0 := Lib.hid (fun h => lastM_no (tr := tr) (x := (tr.getD k default).fAt) (k := k) (j := j) h)
        have hjI : (0 : Int) ≤ (j : Int) ∧ (j : Int) < (tr.length : Int) := by omega
        have hsz := HB.out.size
        have HLT := Lib.hid (show bt < wr.heap.size by have := HHI.out; omega)
        have HHW := Lib.hid (show hi ≤ wr.heap.size by have := HHI.out; omega)
        clear hc hc' h0 h1 h2 h0' h1' h2' hsin HSW hbt
        generalize hl1 : max (k : Int) (lastI tr (tr.getD k default).fAt (j + 1)) = m1 at HX1 HX0
        have HM1 := Lib.hid hl1
        generalize max (k : Int) (lastI tr (tr.getD k default).fAt j) = m0 at HX0 ⊢
        clear hl1
        have HIX := Lib.hid (⟨_, rfl⟩ : ∃ ins, (tr.getD j default).fInputs = ins)
        generalize (tr.getD j default).fInputs = ins at *
        generalize hx : (tr.getD k default).fAt = x at *
        have HXE := Lib.hid hx
        clear hx HIX
        go_wp2
        refine wp_region_freeK [([], .none, []), ([], .none, []), ([0, 1], .none, []), ([2], .none, []), ([3], .none, []), ([], .none, []), ([], .none, []), ([5, 6], .none, []), ([7], .none, []), ([8], .none, []), ([4, 9], .none, [])] [0, 1, 2, 3, 4, 5, 6, 7, 8, 9, 10] [] (fun _ => False) (fun _ => True) (fun _ => 0) (fun jq9 V L H wx => match jq9 with | 0 => V 0 = .slice (some ⟨bt, off, none⟩) tr.length cT | 1 => V 1 = .int .i64 (j : Int) | 2 => V 2 = .pointer (some ⟨bt, off + j * 3, none⟩) | 3 => V 3 = .pointer (some ⟨bt, off + j * 3 + 2, none⟩) | 4 => V 4 = .slice a2 ins.length c2 | 5 => V 5 = .slice (some ⟨bt, off, none⟩) tr.length cT | 6 => V 6 = .int .i64 (k : Int) | 7 => V 7 = .pointer (some ⟨bt, off + k * 3, none⟩) | 8 => V 8 = .pointer (some ⟨bt, off + k * 3, none⟩) | 9 => V 9 = .agg #[.int .i64 x.fNode, .string x.fName] | 10 => V 10 = .bool (hasI ins x) | _ => True) (by kernel_rfl) (by kernel_rfl) ?obs (fun _ h => h.elim) trivial (fun _ _ _ _ _ => trivial) ?loc ?lasts ?walk
        case obs =>
          trivial
        case loc =>
          intro k V V' L H wx h0 h1 hG
          match k with
          | 0 =>
            try dsimp only at hG ⊢
            rw [← h0]
            exact hG
          | 1 =>
            try dsimp only at hG ⊢
            rw [← h0]
            exact hG
          | 2 =>
            try dsimp only at hG ⊢
            rw [← h0]
            exact hG
          | 3 =>
            try dsimp only at hG ⊢
            rw [← h0]
            exact hG
          | 4 =>
            try dsimp only at hG ⊢
            rw [← h0]
            exact hG
          | 5 =>
            try dsimp only at hG ⊢
            rw [← h0]
            exact hG
          | 6 =>
            try dsimp only at hG ⊢
            rw [← h0]
            exact hG
          | 7 =>
            try dsimp only at hG ⊢
            rw [← h0]
            exact hG
          | 8 =>
            try dsimp only at hG ⊢
            rw [← h0]
            exact hG
          | 9 =>
            try dsimp only at hG ⊢
            rw [← h0]
            exact hG
          | 10 =>
            try dsimp only at hG ⊢
            rw [← h0]
            exact hG
          | n + 11 => trivial
        case lasts =>
          intro i hi V L H wx wy hB hH hk
          match i, hi with
          | 0, _ => exact fun h => h
          | 1, _ => exact fun h => h
          | 2, _ => exact fun h => h
          | 3, _ => exact fun h => h
          | 4, _ => exact fun h => h
          | 5, _ => exact fun h => h
          | 6, _ => exact fun h => h
          | 7, _ => exact fun h => h
          | 8, _ => exact fun h => h
          | 9, _ => exact fun h => h
          | 10, _ => exact fun h => h
          | n + 11, hn => exact absurd hn (by simp)
        case walk =>
          simp (maxSteps := 4000000) only [freeK, Nat.reduceAdd, Act.put, List.setIfInBounds_toArray, List.set_cons_succ, List.set_cons_zero]
          refine ⟨?_, ?_, ?_, ?_, ?_, ?_, ?_, ?_, ?_, ?_, ?_, ?_⟩
          · intro V L H wq hw hk hj hd
            clear hd
            go_wp2_with fail
            exact freePost _ rfl ⟨⟨WritesF.refl _ _, hj⟩, upd_self⟩
          · intro V L H wq hw hk hj hd
            clear hd
            go_wp2_with fail
            exact freePost _ rfl ⟨⟨WritesF.refl _ _, hj⟩, upd_self⟩
          · intro V L H wq hw hk hj hd
            obtain ⟨⟨hL0, hM0, hH0, hv0⟩, ⟨hL1, hM1, hH1, hv1⟩, -⟩ := hd
            rw [hv0, hv1]
            have HV0 := Lib.hid hv0
            have HV1 := Lib.hid hv1
            clear hv0 hv1
            go_wp2_with fail
            exact freePost _ rfl ⟨⟨WritesF.refl _ _, hj⟩, upd_self⟩
          · intro V L H wq hw hk hj hd
            obtain ⟨⟨hL2, hM2, hH2, hv2⟩, -⟩ := hd
            rw [hv2]
            have HV2 := Lib.hid hv2
            clear hv2
            go_wp2_with fail
            exact freePost _ rfl ⟨⟨WritesF.refl _ _, hj⟩, upd_self⟩
          · intro V L H wq hw hk hj hd
            obtain ⟨⟨hL3, hM3, hH3, hv3⟩, -⟩ := hd
            rw [hv3]
            have HV3 := Lib.hid hv3
            clear hv3
            have r2 : wq.cell? ⟨bt, off + j * 3 + 2, none⟩ = some (.slice a2 ins.length c2) := (hk.cell (p := ⟨bt, off + j * 3 + 2, none⟩) ⟨HLT.out, id, trivial⟩ HLT.out).trans (HC2.out)
            go_wp2_with fail
            exact freePost _ rfl ⟨⟨WritesF.refl _ _, hj⟩, upd_self⟩
          · intro V L H wq hw hk hj hd
            clear hd
            go_wp2_with fail
            exact freePost _ rfl ⟨⟨WritesF.refl _ _, hj⟩, upd_self⟩
          · intro V L H wq hw hk hj hd
            clear hd
            go_wp2_with fail
            exact freePost _ rfl ⟨⟨WritesF.refl _ _, hj⟩, upd_self⟩
          · intro V L H wq hw hk hj hd
            obtain ⟨⟨hL5, hM5, hH5, hv5⟩, ⟨hL6, hM6, hH6, hv6⟩, -⟩ := hd
            rw [hv5, hv6]
            have HV5 := Lib.hid hv5
            have HV6 := Lib.hid hv6
            clear hv5 hv6
            go_wp2_with fail
            exact freePost _ rfl ⟨⟨WritesF.refl _ _, hj⟩, upd_self⟩
          · intro V L H wq hw hk hj hd
            obtain ⟨⟨hL7, hM7, hH7, hv7⟩, -⟩ := hd
            rw [hv7]
            have HV7 := Lib.hid hv7
            clear hv7
            go_wp2_with fail
            exact freePost _ rfl ⟨⟨WritesF.refl _ _, hj⟩, upd_self⟩
          · intro V L H wq hw hk hj hd
            obtain ⟨⟨hL8, hM8, hH8, hv8⟩, -⟩ := hd
            rw [hv8]
            have HV8 := Lib.hid hv8
            clear hv8
            have r0 : wq.cell? ⟨bt, off + k * 3, none⟩ = some (.int .i64 x.fNode) := (hk.cell (p := ⟨bt, off + k * 3, none⟩) ⟨HLT.out, id, trivial⟩ HLT.out).trans (HC0'.out)
            have r1 : wq.cell? ⟨bt, off + k * 3 + 1, none⟩ = some (.string x.fName) := (hk.cell (p := ⟨bt, off + k * 3 + 1, none⟩) ⟨HLT.out, id, trivial⟩ HLT.out).trans (HC1'.out)
            go_wp2_with fail
            exact freePost _ rfl ⟨⟨WritesF.refl _ _, hj⟩, upd_self⟩
          · intro V L H wq hw hk hj hd
            obtain ⟨⟨hL4, hM4, hH4, hv4⟩, ⟨hL9, hM9, hH9, hv9⟩, -⟩ := hd
            rw [hv4, hv9]
            have HV4 := Lib.hid hv4
            have HV9 := Lib.hid hv9
            clear hv4 hv9
            have hk1 := hk.1
            go_wp2_with fail
            refine (spec_l31Has (c0 := c2) ins HIJ.out x wq (Nat.le_trans HHW.out hk1) (HSI.out.frame fun b9 o9 h1 h2 => hk.cell (p := ⟨b9, o9, none⟩) ⟨(show b9 < wr.heap.size by have := HHW.out; omega), id, trivial⟩ (show b9 < wr.heap.size by have := HHW.out; omega))).mono ?_
            rintro e w2 ⟨rfl, hb2⟩
            go_wp2_with fail
            exact freePost _ rfl ⟨⟨(WritesF.refl _ _).later hb2, trivial⟩, upd_self⟩
          · intro V L H wq hw hj hd hap hdead
            obtain ⟨⟨hL0, hM0, hH0, hv0⟩, ⟨hL1, hM1, hH1, hv1⟩, ⟨hL2, hM2, hH2, hv2⟩, ⟨hL3, hM3, hH3, hv3⟩, ⟨hL4, hM4, hH4, hv4⟩, ⟨hL5, hM5, hH5, hv5⟩, ⟨hL6, hM6, hH6, hv6⟩, ⟨hL7, hM7, hH7, hv7⟩, ⟨hL8, hM8, hH8, hv8⟩, ⟨hL9, hM9, hH9, hv9⟩, ⟨hL10, hM10, hH10, hv10⟩, -⟩ := hd
            rw [hv0, hv1, hv2, hv3, hv4, hv5, hv6, hv7, hv8, hv9, hv10]
            clear hv0 hv1 hv2 hv3 hv4 hv5 hv6 hv7 hv8 hv9 hv10
            have HW := Lib.hid (HB.out.trans ((fa_noneK hw).mono HB.out.size))
            clear hw hj hap hdead
            by_cases hh : hasI ins x = true
            · have HE := Lib.hid (HX1.out hh)
              rw [hh] at *
              go_wp2
              go_roundw
              case rel => exact ⟨j + 1, by omega, by omega, by go_num, by first | rw [HM1.out, HE.out] | rw [HXE.out, HM1.out, HE.out], HW.out⟩
              case measure => simp [intOf]; omega
            · have hf : hasI ins x = false := by simpa using hh
              have HE := Lib.hid (HX0.out hf)
              rw [hf] at *
              go_wp2
              go_roundw
              case rel => exact ⟨j + 1, by omega, by omega, by go_num, by first | rw [HM1.out, HE.out] | rw [HXE.out, HM1.out, HE.out], HW.out⟩
              case measure => simp [intOf]; omega
      · obtain rfl : j = tr.length := by omega
        go_wp2
        go_ret
        exact ⟨congrArg (fun z => Ending.returned (Value.int .i64 z)) HL.out.symm, HB.out⟩
  · have HL := Lib.hid (lastUse_out (tr := tr) (i := i) hii)
    have HR := Lib.hid (show inR i 0 ((tr.length : Int) - 1) = false by unfold inR; simp; omega)
    clear hin hs
    go_enter Try.func7, Try.ntmps7
    go_wp2_with fail
    refine (spec_l1In i 0 ((tr.length : Int) - 1) w).mono ?_
    rintro e w' ⟨rfl, rfl⟩
    rw [HR.out]
    go_wp2
    go_ret
    exact ⟨congrArg (fun z => Ending.returned (Value.int .i64 z)) HL.out.symm, Below.refl _ _⟩
end Go.Proofs.Ytopcpgbhmnlcnaa
