/-
  CheckSlots of the model.
-/
import Derived.Test.YtopcpgbhmnlcnaaCheckS
namespace Go.Proofs.Ytopcpgbhmnlcnaa
open Go.ChangeShapes Go.WideShapes Go.ChangeAt Go.RowKit Go.Deep

theorem goodI_lu {tr : List DTraceStep} {kp : List DInstance} {cs : List Int} {m k : Nat} (hm : m < k) (he : cs.getD m default = cs.getD k default) (hn : tr.length ≤ 1048576) (hk : k < tr.length) (h : (k : Int) < lastU tr m) : ¬ goodI tr kp cs k := fun hh => by
  have h1 := hh.2 m hm he
  have h2 := freeT_gt tr kp (j := m) hk hn
  rw [decide_eq_true h, Bool.true_or, decide_eq_true_eq] at h2
  omega
theorem goodI_has {tr : List DTraceStep} {kp : List DInstance} {cs : List Int} {m k : Nat} (hm : m < k) (he : cs.getD m default = cs.getD k default) (hn : tr.length ≤ 1048576) (hk : k < tr.length) (h : hasI kp (tr.getD m default).fAt = true) : ¬ goodI tr kp cs k := fun hh => by
  have h1 := hh.2 m hm he
  have h2 := freeT_gt tr kp (j := m) hk hn
  rw [h, Bool.or_true, decide_eq_true_eq] at h2
  omega
theorem freeT_le {tr : List DTraceStep} {kp : List DInstance} {m k : Nat} (hn : tr.length ≤ 1048576) (hk : k < tr.length) (h1 : lastU tr m ≤ k) (h2 : hasI kp (tr.getD m default).fAt = false) : freeT tr kp m ≤ k := by
  have h := freeT_gt tr kp (j := m) hk hn
  rw [h2, Bool.or_false, show decide ((k : Int) < lastU tr m) = false from decide_eq_false (by omega), decide_eq_false_iff_not] at h
  omega

set_option maxHeartbeats 12800000 in
set_option maxRecDepth 100000 in
theorem spec_CheckSlotsU {lo hi : Nat} {aT aK aC : Option Addr} {cT cK cC : Nat} (tr : List DTraceStep) (hn : tr.length ≤ 1048576) (hin : ∀ k, k < tr.length → (tr.getD k default).fInputs.length ≤ 1048576) (kp : List DInstance) (hkn : kp.length ≤ 1048576) (cs : List Int) (w : World) (hhi : hi ≤ w.heap.size) (hs : Sl lo hi w 3 tr.length (fun k => DTraceStep.ct (tr.getD k default)) aT) (hsk : Sl lo hi w 2 kp.length (fun k => DInstance.ct (kp.getD k default)) aK) (hsc : Sl lo hi w 1 cs.length (fun k => ictI (cs.getD k default)) aC) :
    Calls Try.prog 12 #[.slice aT tr.length cT, .slice aK kp.length cK, .slice aC cs.length cC] w fun e w' => e = .returned (.bool (checkS tr kp cs)) ∧ Below w.heap.size w w' := by
  by_cases hlen : cs.length = tr.length
  · have HSC := Lib.hid (fun (W : World) (hW : Below w.heap.size w W) => hsc.later hW hhi)
    have HST := Lib.hid (fun (W : World) (hW : Below w.heap.size w W) => hs.later hW hhi)
    have HSK := Lib.hid (fun (W : World) (hW : Below w.heap.size w W) => hsk.later hW hhi)
    have HLU := Lib.hid (fun (m : Nat) (hm : m < tr.length) (W : World) (hh : hi ≤ W.heap.size) (h : Sl lo hi W 3 tr.length (fun k => DTraceStep.ct (tr.getD k default)) aT) => (show Calls Try.prog 7 #[.slice aT tr.length cT, .int .i64 (m : Int)] W fun e w' => e = .returned (.int .i64 (lastU tr m)) ∧ Below W.heap.size W w' from by
      have h9 := spec_LastUseU (cT := cT) tr hn hin W hh h (m : Int) ⟨by omega, by omega⟩
      rw [lastUse_in hm] at h9
      exact h9))
    have HHS := Lib.hid (fun (x : DInstance) (W : World) (hh : hi ≤ W.heap.size) (h : Sl lo hi W 2 kp.length (fun k => DInstance.ct (kp.getD k default)) aK) => spec_l31Has (c0 := cK) kp hkn x W hh h)
    have HNN := Lib.hid hn
    have HHI := Lib.hid hhi
    have HLEN := Lib.hid hlen
    have e1 : ((cs.length : Int) != (tr.length : Int)) = false := by rw [hlen]; simp
    clear hs hsk hsc hin hhi hlen
    go_enter Try.func12, Try.ntmps12
    go_wp2
    clear e1
    go_loopw [7] (fun i wr => ∃ k : Nat, k ≤ cs.length ∧ i = .int .i64 (k : Int) ∧ (∀ q, q < k → goodI tr kp cs q) ∧ Below w.heap.size w wr) (fun i _ => cs.length - (intOf i).toNat)
    case atStart => exact ⟨0, Nat.zero_le _, rfl, fun _ h => absurd h (Nat.not_lt_zero _), Below.refl _ _⟩
    case round =>
      obtain ⟨k, hk, rfl, hg, hb⟩ := hrel
      obtain ⟨wo, rfl⟩ : ∃ wo : World, wo = wr := ⟨_, rfl⟩
      have HG := Lib.hid hg
      have HB := Lib.hid hb
      clear hg hb
      by_cases hlt : k < cs.length
      · have hkt : k < tr.length := by have := HLEN.out; omega
        obtain ⟨bc, offc, rfl, _, hbc, hc⟩ := (HSC.out wo HB.out).at k hlt
        obtain ⟨u, hcu, hlu⟩ := hc 0 (by decide)
        have hcs : wo.cell? ⟨bc, offc + k, none⟩ = some (.int .i64 (cs.getD k default)) := by rw [← lies_lit hlu]; simpa using hcu
        have HKZ := Lib.hid hcs
        have hkI : (0 : Int) ≤ (k : Int) ∧ (k : Int) < (cs.length : Int) := by omega
        have HGN := Lib.hid (fun h0 => checkS_bad hkt (goodI_neg (tr := tr) (kp := kp) (cs := cs) (k := k) h0))
        clear hc hcu hlu
        generalize hz : cs.getD k default = z at hcs HKZ HGN
        have HZE := Lib.hid hz
        clear hz
        by_cases hneg : z < 0
        · have HE := Lib.hid (HGN.out hneg)
          go_wp2
          go_ret
          exact ⟨congrArg (fun q => Ending.returned (Value.bool q)) HE.out.symm, HB.out⟩
        · have hnn : 0 ≤ z := by omega
          have HBH := Lib.hid hbc
          go_wp2
          clear hcs
          go_loopw [8] (fun i wr => ∃ m : Nat, m ≤ k ∧ i = .int .i64 (m : Int) ∧ (∀ q, q < m → cs.getD q default = cs.getD k default → freeT tr kp q ≤ k) ∧ Below w.heap.size w wr) (fun i _ => k - (intOf i).toNat)
          case atStart => exact ⟨0, Nat.zero_le _, rfl, fun _ h => absurd h (Nat.not_lt_zero _), HB.out⟩
          case round =>
            obtain ⟨m, hmk, rfl, hq, hb⟩ := hrel
            have HQ := Lib.hid hq
            have HBR := Lib.hid hb
            clear hq hb
            by_cases hlm : m < k
            · have hmc : m < cs.length := by omega
              have hmt : m < tr.length := by have := HLEN.out; omega
              have hszr := HBR.out.size
              have hiw := HHI.out
              have HHW := Lib.hid (show hi ≤ wr.heap.size by omega)
              have HSCR := Lib.hid (HSC.out wr HBR.out)
              have HSTR := Lib.hid (HST.out wr HBR.out)
              have HSKR := Lib.hid (HSK.out wr HBR.out)
              obtain ⟨bc', offc', he, _, _, hc⟩ := HSCR.out.at m hmc
              cases he
              obtain ⟨u, hcu, hlu⟩ := hc 0 (by decide)
              have HCM := Lib.hid (show wr.cell? ⟨bc, offc + m, none⟩ = some (.int .i64 (cs.getD m default)) by rw [← lies_lit hlu]; simpa using hcu)
              obtain ⟨bc', offc', he, _, _, hc'⟩ := HSCR.out.at k hlt
              cases he
              obtain ⟨u', hcu', hlu'⟩ := hc' 0 (by decide)
              have HCK := Lib.hid (show wr.cell? ⟨bc, offc + k, none⟩ = some (.int .i64 z) by rw [← HZE.out, ← lies_lit hlu']; simpa using hcu')
              have hmI : (0 : Int) ≤ (m : Int) ∧ (m : Int) < (cs.length : Int) ∧ (m : Int) < (tr.length : Int) := by have := HLEN.out; omega
              have HLTC := Lib.hid (show bc < wr.heap.size by omega)
              have HLUM := Lib.hid (HLU.out m hmt)
              have hmkI : (m : Int) < (k : Int) := by omega
              clear hc hcu hlu hc' hcu' hlu' HSCR hszr hiw hbc HLU
              by_cases hyz : cs.getD m default = z
              · have HY := Lib.hid (hyz.trans HZE.out.symm)
                rw [hyz] at HCM
                clear hyz
                obtain ⟨bt, off, rfl, _, hbt, hc⟩ := HSTR.out.at m hmt
                obtain ⟨a2, c2, h0, h1, h2, _⟩ := DTraceStep.open hc
                have HX0 := Lib.hid h0
                have HX1 := Lib.hid h1
                have HLTT := Lib.hid (show bt < wr.heap.size by have := HHW.out; omega)
                have HBL := Lib.hid (fun h => checkS_bad hkt (goodI_lu (kp := kp) hlm HY.out HNN.out hkt h))
                have HBS := Lib.hid (fun h => checkS_bad hkt (goodI_has (kp := kp) (cs := cs) hlm HY.out HNN.out hkt h))
                have HFL := Lib.hid (fun h1 h2 => freeT_le (tr := tr) (kp := kp) (m := m) HNN.out hkt h1 h2)
                clear hc h0 h1 h2 hbt
                generalize hlu : lastU tr m = lu at *
                have HLE := Lib.hid hlu
                clear hlu
                generalize (tr.getD m default).fAt = x at *
                by_cases hgt : (k : Int) < lu
                · have HE := Lib.hid (HBL.out hgt)
                  go_wp2
                  refine wp_region_freeK [([], .none, []), ([], .none, []), ([0, 1], .none, []), ([2], .none, []), ([], .none, []), ([], .none, []), ([4, 5], .none, []), ([6], .none, []), ([3, 7], .none, []), ([8], .none, []), ([9], .none, []), ([9], .none, []), ([9, 10, 11], .none, []), ([9], .none, []), ([9, 12, 13], .none, []), ([9, 14], .none, []), ([15], .none, []), ([15], .none, []), ([15], .none, []), ([15], .none, []), ([15], .none, []), ([15], .none, []), ([15], .none, []), ([9, 15, 22], .none, []), ([9, 23], .none, [])] [0, 1, 2, 3, 4, 5, 6, 7, 8, 9, 10, 11, 12, 13, 14, 15, 16, 17, 18, 19, 20, 21, 22, 23, 24] [] (fun _ => False) (fun _ => True) (fun _ => 0) (fun jq9 V L H wx => match jq9 with | 0 => V 0 = .slice (some ⟨bc, offc, none⟩) cs.length cC | 1 => V 1 = .int .i64 (m : Int) | 2 => V 2 = .pointer (some ⟨bc, offc + m, none⟩) | 3 => V 3 = .int .i64 z | 4 => V 4 = .slice (some ⟨bc, offc, none⟩) cs.length cC | 5 => V 5 = .int .i64 (k : Int) | 6 => V 6 = .pointer (some ⟨bc, offc + k, none⟩) | 7 => V 7 = .int .i64 z | 8 => V 8 = .bool true | 9 => V 9 = .bool true | 10 => V 10 = .slice (some ⟨bt, off, none⟩) tr.length cT | 11 => V 11 = .int .i64 (m : Int) | 12 => V 12 = .int .i64 lu | 13 => V 13 = .int .i64 (k : Int) | 14 => V 14 = .bool true | 15 => V 15 = .bool true | 16 => V 16 = undef | 17 => V 17 = undef | 18 => V 18 = undef | 19 => V 19 = undef | 20 => V 20 = undef | 21 => V 21 = undef | 22 => V 22 = undef | 23 => V 23 = .bool true | 24 => V 24 = .bool true | _ => True) (by kernel_rfl) (by kernel_rfl) ?obs (fun _ h => h.elim) trivial (fun _ _ _ _ _ => trivial) ?loc ?lasts ?walk
                  case obs =>
                    trivial
                  case loc =>
                    intro k V V' L H wx h0 h1 hG
                    match k with
                    | 0 =>
                      try dsimp only at hG ⊢
                      rw [← h0]
                      exact hG
                    | 1 =>
                      try dsimp only at hG ⊢
                      rw [← h0]
                      exact hG
                    | 2 =>
                      try dsimp only at hG ⊢
                      rw [← h0]
                      exact hG
                    | 3 =>
                      try dsimp only at hG ⊢
                      rw [← h0]
                      exact hG
                    | 4 =>
                      try dsimp only at hG ⊢
                      rw [← h0]
                      exact hG
                    | 5 =>
                      try dsimp only at hG ⊢
                      rw [← h0]
                      exact hG
                    | 6 =>
                      try dsimp only at hG ⊢
                      rw [← h0]
                      exact hG
                    | 7 =>
                      try dsimp only at hG ⊢
                      rw [← h0]
                      exact hG
                    | 8 =>
                      try dsimp only at hG ⊢
                      rw [← h0]
                      exact hG
                    | 9 =>
                      try dsimp only at hG ⊢
                      rw [← h0]
                      exact hG
                    | 10 =>
                      try dsimp only at hG ⊢
                      rw [← h0]
                      exact hG
                    | 11 =>
                      try dsimp only at hG ⊢
                      rw [← h0]
                      exact hG
                    | 12 =>
                      try dsimp only at hG ⊢
                      rw [← h0]
                      exact hG
                    | 13 =>
                      try dsimp only at hG ⊢
                      rw [← h0]
                      exact hG
                    | 14 =>
                      try dsimp only at hG ⊢
                      rw [← h0]
                      exact hG
                    | 15 =>
                      try dsimp only at hG ⊢
                      rw [← h0]
                      exact hG
                    | 16 =>
                      try dsimp only at hG ⊢
                      rw [← h0]
                      exact hG
                    | 17 =>
                      try dsimp only at hG ⊢
                      rw [← h0]
                      exact hG
                    | 18 =>
                      try dsimp only at hG ⊢
                      rw [← h0]
                      exact hG
                    | 19 =>
                      try dsimp only at hG ⊢
                      rw [← h0]
                      exact hG
                    | 20 =>
                      try dsimp only at hG ⊢
                      rw [← h0]
                      exact hG
                    | 21 =>
                      try dsimp only at hG ⊢
                      rw [← h0]
                      exact hG
                    | 22 =>
                      try dsimp only at hG ⊢
                      rw [← h0]
                      exact hG
                    | 23 =>
                      try dsimp only at hG ⊢
                      rw [← h0]
                      exact hG
                    | 24 =>
                      try dsimp only at hG ⊢
                      rw [← h0]
                      exact hG
                    | n + 25 => trivial
                  case lasts =>
                    intro i hi V L H wx wy hB hH hk
                    match i, hi with
                    | 0, _ => exact fun h => h
                    | 1, _ => exact fun h => h
                    | 2, _ => exact fun h => h
                    | 3, _ => exact fun h => h
                    | 4, _ => exact fun h => h
                    | 5, _ => exact fun h => h
                    | 6, _ => exact fun h => h
                    | 7, _ => exact fun h => h
                    | 8, _ => exact fun h => h
                    | 9, _ => exact fun h => h
                    | 10, _ => exact fun h => h
                    | 11, _ => exact fun h => h
                    | 12, _ => exact fun h => h
                    | 13, _ => exact fun h => h
                    | 14, _ => exact fun h => h
                    | 15, _ => exact fun h => h
                    | 16, _ => exact fun h => h
                    | 17, _ => exact fun h => h
                    | 18, _ => exact fun h => h
                    | 19, _ => exact fun h => h
                    | 20, _ => exact fun h => h
                    | 21, _ => exact fun h => h
                    | 22, _ => exact fun h => h
                    | 23, _ => exact fun h => h
                    | 24, _ => exact fun h => h
                    | n + 25, hn => exact absurd hn (by simp)
                  case walk =>
                    simp (maxSteps := 4000000) only [freeK, Nat.reduceAdd, Act.put, List.setIfInBounds_toArray, List.set_cons_succ, List.set_cons_zero]
                    refine ⟨?_, ?_, ?_, ?_, ?_, ?_, ?_, ?_, ?_, ?_, ?_, ?_, ?_, ?_, ?_, ?_, ?_, ?_, ?_, ?_, ?_, ?_, ?_, ?_, ?_, ?_⟩
                    · intro V L H wq hw hk hj hd
                      clear hd
                      go_wp2_with fail
                      exact freePost _ rfl ⟨⟨WritesF.refl _ _, hj⟩, upd_self⟩
                    · intro V L H wq hw hk hj hd
                      clear hd
                      go_wp2_with fail
                      exact freePost _ rfl ⟨⟨WritesF.refl _ _, hj⟩, upd_self⟩
                    · intro V L H wq hw hk hj hd
                      obtain ⟨⟨hL0, hM0, hH0, hv0⟩, ⟨hL1, hM1, hH1, hv1⟩, -⟩ := hd
                      rw [hv0, hv1]
                      have HV0 := Lib.hid hv0
                      have HV1 := Lib.hid hv1
                      clear hv0 hv1
                      go_wp2_with fail
                      exact freePost _ rfl ⟨⟨WritesF.refl _ _, hj⟩, upd_self⟩
                    · intro V L H wq hw hk hj hd
                      obtain ⟨⟨hL2, hM2, hH2, hv2⟩, -⟩ := hd
                      rw [hv2]
                      have HV2 := Lib.hid hv2
                      clear hv2
                      have r0 : wq.cell? ⟨bc, offc + m, none⟩ = some (.int .i64 z) := (hk.cell (p := ⟨bc, offc + m, none⟩) ⟨HLTC.out, id, trivial⟩ HLTC.out).trans (HCM.out)
                      go_wp2_with fail
                      exact freePost _ rfl ⟨⟨WritesF.refl _ _, hj⟩, upd_self⟩
                    · intro V L H wq hw hk hj hd
                      clear hd
                      go_wp2_with fail
                      exact freePost _ rfl ⟨⟨WritesF.refl _ _, hj⟩, upd_self⟩
                    · intro V L H wq hw hk hj hd
                      clear hd
                      go_wp2_with fail
                      exact freePost _ rfl ⟨⟨WritesF.refl _ _, hj⟩, upd_self⟩
                    · intro V L H wq hw hk hj hd
                      obtain ⟨⟨hL4, hM4, hH4, hv4⟩, ⟨hL5, hM5, hH5, hv5⟩, -⟩ := hd
                      rw [hv4, hv5]
                      have HV4 := Lib.hid hv4
                      have HV5 := Lib.hid hv5
                      clear hv4 hv5
                      go_wp2_with fail
                      exact freePost _ rfl ⟨⟨WritesF.refl _ _, hj⟩, upd_self⟩
                    · intro V L H wq hw hk hj hd
                      obtain ⟨⟨hL6, hM6, hH6, hv6⟩, -⟩ := hd
                      rw [hv6]
                      have HV6 := Lib.hid hv6
                      clear hv6
                      have r0 : wq.cell? ⟨bc, offc + k, none⟩ = some (.int .i64 z) := (hk.cell (p := ⟨bc, offc + k, none⟩) ⟨HLTC.out, id, trivial⟩ HLTC.out).trans (HCK.out)
                      go_wp2_with fail
                      exact freePost _ rfl ⟨⟨WritesF.refl _ _, hj⟩, upd_self⟩
                    · intro V L H wq hw hk hj hd
                      obtain ⟨⟨hL3, hM3, hH3, hv3⟩, ⟨hL7, hM7, hH7, hv7⟩, -⟩ := hd
                      rw [hv3, hv7]
                      have HV3 := Lib.hid hv3
                      have HV7 := Lib.hid hv7
                      clear hv3 hv7
                      go_wp2_with fail
                      exact freePost _ rfl ⟨⟨WritesF.refl _ _, hj⟩, upd_self⟩
                    · intro V L H wq hw hk hj hd
                      obtain ⟨⟨hL8, hM8, hH8, hv8⟩, -⟩ := hd
                      rw [hv8]
                      have HV8 := Lib.hid hv8
                      clear hv8
                      go_wp2_with fail
                      exact freePost _ rfl ⟨⟨WritesF.refl _ _, hj⟩, upd_self⟩
                    · intro V L H wq hw hk hj hd
                      obtain ⟨⟨hL9, hM9, hH9, hv9⟩, -⟩ := hd
                      rw [hv9]
                      have HV9 := Lib.hid hv9
                      clear hv9
                      go_wp2_with fail
                      exact freePost _ rfl ⟨⟨WritesF.refl _ _, hj⟩, upd_self⟩
                    · intro V L H wq hw hk hj hd
                      obtain ⟨⟨hL9, hM9, hH9, hv9⟩, -⟩ := hd
                      rw [hv9]
                      have HV9 := Lib.hid hv9
                      clear hv9
                      go_wp2_with fail
                      exact freePost _ rfl ⟨⟨WritesF.refl _ _, hj⟩, upd_self⟩
                    · intro V L H wq hw hk hj hd
                      obtain ⟨⟨hL9, hM9, hH9, hv9⟩, ⟨hL10, hM10, hH10, hv10⟩, ⟨hL11, hM11, hH11, hv11⟩, -⟩ := hd
                      rw [hv9, hv10, hv11]
                      have HV9 := Lib.hid hv9
                      have HV10 := Lib.hid hv10
                      have HV11 := Lib.hid hv11
                      clear hv9 hv10 hv11
                      have hk1 := hk.1
                      go_wp2_with fail
                      refine (HLUM.out wq (Nat.le_trans HHW.out hk1) (HSTR.out.frame fun b9 o9 h1 h2 => hk.cell (p := ⟨b9, o9, none⟩) ⟨(show b9 < wr.heap.size by have := HHW.out; omega), id, trivial⟩ (show b9 < wr.heap.size by have := HHW.out; omega))).mono ?_
                      rintro e w2 ⟨rfl, hb2⟩
                      go_wp2_with fail
                      exact freePost _ rfl ⟨⟨(WritesF.refl _ _).later hb2, trivial⟩, upd_self⟩
                    · intro V L H wq hw hk hj hd
                      obtain ⟨⟨hL9, hM9, hH9, hv9⟩, -⟩ := hd
                      rw [hv9]
                      have HV9 := Lib.hid hv9
                      clear hv9
                      go_wp2_with fail
                      exact freePost _ rfl ⟨⟨WritesF.refl _ _, hj⟩, upd_self⟩
                    · intro V L H wq hw hk hj hd
                      obtain ⟨⟨hL9, hM9, hH9, hv9⟩, ⟨hL12, hM12, hH12, hv12⟩, ⟨hL13, hM13, hH13, hv13⟩, -⟩ := hd
                      rw [hv9, hv12, hv13]
                      have HV9 := Lib.hid hv9
                      have HV12 := Lib.hid hv12
                      have HV13 := Lib.hid hv13
                      clear hv9 hv12 hv13
                      go_wp2_with fail
                      all_goals first | (exfalso; omega) | exact freePost _ rfl ⟨⟨WritesF.refl _ _, hj⟩, upd_self⟩ | exact freePost _ rfl ⟨⟨WritesF.refl _ _, hj⟩, upd_self.trans (congrArg Value.bool (decide_eq_false (by omega)))⟩ | exact freePost _ rfl ⟨⟨WritesF.refl _ _, hj⟩, upd_self.trans (congrArg Value.bool (decide_eq_true (by omega)))⟩
                    · intro V L H wq hw hk hj hd
                      obtain ⟨⟨hL9, hM9, hH9, hv9⟩, ⟨hL14, hM14, hH14, hv14⟩, -⟩ := hd
                      rw [hv9, hv14]
                      have HV9 := Lib.hid hv9
                      have HV14 := Lib.hid hv14
                      clear hv9 hv14
                      go_wp2_with fail
                      exact freePost _ rfl ⟨⟨WritesF.refl _ _, hj⟩, upd_self⟩
                    · intro V L H wq hw hk hj hd
                      obtain ⟨⟨hL15, hM15, hH15, hv15⟩, -⟩ := hd
                      rw [hv15]
                      have HV15 := Lib.hid hv15
                      clear hv15
                      go_wp2_with fail
                      exact freePost _ rfl ⟨⟨WritesF.refl _ _, hj⟩, upd_self⟩
                    · intro V L H wq hw hk hj hd
                      obtain ⟨⟨hL15, hM15, hH15, hv15⟩, -⟩ := hd
                      rw [hv15]
                      have HV15 := Lib.hid hv15
                      clear hv15
                      go_wp2_with fail
                      exact freePost _ rfl ⟨⟨WritesF.refl _ _, hj⟩, upd_self⟩
                    · intro V L H wq hw hk hj hd
                      obtain ⟨⟨hL15, hM15, hH15, hv15⟩, -⟩ := hd
                      rw [hv15]
                      have HV15 := Lib.hid hv15
                      clear hv15
                      go_wp2_with fail
                      exact freePost _ rfl ⟨⟨WritesF.refl _ _, hj⟩, upd_self⟩
                    · intro V L H wq hw hk hj hd
                      obtain ⟨⟨hL15, hM15, hH15, hv15⟩, -⟩ := hd
                      rw [hv15]
                      have HV15 := Lib.hid hv15
                      clear hv15
                      go_wp2_with fail
                      exact freePost _ rfl ⟨⟨WritesF.refl _ _, hj⟩, upd_self⟩
                    · intro V L H wq hw hk hj hd
                      obtain ⟨⟨hL15, hM15, hH15, hv15⟩, -⟩ := hd
                      rw [hv15]
                      have HV15 := Lib.hid hv15
                      clear hv15
                      go_wp2_with fail
                      exact freePost _ rfl ⟨⟨WritesF.refl _ _, hj⟩, upd_self⟩
                    · intro V L H wq hw hk hj hd
                      obtain ⟨⟨hL15, hM15, hH15, hv15⟩, -⟩ := hd
                      rw [hv15]
                      have HV15 := Lib.hid hv15
                      clear hv15
                      go_wp2_with fail
                      exact freePost _ rfl ⟨⟨WritesF.refl _ _, hj⟩, upd_self⟩
                    · intro V L H wq hw hk hj hd
                      obtain ⟨⟨hL15, hM15, hH15, hv15⟩, -⟩ := hd
                      rw [hv15]
                      have HV15 := Lib.hid hv15
                      clear hv15
                      have hk1 := hk.1
                      go_wp2_with fail
                      exact freePost _ rfl ⟨⟨WritesF.refl _ _, hj⟩, upd_self⟩
                    · intro V L H wq hw hk hj hd
                      obtain ⟨⟨hL9, hM9, hH9, hv9⟩, ⟨hL15, hM15, hH15, hv15⟩, ⟨hL22, hM22, hH22, hv22⟩, -⟩ := hd
                      rw [hv9, hv15, hv22]
                      have HV9 := Lib.hid hv9
                      have HV15 := Lib.hid hv15
                      have HV22 := Lib.hid hv22
                      clear hv9 hv15 hv22
                      go_wp2_with fail
                      exact freePost _ rfl ⟨⟨WritesF.refl _ _, hj⟩, upd_self⟩
                    · intro V L H wq hw hk hj hd
                      obtain ⟨⟨hL9, hM9, hH9, hv9⟩, ⟨hL23, hM23, hH23, hv23⟩, -⟩ := hd
                      rw [hv9, hv23]
                      have HV9 := Lib.hid hv9
                      have HV23 := Lib.hid hv23
                      clear hv9 hv23
                      go_wp2_with fail
                      exact freePost _ rfl ⟨⟨WritesF.refl _ _, hj⟩, upd_self⟩
                    · intro V L H wq hw hj hd hap hdead
                      obtain ⟨⟨hL0, hM0, hH0, hv0⟩, ⟨hL1, hM1, hH1, hv1⟩, ⟨hL2, hM2, hH2, hv2⟩, ⟨hL3, hM3, hH3, hv3⟩, ⟨hL4, hM4, hH4, hv4⟩, ⟨hL5, hM5, hH5, hv5⟩, ⟨hL6, hM6, hH6, hv6⟩, ⟨hL7, hM7, hH7, hv7⟩, ⟨hL8, hM8, hH8, hv8⟩, ⟨hL9, hM9, hH9, hv9⟩, ⟨hL10, hM10, hH10, hv10⟩, ⟨hL11, hM11, hH11, hv11⟩, ⟨hL12, hM12, hH12, hv12⟩, ⟨hL13, hM13, hH13, hv13⟩, ⟨hL14, hM14, hH14, hv14⟩, ⟨hL15, hM15, hH15, hv15⟩, ⟨hL16, hM16, hH16, hv16⟩, ⟨hL17, hM17, hH17, hv17⟩, ⟨hL18, hM18, hH18, hv18⟩, ⟨hL19, hM19, hH19, hv19⟩, ⟨hL20, hM20, hH20, hv20⟩, ⟨hL21, hM21, hH21, hv21⟩, ⟨hL22, hM22, hH22, hv22⟩, ⟨hL23, hM23, hH23, hv23⟩, ⟨hL24, hM24, hH24, hv24⟩, -⟩ := hd
                      rw [hv0, hv1, hv2, hv3, hv4, hv5, hv6, hv7, hv8, hv9, hv10, hv11, hv12, hv13, hv14, hv15, hv16, hv17, hv18, hv19, hv20, hv21, hv22, hv23, hv24]
                      clear hv0 hv1 hv2 hv3 hv4 hv5 hv6 hv7 hv8 hv9 hv10 hv11 hv12 hv13 hv14 hv15 hv16 hv17 hv18 hv19 hv20 hv21 hv22 hv23 hv24
                      have HW := Lib.hid (HBR.out.trans ((fa_noneK hw).mono HBR.out.size))
                      clear hw hj hap hdead
                      go_wp2
                      go_ret
                      exact ⟨congrArg (fun q => Ending.returned (Value.bool q)) HE.out.symm, HW.out⟩
                · have hle : lu ≤ k := by omega
                  have HHX := Lib.hid (HHS.out x)
                  have HFL1 := Lib.hid (HFL.out hle)
                  generalize hasI kp x = hv at *
                  go_wp2
                  refine wp_region_freeK [([], .none, []), ([], .none, []), ([0, 1], .none, []), ([2], .none, []), ([], .none, []), ([], .none, []), ([4, 5], .none, []), ([6], .none, []), ([3, 7], .none, []), ([8], .none, []), ([9], .none, []), ([9], .none, []), ([9, 10, 11], .none, []), ([9], .none, []), ([9, 12, 13], .none, []), ([9, 14], .none, []), ([15], .none, []), ([15], .none, []), ([15], .none, []), ([15, 17, 18], .none, []), ([15, 19], .none, []), ([15, 20], .none, []), ([15, 16, 21], .none, []), ([9, 15, 22], .none, []), ([9, 23], .none, [])] [0, 1, 2, 3, 4, 5, 6, 7, 8, 9, 10, 11, 12, 13, 14, 15, 16, 17, 18, 19, 20, 21, 22, 23, 24] [] (fun _ => False) (fun _ => True) (fun _ => 0) (fun jq9 V L H wx => match jq9 with | 0 => V 0 = .slice (some ⟨bc, offc, none⟩) cs.length cC | 1 => V 1 = .int .i64 (m : Int) | 2 => V 2 = .pointer (some ⟨bc, offc + m, none⟩) | 3 => V 3 = .int .i64 z | 4 => V 4 = .slice (some ⟨bc, offc, none⟩) cs.length cC | 5 => V 5 = .int .i64 (k : Int) | 6 => V 6 = .pointer (some ⟨bc, offc + k, none⟩) | 7 => V 7 = .int .i64 z | 8 => V 8 = .bool true | 9 => V 9 = .bool true | 10 => V 10 = .slice (some ⟨bt, off, none⟩) tr.length cT | 11 => V 11 = .int .i64 (m : Int) | 12 => V 12 = .int .i64 lu | 13 => V 13 = .int .i64 (k : Int) | 14 => V 14 = .bool false | 15 => V 15 = .bool false | 16 => V 16 = .slice aK kp.length cK | 17 => V 17 = .slice (some ⟨bt, off, none⟩) tr.length cT | 18 => V 18 = .int .i64 (m : Int) | 19 => V 19 = .pointer (some ⟨bt, off + m * 3, none⟩) | 20 => V 20 = .pointer (some ⟨bt, off + m * 3, none⟩) | 21 => V 21 = .agg #[.int .i64 x.fNode, .string x.fName] | 22 => V 22 = .bool hv | 23 => V 23 = .bool hv | 24 => V 24 = .bool hv | _ => True) (by kernel_rfl) (by kernel_rfl) ?obs (fun _ h => h.elim) trivial (fun _ _ _ _ _ => trivial) ?loc ?lasts ?walk
                  case obs =>
                    trivial
                  case loc =>
                    intro k V V' L H wx h0 h1 hG
                    match k with
                    | 0 =>
                      try dsimp only at hG ⊢
                      rw [← h0]
                      exact hG
                    | 1 =>
                      try dsimp only at hG ⊢
                      rw [← h0]
                      exact hG
                    | 2 =>
                      try dsimp only at hG ⊢
                      rw [← h0]
                      exact hG
                    | 3 =>
                      try dsimp only at hG ⊢
                      rw [← h0]
                      exact hG
                    | 4 =>
                      try dsimp only at hG ⊢
                      rw [← h0]
                      exact hG
                    | 5 =>
                      try dsimp only at hG ⊢
                      rw [← h0]
                      exact hG
                    | 6 =>
                      try dsimp only at hG ⊢
                      rw [← h0]
                      exact hG
                    | 7 =>
                      try dsimp only at hG ⊢
                      rw [← h0]
                      exact hG
                    | 8 =>
                      try dsimp only at hG ⊢
                      rw [← h0]
                      exact hG
                    | 9 =>
                      try dsimp only at hG ⊢
                      rw [← h0]
                      exact hG
                    | 10 =>
                      try dsimp only at hG ⊢
                      rw [← h0]
                      exact hG
                    | 11 =>
                      try dsimp only at hG ⊢
                      rw [← h0]
                      exact hG
                    | 12 =>
                      try dsimp only at hG ⊢
                      rw [← h0]
                      exact hG
                    | 13 =>
                      try dsimp only at hG ⊢
                      rw [← h0]
                      exact hG
                    | 14 =>
                      try dsimp only at hG ⊢
                      rw [← h0]
                      exact hG
                    | 15 =>
                      try dsimp only at hG ⊢
                      rw [← h0]
                      exact hG
                    | 16 =>
                      try dsimp only at hG ⊢
                      rw [← h0]
                      exact hG
                    | 17 =>
                      try dsimp only at hG ⊢
                      rw [← h0]
                      exact hG
                    | 18 =>
                      try dsimp only at hG ⊢
                      rw [← h0]
                      exact hG
                    | 19 =>
                      try dsimp only at hG ⊢
                      rw [← h0]
                      exact hG
                    | 20 =>
                      try dsimp only at hG ⊢
                      rw [← h0]
                      exact hG
                    | 21 =>
                      try dsimp only at hG ⊢
                      rw [← h0]
                      exact hG
                    | 22 =>
                      try dsimp only at hG ⊢
                      rw [← h0]
                      exact hG
                    | 23 =>
                      try dsimp only at hG ⊢
                      rw [← h0]
                      exact hG
                    | 24 =>
                      try dsimp only at hG ⊢
                      rw [← h0]
                      exact hG
                    | n + 25 => trivial
                  case lasts =>
                    intro i hi V L H wx wy hB hH hk
                    match i, hi with
                    | 0, _ => exact fun h => h
                    | 1, _ => exact fun h => h
                    | 2, _ => exact fun h => h
                    | 3, _ => exact fun h => h
                    | 4, _ => exact fun h => h
                    | 5, _ => exact fun h => h
                    | 6, _ => exact fun h => h
                    | 7, _ => exact fun h => h
                    | 8, _ => exact fun h => h
                    | 9, _ => exact fun h => h
                    | 10, _ => exact fun h => h
                    | 11, _ => exact fun h => h
                    | 12, _ => exact fun h => h
                    | 13, _ => exact fun h => h
                    | 14, _ => exact fun h => h
                    | 15, _ => exact fun h => h
                    | 16, _ => exact fun h => h
                    | 17, _ => exact fun h => h
                    | 18, _ => exact fun h => h
                    | 19, _ => exact fun h => h
                    | 20, _ => exact fun h => h
                    | 21, _ => exact fun h => h
                    | 22, _ => exact fun h => h
                    | 23, _ => exact fun h => h
                    | 24, _ => exact fun h => h
                    | n + 25, hn => exact absurd hn (by simp)
                  case walk =>
                    simp (maxSteps := 4000000) only [freeK, Nat.reduceAdd, Act.put, List.setIfInBounds_toArray, List.set_cons_succ, List.set_cons_zero]
                    refine ⟨?_, ?_, ?_, ?_, ?_, ?_, ?_, ?_, ?_, ?_, ?_, ?_, ?_, ?_, ?_, ?_, ?_, ?_, ?_, ?_, ?_, ?_, ?_, ?_, ?_, ?_⟩
                    · intro V L H wq hw hk hj hd
                      clear hd
                      go_wp2_with fail
                      exact freePost _ rfl ⟨⟨WritesF.refl _ _, hj⟩, upd_self⟩
                    · intro V L H wq hw hk hj hd
                      clear hd
                      go_wp2_with fail
                      exact freePost _ rfl ⟨⟨WritesF.refl _ _, hj⟩, upd_self⟩
                    · intro V L H wq hw hk hj hd
                      obtain ⟨⟨hL0, hM0, hH0, hv0⟩, ⟨hL1, hM1, hH1, hv1⟩, -⟩ := hd
                      rw [hv0, hv1]
                      have HV0 := Lib.hid hv0
                      have HV1 := Lib.hid hv1
                      clear hv0 hv1
                      go_wp2_with fail
                      exact freePost _ rfl ⟨⟨WritesF.refl _ _, hj⟩, upd_self⟩
                    · intro V L H wq hw hk hj hd
                      obtain ⟨⟨hL2, hM2, hH2, hv2⟩, -⟩ := hd
                      rw [hv2]
                      have HV2 := Lib.hid hv2
                      clear hv2
                      have r0 : wq.cell? ⟨bc, offc + m, none⟩ = some (.int .i64 z) := (hk.cell (p := ⟨bc, offc + m, none⟩) ⟨HLTC.out, id, trivial⟩ HLTC.out).trans (HCM.out)
                      go_wp2_with fail
                      exact freePost _ rfl ⟨⟨WritesF.refl _ _, hj⟩, upd_self⟩
                    · intro V L H wq hw hk hj hd
                      clear hd
                      go_wp2_with fail
                      exact freePost _ rfl ⟨⟨WritesF.refl _ _, hj⟩, upd_self⟩
                    · intro V L H wq hw hk hj hd
                      clear hd
                      go_wp2_with fail
                      exact freePost _ rfl ⟨⟨WritesF.refl _ _, hj⟩, upd_self⟩
                    · intro V L H wq hw hk hj hd
                      obtain ⟨⟨hL4, hM4, hH4, hv4⟩, ⟨hL5, hM5, hH5, hv5⟩, -⟩ := hd
                      rw [hv4, hv5]
                      have HV4 := Lib.hid hv4
                      have HV5 := Lib.hid hv5
                      clear hv4 hv5
                      go_wp2_with fail
                      exact freePost _ rfl ⟨⟨WritesF.refl _ _, hj⟩, upd_self⟩
                    · intro V L H wq hw hk hj hd
                      obtain ⟨⟨hL6, hM6, hH6, hv6⟩, -⟩ := hd
                      rw [hv6]
                      have HV6 := Lib.hid hv6
                      clear hv6
                      have r0 : wq.cell? ⟨bc, offc + k, none⟩ = some (.int .i64 z) := (hk.cell (p := ⟨bc, offc + k, none⟩) ⟨HLTC.out, id, trivial⟩ HLTC.out).trans (HCK.out)
                      go_wp2_with fail
                      exact freePost _ rfl ⟨⟨WritesF.refl _ _, hj⟩, upd_self⟩
                    · intro V L H wq hw hk hj hd
                      obtain ⟨⟨hL3, hM3, hH3, hv3⟩, ⟨hL7, hM7, hH7, hv7⟩, -⟩ := hd
                      rw [hv3, hv7]
                      have HV3 := Lib.hid hv3
                      have HV7 := Lib.hid hv7
                      clear hv3 hv7
                      go_wp2_with fail
                      exact freePost _ rfl ⟨⟨WritesF.refl _ _, hj⟩, upd_self⟩
                    · intro V L H wq hw hk hj hd
                      obtain ⟨⟨hL8, hM8, hH8, hv8⟩, -⟩ := hd
                      rw [hv8]
                      have HV8 := Lib.hid hv8
                      clear hv8
                      go_wp2_with fail
                      exact freePost _ rfl ⟨⟨WritesF.refl _ _, hj⟩, upd_self⟩
                    · intro V L H wq hw hk hj hd
                      obtain ⟨⟨hL9, hM9, hH9, hv9⟩, -⟩ := hd
                      rw [hv9]
                      have HV9 := Lib.hid hv9
                      clear hv9
                      go_wp2_with fail
                      exact freePost _ rfl ⟨⟨WritesF.refl _ _, hj⟩, upd_self⟩
                    · intro V L H wq hw hk hj hd
                      obtain ⟨⟨hL9, hM9, hH9, hv9⟩, -⟩ := hd
                      rw [hv9]
                      have HV9 := Lib.hid hv9
                      clear hv9
                      go_wp2_with fail
                      exact freePost _ rfl ⟨⟨WritesF.refl _ _, hj⟩, upd_self⟩
                    · intro V L H wq hw hk hj hd
                      obtain ⟨⟨hL9, hM9, hH9, hv9⟩, ⟨hL10, hM10, hH10, hv10⟩, ⟨hL11, hM11, hH11, hv11⟩, -⟩ := hd
                      rw [hv9, hv10, hv11]
                      have HV9 := Lib.hid hv9
                      have HV10 := Lib.hid hv10
                      have HV11 := Lib.hid hv11
                      clear hv9 hv10 hv11
                      have hk1 := hk.1
                      go_wp2_with fail
                      refine (HLUM.out wq (Nat.le_trans HHW.out hk1) (HSTR.out.frame fun b9 o9 h1 h2 => hk.cell (p := ⟨b9, o9, none⟩) ⟨(show b9 < wr.heap.size by have := HHW.out; omega), id, trivial⟩ (show b9 < wr.heap.size by have := HHW.out; omega))).mono ?_
                      rintro e w2 ⟨rfl, hb2⟩
                      go_wp2_with fail
                      exact freePost _ rfl ⟨⟨(WritesF.refl _ _).later hb2, trivial⟩, upd_self⟩
                    · intro V L H wq hw hk hj hd
                      obtain ⟨⟨hL9, hM9, hH9, hv9⟩, -⟩ := hd
                      rw [hv9]
                      have HV9 := Lib.hid hv9
                      clear hv9
                      go_wp2_with fail
                      exact freePost _ rfl ⟨⟨WritesF.refl _ _, hj⟩, upd_self⟩
                    · intro V L H wq hw hk hj hd
                      obtain ⟨⟨hL9, hM9, hH9, hv9⟩, ⟨hL12, hM12, hH12, hv12⟩, ⟨hL13, hM13, hH13, hv13⟩, -⟩ := hd
                      rw [hv9, hv12, hv13]
                      have HV9 := Lib.hid hv9
                      have HV12 := Lib.hid hv12
                      have HV13 := Lib.hid hv13
                      clear hv9 hv12 hv13
                      go_wp2_with fail
                      all_goals first | (exfalso; omega) | exact freePost _ rfl ⟨⟨WritesF.refl _ _, hj⟩, upd_self⟩ | exact freePost _ rfl ⟨⟨WritesF.refl _ _, hj⟩, upd_self.trans (congrArg Value.bool (decide_eq_false (by omega)))⟩ | exact freePost _ rfl ⟨⟨WritesF.refl _ _, hj⟩, upd_self.trans (congrArg Value.bool (decide_eq_true (by omega)))⟩
                    · intro V L H wq hw hk hj hd
                      obtain ⟨⟨hL9, hM9, hH9, hv9⟩, ⟨hL14, hM14, hH14, hv14⟩, -⟩ := hd
                      rw [hv9, hv14]
                      have HV9 := Lib.hid hv9
                      have HV14 := Lib.hid hv14
                      clear hv9 hv14
                      go_wp2_with fail
                      exact freePost _ rfl ⟨⟨WritesF.refl _ _, hj⟩, upd_self⟩
                    · intro V L H wq hw hk hj hd
                      obtain ⟨⟨hL15, hM15, hH15, hv15⟩, -⟩ := hd
                      rw [hv15]
                      have HV15 := Lib.hid hv15
                      clear hv15
                      go_wp2_with fail
                      exact freePost _ rfl ⟨⟨WritesF.refl _ _, hj⟩, upd_self⟩
                    · intro V L H wq hw hk hj hd
                      obtain ⟨⟨hL15, hM15, hH15, hv15⟩, -⟩ := hd
                      rw [hv15]
                      have HV15 := Lib.hid hv15
                      clear hv15
                      go_wp2_with fail
                      exact freePost _ rfl ⟨⟨WritesF.refl _ _, hj⟩, upd_self⟩
                    · intro V L H wq hw hk hj hd
                      obtain ⟨⟨hL15, hM15, hH15, hv15⟩, -⟩ := hd
                      rw [hv15]
                      have HV15 := Lib.hid hv15
                      clear hv15
                      go_wp2_with fail
                      exact freePost _ rfl ⟨⟨WritesF.refl _ _, hj⟩, upd_self⟩
                    · intro V L H wq hw hk hj hd
                      obtain ⟨⟨hL15, hM15, hH15, hv15⟩, ⟨hL17, hM17, hH17, hv17⟩, ⟨hL18, hM18, hH18, hv18⟩, -⟩ := hd
                      rw [hv15, hv17, hv18]
                      have HV15 := Lib.hid hv15
                      have HV17 := Lib.hid hv17
                      have HV18 := Lib.hid hv18
                      clear hv15 hv17 hv18
                      go_wp2_with fail
                      exact freePost _ rfl ⟨⟨WritesF.refl _ _, hj⟩, upd_self⟩
                    · intro V L H wq hw hk hj hd
                      obtain ⟨⟨hL15, hM15, hH15, hv15⟩, ⟨hL19, hM19, hH19, hv19⟩, -⟩ := hd
                      rw [hv15, hv19]
                      have HV15 := Lib.hid hv15
                      have HV19 := Lib.hid hv19
                      clear hv15 hv19
                      go_wp2_with fail
                      exact freePost _ rfl ⟨⟨WritesF.refl _ _, hj⟩, upd_self⟩
                    · intro V L H wq hw hk hj hd
                      obtain ⟨⟨hL15, hM15, hH15, hv15⟩, ⟨hL20, hM20, hH20, hv20⟩, -⟩ := hd
                      rw [hv15, hv20]
                      have HV15 := Lib.hid hv15
                      have HV20 := Lib.hid hv20
                      clear hv15 hv20
                      have r0 : wq.cell? ⟨bt, off + m * 3, none⟩ = some (.int .i64 x.fNode) := (hk.cell (p := ⟨bt, off + m * 3, none⟩) ⟨HLTT.out, id, trivial⟩ HLTT.out).trans (HX0.out)
                      have r1 : wq.cell? ⟨bt, off + m * 3 + 1, none⟩ = some (.string x.fName) := (hk.cell (p := ⟨bt, off + m * 3 + 1, none⟩) ⟨HLTT.out, id, trivial⟩ HLTT.out).trans (HX1.out)
                      go_wp2_with fail
                      exact freePost _ rfl ⟨⟨WritesF.refl _ _, hj⟩, upd_self⟩
                    · intro V L H wq hw hk hj hd
                      obtain ⟨⟨hL15, hM15, hH15, hv15⟩, ⟨hL16, hM16, hH16, hv16⟩, ⟨hL21, hM21, hH21, hv21⟩, -⟩ := hd
                      rw [hv15, hv16, hv21]
                      have HV15 := Lib.hid hv15
                      have HV16 := Lib.hid hv16
                      have HV21 := Lib.hid hv21
                      clear hv15 hv16 hv21
                      have hk1 := hk.1
                      go_wp2_with fail
                      refine (HHX.out wq (Nat.le_trans HHW.out hk1) (HSKR.out.frame fun b9 o9 h1 h2 => hk.cell (p := ⟨b9, o9, none⟩) ⟨(show b9 < wr.heap.size by have := HHW.out; omega), id, trivial⟩ (show b9 < wr.heap.size by have := HHW.out; omega))).mono ?_
                      rintro e w2 ⟨rfl, hb2⟩
                      go_wp2_with fail
                      exact freePost _ rfl ⟨⟨(WritesF.refl _ _).later hb2, trivial⟩, upd_self⟩
                    · intro V L H wq hw hk hj hd
                      obtain ⟨⟨hL9, hM9, hH9, hv9⟩, ⟨hL15, hM15, hH15, hv15⟩, ⟨hL22, hM22, hH22, hv22⟩, -⟩ := hd
                      rw [hv9, hv15, hv22]
                      have HV9 := Lib.hid hv9
                      have HV15 := Lib.hid hv15
                      have HV22 := Lib.hid hv22
                      clear hv9 hv15 hv22
                      go_wp2_with fail
                      exact freePost _ rfl ⟨⟨WritesF.refl _ _, hj⟩, upd_self⟩
                    · intro V L H wq hw hk hj hd
                      obtain ⟨⟨hL9, hM9, hH9, hv9⟩, ⟨hL23, hM23, hH23, hv23⟩, -⟩ := hd
                      rw [hv9, hv23]
                      have HV9 := Lib.hid hv9
                      have HV23 := Lib.hid hv23
                      clear hv9 hv23
                      go_wp2_with fail
                      exact freePost _ rfl ⟨⟨WritesF.refl _ _, hj⟩, upd_self⟩
                    · intro V L H wq hw hj hd hap hdead
                      obtain ⟨⟨hL0, hM0, hH0, hv0⟩, ⟨hL1, hM1, hH1, hv1⟩, ⟨hL2, hM2, hH2, hv2⟩, ⟨hL3, hM3, hH3, hv3⟩, ⟨hL4, hM4, hH4, hv4⟩, ⟨hL5, hM5, hH5, hv5⟩, ⟨hL6, hM6, hH6, hv6⟩, ⟨hL7, hM7, hH7, hv7⟩, ⟨hL8, hM8, hH8, hv8⟩, ⟨hL9, hM9, hH9, hv9⟩, ⟨hL10, hM10, hH10, hv10⟩, ⟨hL11, hM11, hH11, hv11⟩, ⟨hL12, hM12, hH12, hv12⟩, ⟨hL13, hM13, hH13, hv13⟩, ⟨hL14, hM14, hH14, hv14⟩, ⟨hL15, hM15, hH15, hv15⟩, ⟨hL16, hM16, hH16, hv16⟩, ⟨hL17, hM17, hH17, hv17⟩, ⟨hL18, hM18, hH18, hv18⟩, ⟨hL19, hM19, hH19, hv19⟩, ⟨hL20, hM20, hH20, hv20⟩, ⟨hL21, hM21, hH21, hv21⟩, ⟨hL22, hM22, hH22, hv22⟩, ⟨hL23, hM23, hH23, hv23⟩, ⟨hL24, hM24, hH24, hv24⟩, -⟩ := hd
                      rw [hv0, hv1, hv2, hv3, hv4, hv5, hv6, hv7, hv8, hv9, hv10, hv11, hv12, hv13, hv14, hv15, hv16, hv17, hv18, hv19, hv20, hv21, hv22, hv23, hv24]
                      clear hv0 hv1 hv2 hv3 hv4 hv5 hv6 hv7 hv8 hv9 hv10 hv11 hv12 hv13 hv14 hv15 hv16 hv17 hv18 hv19 hv20 hv21 hv22 hv23 hv24
                      have HW := Lib.hid (HBR.out.trans ((fa_noneK hw).mono HBR.out.size))
                      clear hw hj hap hdead
                      cases hv with
                      | true =>
                        have HE := Lib.hid (HBS.out rfl)
                        go_wp2
                        go_ret
                        exact ⟨congrArg (fun q => Ending.returned (Value.bool q)) HE.out.symm, HW.out⟩
                      | false =>
                        have HE := Lib.hid (HFL1.out rfl)
                        have HQ1 := Lib.hid (show ∀ q, q < m + 1 → cs.getD q default = cs.getD k default → freeT tr kp q ≤ k from fun q hq he => by
                          rcases Nat.lt_or_ge q m with h | h
                          · exact HQ.out q h he
                          · obtain rfl : q = m := by omega
                            exact HE.out)
                        go_wp2
                        go_roundw
                        case rel => exact ⟨m + 1, by omega, by go_num, HQ1.out, HW.out⟩
                        case measure => simp [intOf]; omega
              · have HQ1 := Lib.hid (show ∀ q, q < m + 1 → cs.getD q default = cs.getD k default → freeT tr kp q ≤ k from fun q hq he => by
                  rcases Nat.lt_or_ge q m with h | h
                  · exact HQ.out q h he
                  · obtain rfl : q = m := by omega
                    exact absurd (he.trans HZE.out) hyz)
                have e1 : (cs.getD m default == z) = false := beq_eq_false_iff_ne.2 hyz
                have e2 : (z == cs.getD m default) = false := beq_eq_false_iff_ne.2 (Ne.symm hyz)
                clear hyz
                generalize cs.getD m default = y at HCM e1 e2
                go_wp2
                refine wp_region_freeK [([], .none, []), ([], .none, []), ([0, 1], .none, []), ([2], .none, []), ([], .none, []), ([], .none, []), ([4, 5], .none, []), ([6], .none, []), ([3, 7], .none, []), ([8], .none, []), ([9], .none, []), ([9], .none, []), ([9, 10, 11], .none, []), ([9], .none, []), ([9, 12, 13], .none, []), ([9, 14], .none, []), ([15], .none, []), ([15], .none, []), ([15], .none, []), ([15], .none, []), ([15], .none, []), ([15], .none, []), ([15], .none, []), ([9], .none, []), ([9, 23], .none, [])] [0, 1, 2, 3, 4, 5, 6, 7, 8, 9, 10, 11, 12, 13, 14, 15, 16, 17, 18, 19, 20, 21, 22, 23, 24] [] (fun _ => False) (fun _ => True) (fun _ => 0) (fun jq9 V L H wx => match jq9 with | 0 => V 0 = .slice (some ⟨bc, offc, none⟩) cs.length cC | 1 => V 1 = .int .i64 (m : Int) | 2 => V 2 = .pointer (some ⟨bc, offc + m, none⟩) | 3 => V 3 = .int .i64 y | 4 => V 4 = .slice (some ⟨bc, offc, none⟩) cs.length cC | 5 => V 5 = .int .i64 (k : Int) | 6 => V 6 = .pointer (some ⟨bc, offc + k, none⟩) | 7 => V 7 = .int .i64 z | 8 => V 8 = .bool false | 9 => V 9 = .bool false | 10 => V 10 = undef | 11 => V 11 = undef | 12 => V 12 = undef | 13 => V 13 = undef | 14 => V 14 = undef | 15 => V 15 = undef | 16 => V 16 = undef | 17 => V 17 = undef | 18 => V 18 = undef | 19 => V 19 = undef | 20 => V 20 = undef | 21 => V 21 = undef | 22 => V 22 = undef | 23 => V 23 = undef | 24 => V 24 = .bool false | _ => True) (by kernel_rfl) (by kernel_rfl) ?obs (fun _ h => h.elim) trivial (fun _ _ _ _ _ => trivial) ?loc ?lasts ?walk
                case obs =>
                  trivial
                case loc =>
                  intro k V V' L H wx h0 h1 hG
                  match k with
                  | 0 =>
                    try dsimp only at hG ⊢
                    rw [← h0]
                    exact hG
                  | 1 =>
                    try dsimp only at hG ⊢
                    rw [← h0]
                    exact hG
                  | 2 =>
                    try dsimp only at hG ⊢
                    rw [← h0]
                    exact hG
                  | 3 =>
                    try dsimp only at hG ⊢
                    rw [← h0]
                    exact hG
                  | 4 =>
                    try dsimp only at hG ⊢
                    rw [← h0]
                    exact hG
                  | 5 =>
                    try dsimp only at hG ⊢
                    rw [← h0]
                    exact hG
                  | 6 =>
                    try dsimp only at hG ⊢
                    rw [← h0]
                    exact hG
                  | 7 =>
                    try dsimp only at hG ⊢
                    rw [← h0]
                    exact hG
                  | 8 =>
                    try dsimp only at hG ⊢
                    rw [← h0]
                    exact hG
                  | 9 =>
                    try dsimp only at hG ⊢
                    rw [← h0]
                    exact hG
                  | 10 =>
                    try dsimp only at hG ⊢
                    rw [← h0]
                    exact hG
                  | 11 =>
                    try dsimp only at hG ⊢
                    rw [← h0]
                    exact hG
                  | 12 =>
                    try dsimp only at hG ⊢
                    rw [← h0]
                    exact hG
                  | 13 =>
                    try dsimp only at hG ⊢
                    rw [← h0]
                    exact hG
                  | 14 =>
                    try dsimp only at hG ⊢
                    rw [← h0]
                    exact hG
                  | 15 =>
                    try dsimp only at hG ⊢
                    rw [← h0]
                    exact hG
                  | 16 =>
                    try dsimp only at hG ⊢
                    rw [← h0]
                    exact hG
                  | 17 =>
                    try dsimp only at hG ⊢
                    rw [← h0]
                    exact hG
                  | 18 =>
                    try dsimp only at hG ⊢
                    rw [← h0]
                    exact hG
                  | 19 =>
                    try dsimp only at hG ⊢
                    rw [← h0]
                    exact hG
                  | 20 =>
                    try dsimp only at hG ⊢
                    rw [← h0]
                    exact hG
                  | 21 =>
                    try dsimp only at hG ⊢
                    rw [← h0]
                    exact hG
                  | 22 =>
                    try dsimp only at hG ⊢
                    rw [← h0]
                    exact hG
                  | 23 =>
                    try dsimp only at hG ⊢
                    rw [← h0]
                    exact hG
                  | 24 =>
                    try dsimp only at hG ⊢
                    rw [← h0]
                    exact hG
                  | n + 25 => trivial
                case lasts =>
                  intro i hi V L H wx wy hB hH hk
                  match i, hi with
                  | 0, _ => exact fun h => h
                  | 1, _ => exact fun h => h
                  | 2, _ => exact fun h => h
                  | 3, _ => exact fun h => h
                  | 4, _ => exact fun h => h
                  | 5, _ => exact fun h => h
                  | 6, _ => exact fun h => h
                  | 7, _ => exact fun h => h
                  | 8, _ => exact fun h => h
                  | 9, _ => exact fun h => h
                  | 10, _ => exact fun h => h
                  | 11, _ => exact fun h => h
                  | 12, _ => exact fun h => h
                  | 13, _ => exact fun h => h
                  | 14, _ => exact fun h => h
                  | 15, _ => exact fun h => h
                  | 16, _ => exact fun h => h
                  | 17, _ => exact fun h => h
                  | 18, _ => exact fun h => h
                  | 19, _ => exact fun h => h
                  | 20, _ => exact fun h => h
                  | 21, _ => exact fun h => h
                  | 22, _ => exact fun h => h
                  | 23, _ => exact fun h => h
                  | 24, _ => exact fun h => h
                  | n + 25, hn => exact absurd hn (by simp)
                case walk =>
                  simp (maxSteps := 4000000) only [freeK, Nat.reduceAdd, Act.put, List.setIfInBounds_toArray, List.set_cons_succ, List.set_cons_zero]
                  refine ⟨?_, ?_, ?_, ?_, ?_, ?_, ?_, ?_, ?_, ?_, ?_, ?_, ?_, ?_, ?_, ?_, ?_, ?_, ?_, ?_, ?_, ?_, ?_, ?_, ?_, ?_⟩
                  · intro V L H wq hw hk hj hd
                    clear hd
                    go_wp2_with fail
                    exact freePost _ rfl ⟨⟨WritesF.refl _ _, hj⟩, upd_self⟩
                  · intro V L H wq hw hk hj hd
                    clear hd
                    go_wp2_with fail
                    exact freePost _ rfl ⟨⟨WritesF.refl _ _, hj⟩, upd_self⟩
                  · intro V L H wq hw hk hj hd
                    obtain ⟨⟨hL0, hM0, hH0, hv0⟩, ⟨hL1, hM1, hH1, hv1⟩, -⟩ := hd
                    rw [hv0, hv1]
                    have HV0 := Lib.hid hv0
                    have HV1 := Lib.hid hv1
                    clear hv0 hv1
                    go_wp2_with fail
                    exact freePost _ rfl ⟨⟨WritesF.refl _ _, hj⟩, upd_self⟩
                  · intro V L H wq hw hk hj hd
                    obtain ⟨⟨hL2, hM2, hH2, hv2⟩, -⟩ := hd
                    rw [hv2]
                    have HV2 := Lib.hid hv2
                    clear hv2
                    have r0 : wq.cell? ⟨bc, offc + m, none⟩ = some (.int .i64 y) := (hk.cell (p := ⟨bc, offc + m, none⟩) ⟨HLTC.out, id, trivial⟩ HLTC.out).trans (HCM.out)
                    go_wp2_with fail
                    exact freePost _ rfl ⟨⟨WritesF.refl _ _, hj⟩, upd_self⟩
                  · intro V L H wq hw hk hj hd
                    clear hd
                    go_wp2_with fail
                    exact freePost _ rfl ⟨⟨WritesF.refl _ _, hj⟩, upd_self⟩
                  · intro V L H wq hw hk hj hd
                    clear hd
                    go_wp2_with fail
                    exact freePost _ rfl ⟨⟨WritesF.refl _ _, hj⟩, upd_self⟩
                  · intro V L H wq hw hk hj hd
                    obtain ⟨⟨hL4, hM4, hH4, hv4⟩, ⟨hL5, hM5, hH5, hv5⟩, -⟩ := hd
                    rw [hv4, hv5]
                    have HV4 := Lib.hid hv4
                    have HV5 := Lib.hid hv5
                    clear hv4 hv5
                    go_wp2_with fail
                    exact freePost _ rfl ⟨⟨WritesF.refl _ _, hj⟩, upd_self⟩
                  · intro V L H wq hw hk hj hd
                    obtain ⟨⟨hL6, hM6, hH6, hv6⟩, -⟩ := hd
                    rw [hv6]
                    have HV6 := Lib.hid hv6
                    clear hv6
                    have r0 : wq.cell? ⟨bc, offc + k, none⟩ = some (.int .i64 z) := (hk.cell (p := ⟨bc, offc + k, none⟩) ⟨HLTC.out, id, trivial⟩ HLTC.out).trans (HCK.out)
                    go_wp2_with fail
                    exact freePost _ rfl ⟨⟨WritesF.refl _ _, hj⟩, upd_self⟩
                  · intro V L H wq hw hk hj hd
                    obtain ⟨⟨hL3, hM3, hH3, hv3⟩, ⟨hL7, hM7, hH7, hv7⟩, -⟩ := hd
                    rw [hv3, hv7]
                    have HV3 := Lib.hid hv3
                    have HV7 := Lib.hid hv7
                    clear hv3 hv7
                    go_wp2_with fail
                    exact freePost _ rfl ⟨⟨WritesF.refl _ _, hj⟩, upd_self⟩
                  · intro V L H wq hw hk hj hd
                    obtain ⟨⟨hL8, hM8, hH8, hv8⟩, -⟩ := hd
                    rw [hv8]
                    have HV8 := Lib.hid hv8
                    clear hv8
                    go_wp2_with fail
                    exact freePost _ rfl ⟨⟨WritesF.refl _ _, hj⟩, upd_self⟩
                  · intro V L H wq hw hk hj hd
                    obtain ⟨⟨hL9, hM9, hH9, hv9⟩, -⟩ := hd
                    rw [hv9]
                    have HV9 := Lib.hid hv9
                    clear hv9
                    go_wp2_with fail
                    exact freePost _ rfl ⟨⟨WritesF.refl _ _, hj⟩, upd_self⟩
                  · intro V L H wq hw hk hj hd
                    obtain ⟨⟨hL9, hM9, hH9, hv9⟩, -⟩ := hd
                    rw [hv9]
                    have HV9 := Lib.hid hv9
                    clear hv9
                    go_wp2_with fail
                    exact freePost _ rfl ⟨⟨WritesF.refl _ _, hj⟩, upd_self⟩
                  · intro V L H wq hw hk hj hd
                    obtain ⟨⟨hL9, hM9, hH9, hv9⟩, ⟨hL10, hM10, hH10, hv10⟩, ⟨hL11, hM11, hH11, hv11⟩, -⟩ := hd
                    rw [hv9, hv10, hv11]
                    have HV9 := Lib.hid hv9
                    have HV10 := Lib.hid hv10
                    have HV11 := Lib.hid hv11
                    clear hv9 hv10 hv11
                    go_wp2_with fail
                    exact freePost _ rfl ⟨⟨WritesF.refl _ _, hj⟩, upd_self⟩
                  · intro V L H wq hw hk hj hd
                    obtain ⟨⟨hL9, hM9, hH9, hv9⟩, -⟩ := hd
                    rw [hv9]
                    have HV9 := Lib.hid hv9
                    clear hv9
                    go_wp2_with fail
                    exact freePost _ rfl ⟨⟨WritesF.refl _ _, hj⟩, upd_self⟩
                  · intro V L H wq hw hk hj hd
                    obtain ⟨⟨hL9, hM9, hH9, hv9⟩, ⟨hL12, hM12, hH12, hv12⟩, ⟨hL13, hM13, hH13, hv13⟩, -⟩ := hd
                    rw [hv9, hv12, hv13]
                    have HV9 := Lib.hid hv9
                    have HV12 := Lib.hid hv12
                    have HV13 := Lib.hid hv13
                    clear hv9 hv12 hv13
                    go_wp2_with fail
                    exact freePost _ rfl ⟨⟨WritesF.refl _ _, hj⟩, upd_self⟩
                  · intro V L H wq hw hk hj hd
                    obtain ⟨⟨hL9, hM9, hH9, hv9⟩, ⟨hL14, hM14, hH14, hv14⟩, -⟩ := hd
                    rw [hv9, hv14]
                    have HV9 := Lib.hid hv9
                    have HV14 := Lib.hid hv14
                    clear hv9 hv14
                    go_wp2_with fail
                    exact freePost _ rfl ⟨⟨WritesF.refl _ _, hj⟩, upd_self⟩
                  · intro V L H wq hw hk hj hd
                    obtain ⟨⟨hL15, hM15, hH15, hv15⟩, -⟩ := hd
                    rw [hv15]
                    have HV15 := Lib.hid hv15
                    clear hv15
                    go_wp2_with fail
                    exact freePost _ rfl ⟨⟨WritesF.refl _ _, hj⟩, upd_self⟩
                  · intro V L H wq hw hk hj hd
                    obtain ⟨⟨hL15, hM15, hH15, hv15⟩, -⟩ := hd
                    rw [hv15]
                    have HV15 := Lib.hid hv15
                    clear hv15
                    go_wp2_with fail
                    exact freePost _ rfl ⟨⟨WritesF.refl _ _, hj⟩, upd_self⟩
                  · intro V L H wq hw hk hj hd
                    obtain ⟨⟨hL15, hM15, hH15, hv15⟩, -⟩ := hd
                    rw [hv15]
                    have HV15 := Lib.hid hv15
                    clear hv15
                    go_wp2_with fail
                    exact freePost _ rfl ⟨⟨WritesF.refl _ _, hj⟩, upd_self⟩
                  · intro V L H wq hw hk hj hd
                    obtain ⟨⟨hL15, hM15, hH15, hv15⟩, -⟩ := hd
                    rw [hv15]
                    have HV15 := Lib.hid hv15
                    clear hv15
                    go_wp2_with fail
                    exact freePost _ rfl ⟨⟨WritesF.refl _ _, hj⟩, upd_self⟩
                  · intro V L H wq hw hk hj hd
                    obtain ⟨⟨hL15, hM15, hH15, hv15⟩, -⟩ := hd
                    rw [hv15]
                    have HV15 := Lib.hid hv15
                    clear hv15
                    go_wp2_with fail
                    exact freePost _ rfl ⟨⟨WritesF.refl _ _, hj⟩, upd_self⟩
                  · intro V L H wq hw hk hj hd
                    obtain ⟨⟨hL15, hM15, hH15, hv15⟩, -⟩ := hd
                    rw [hv15]
                    have HV15 := Lib.hid hv15
                    clear hv15
                    go_wp2_with fail
                    exact freePost _ rfl ⟨⟨WritesF.refl _ _, hj⟩, upd_self⟩
                  · intro V L H wq hw hk hj hd
                    obtain ⟨⟨hL15, hM15, hH15, hv15⟩, -⟩ := hd
                    rw [hv15]
                    have HV15 := Lib.hid hv15
                    clear hv15
                    go_wp2_with fail
                    exact freePost _ rfl ⟨⟨WritesF.refl _ _, hj⟩, upd_self⟩
                  · intro V L H wq hw hk hj hd
                    obtain ⟨⟨hL9, hM9, hH9, hv9⟩, -⟩ := hd
                    rw [hv9]
                    have HV9 := Lib.hid hv9
                    clear hv9
                    go_wp2_with fail
                    exact freePost _ rfl ⟨⟨WritesF.refl _ _, hj⟩, upd_self⟩
                  · intro V L H wq hw hk hj hd
                    obtain ⟨⟨hL9, hM9, hH9, hv9⟩, ⟨hL23, hM23, hH23, hv23⟩, -⟩ := hd
                    rw [hv9, hv23]
                    have HV9 := Lib.hid hv9
                    have HV23 := Lib.hid hv23
                    clear hv9 hv23
                    go_wp2_with fail
                    exact freePost _ rfl ⟨⟨WritesF.refl _ _, hj⟩, upd_self⟩
                  · intro V L H wq hw hj hd hap hdead
                    obtain ⟨⟨hL0, hM0, hH0, hv0⟩, ⟨hL1, hM1, hH1, hv1⟩, ⟨hL2, hM2, hH2, hv2⟩, ⟨hL3, hM3, hH3, hv3⟩, ⟨hL4, hM4, hH4, hv4⟩, ⟨hL5, hM5, hH5, hv5⟩, ⟨hL6, hM6, hH6, hv6⟩, ⟨hL7, hM7, hH7, hv7⟩, ⟨hL8, hM8, hH8, hv8⟩, ⟨hL9, hM9, hH9, hv9⟩, ⟨hL10, hM10, hH10, hv10⟩, ⟨hL11, hM11, hH11, hv11⟩, ⟨hL12, hM12, hH12, hv12⟩, ⟨hL13, hM13, hH13, hv13⟩, ⟨hL14, hM14, hH14, hv14⟩, ⟨hL15, hM15, hH15, hv15⟩, ⟨hL16, hM16, hH16, hv16⟩, ⟨hL17, hM17, hH17, hv17⟩, ⟨hL18, hM18, hH18, hv18⟩, ⟨hL19, hM19, hH19, hv19⟩, ⟨hL20, hM20, hH20, hv20⟩, ⟨hL21, hM21, hH21, hv21⟩, ⟨hL22, hM22, hH22, hv22⟩, ⟨hL23, hM23, hH23, hv23⟩, ⟨hL24, hM24, hH24, hv24⟩, -⟩ := hd
                    rw [hv0, hv1, hv2, hv3, hv4, hv5, hv6, hv7, hv8, hv9, hv10, hv11, hv12, hv13, hv14, hv15, hv16, hv17, hv18, hv19, hv20, hv21, hv22, hv23, hv24]
                    clear hv0 hv1 hv2 hv3 hv4 hv5 hv6 hv7 hv8 hv9 hv10 hv11 hv12 hv13 hv14 hv15 hv16 hv17 hv18 hv19 hv20 hv21 hv22 hv23 hv24
                    have HW := Lib.hid (HBR.out.trans ((fa_noneK hw).mono HBR.out.size))
                    clear hw hj hap hdead
                    go_wp2
                    go_roundw
                    case rel => exact ⟨m + 1, by omega, by go_num, HQ1.out, HW.out⟩
                    case measure => simp [intOf]; omega
            · obtain rfl : m = k := by omega
              have HG1 := Lib.hid (show ∀ q, q < m + 1 → goodI tr kp cs q from fun q hq => by
                rcases Nat.lt_or_ge q m with h | h
                · exact HG.out q h
                · obtain rfl : q = m := by omega
                  exact ⟨by rw [HZE.out]; exact hnn, HQ.out⟩)
              go_wp2
              go_roundw
              case rel => exact ⟨m + 1, by omega, by go_num, HG1.out, HBR.out⟩
              case measure => simp [intOf]; omega
      · obtain rfl : k = cs.length := by omega
        have HE := Lib.hid (checkS_yes HLEN.out (fun q hq => HG.out q (by have := HLEN.out; omega)))
        go_wp2
        go_ret
        exact ⟨congrArg (fun q => Ending.returned (Value.bool q)) HE.out.symm, HB.out⟩
  · have HE := Lib.hid (checkS_no (kp := kp) hlen)
    have h1 : ((cs.length : Int) == (tr.length : Int)) = false := by simpa using (show ¬ ((cs.length : Int) = (tr.length : Int)) by omega)
    have h2 : ((tr.length : Int) == (cs.length : Int)) = false := by simpa using (show ¬ ((tr.length : Int) = (cs.length : Int)) by omega)
    clear hs hsk hsc hin hlen
    go_enter Try.func12, Try.ntmps12
    go_wp2
    go_ret
    exact ⟨congrArg (fun q => Ending.returned (Value.bool q)) HE.out.symm, Below.refl _ _⟩
end Go.Proofs.Ytopcpgbhmnlcnaa
