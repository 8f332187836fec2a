/-
  l12At, l12Reached, l12Heights, MinHeight and IsProductive of the model.
-/
import Derived.Test.YtakajfhkgjhnpaaHts
import Derived.Test.YtakajfhkgjhnpaaNumF
import Derived.Test.YtakajfhkgjhnpaaFreeA
import Derived.Test.YtakajfhkgjhnpaaSpread3
import Derived.Deep.QuietTactic
import Derived.BigQuiet
namespace Go.Proofs.Ytakajfhkgjhnpaa
open Go.ChangeShapes Go.WideShapes Go.ChangeAt Go.RowKit Go.Deep

set_option maxHeartbeats 1600000 in
set_option maxRecDepth 100000 in
theorem spec_l12At {lo hi n1 c0 c1 : Nat} {a0 a1 : Option Addr} (l : List DSymbol) (hz : lsz DSymbol.sz l ≤ 1048576) (nm : ByteArray) (w : World) (hhi : hi ≤ w.heap.size) (hs : Sl lo hi w 2 l.length (fun k => DSymbol.ct (l.getD k default)) a0) :
    Calls Try.prog 14 #[.agg #[.slice a0 l.length c0, .slice a1 n1 c1], .string nm] w fun e w' => e = .returned (.int .i64 (idxI (PSym nm) l)) ∧ Below w.heap.size w w' := by
  have hn : l.length ≤ 1048576 := by unfold lsz at hz; omega
  have HB := Lib.hid ((Below.refl w.heap.size w).alloc (Nat.le_refl _) (.cells #[.slice a0 l.length c0, .slice a1 n1 c1] 31))
  have HS := Lib.hid hs
  have HHI := Lib.hid hhi
  clear hs hhi hz
  go_enter Try.func14, Try.ntmps14
  go_wp2
  go_loop [5] (fun i => ∃ k : Nat, k ≤ l.length ∧ i = .int .i64 (k : Int) ∧ noneBelow (PSym nm) l k) (fun i => l.length - (intOf i).toNat)
  case atStart => exact ⟨0, Nat.zero_le _, rfl, noneBelow_zero _ _⟩
  case round =>
    obtain ⟨k, hk, rfl, hno⟩ := hrel
    have HNO := Lib.hid hno
    clear hno
    by_cases hlt : k < l.length
    · obtain ⟨b, off, rfl, _, hbh, hc⟩ := (HS.out.later HB.out HHI.out).at k hlt
      obtain ⟨a1', c1', hc0, hc1, _⟩ := DSymbol.open hc
      have hkI : (0 : Int) ≤ (k : Int) ∧ (k : Int) < (l.length : Int) := by omega
      have hbw : b < w.heap.size := Nat.lt_of_lt_of_le hbh HHI.out
      clear hc
      by_cases he : (l.getD k default).fName = nm
      · have FIN := Lib.hid (idxI_at hlt (PSym_yes he) HNO.out)
        rw [he] at hc0
        clear he hc1
        go_wp2
        go_ret
        exact ⟨ret_i FIN.out.symm, HB.out⟩
      · have HNX := Lib.hid (noneBelow_succ HNO.out (PSym_no he))
        have e2 : ((l.getD k default).fName.toList == nm.toList) = false := beq_eq_false_iff_ne.2 (fun e => he (toList_inj9 e))
        clear he hc1
        generalize (l.getD k default).fName = q at *
        go_wp2
        go_round
        case rel => exact ⟨k + 1, by omega, by go_num, HNX.out⟩
        case measure => simp [intOf]; omega
    · obtain rfl : k = l.length := by omega
      have FIN := Lib.hid (idxI_none HNO.out)
      go_wp2
      go_ret
      exact ⟨ret_i FIN.out.symm, HB.out⟩


theorem info_intH : (Try.prog.info? 3).map (fun i => (i.zero, i.size, i.bytes)) = some (some (.int .i64 0), 1, 8) := by kernel_rfl
def vInt (z : Int) : List Value := [.int .i64 z]
theorem vInt_len (z : Int) : (vInt z).length = 1 := rfl
theorem vInt_ct (z : Int) (c : Nat) (h : c < 1) : ictI z c = .lit ((vInt z).getD c .nilFunc) := match c, h with | 0, _ => rfl
theorem vInt_one (z : Int) : ∀ u ∈ vInt z, u.oneCell' = true := by intro u hu; unfold vInt at hu; rw [List.mem_singleton] at hu; subst hu; rfl
theorem range_map_get {n k : Nat} (f : Nat → Int) (hk : k < n) : ((List.range n).map f).getD k default = f k := by rw [List.getD_eq_getElem?_getD, List.getElem?_map, List.getElem?_range hk]; rfl
theorem reached_snoc (h : ByteArray → Int) (nm : ByteArray) (l : List DRule) (r : DRule) : reached h nm (l ++ [r]) = (reached h nm l || (decide (r.fLeft = nm) && allPos h r.fRight)) := by
  unfold reached; rw [List.any_append, List.any_cons, List.any_nil, Bool.or_false]
theorem reached_at {h : ByteArray → Int} {nm : ByteArray} {l : List DRule} {j : Nat} (hj : j < l.length) (hr : (decide ((l.getD j default).fLeft = nm) && allPos h (l.getD j default).fRight) = true) : reached h nm l = true := by
  unfold reached
  rw [List.getD_eq_getElem?_getD, List.getElem?_eq_getElem hj, Option.getD_some] at hr
  exact List.any_eq_true.2 ⟨l[j], List.getElem_mem hj, hr⟩
theorem allPos_snoc (h : ByteArray → Int) (l : List ByteArray) (s : ByteArray) : allPos h (l ++ [s]) = (allPos h l && decide (0 < h s)) := by unfold allPos; rw [List.all_append, List.all_cons, List.all_nil, Bool.and_true]
theorem allPos_step {h : ByteArray → Int} {l : List ByteArray} {k : Nat} (hk : k < l.length) (d : Bool) : (d && allPos h (l.take (k + 1))) = ((d && allPos h (l.take k)) && decide (0 < h (l.getD k default))) := by rw [take_snoc hk, allPos_snoc, Bool.and_assoc]
theorem idx_sym {l : List DSymbol} {s : ByteArray} {m : Nat} (h : idxI (PSym s) l = m) : m < l.length ∧ (l.getD m default).fName = s := by
  unfold idxI at h
  split at h
  · rename_i k hk
    obtain ⟨hl, hp, _⟩ := List.findIdx?_eq_some_iff_getElem.1 hk
    have e : k = m := by omega
    subst e
    exact ⟨hl, by rw [List.getD_eq_getElem?_getD, List.getElem?_eq_getElem hl]; exact toList_inj9 (beq_iff_eq.1 hp)⟩
  · omega
theorem idx_symB {l : List DSymbol} {s : ByteArray} (h : idxI (PSym s) l < 0) : symB l s = false := by unfold symB; exact decide_eq_false (by omega)

set_option maxHeartbeats 1600000 in
set_option maxRecDepth 100000 in
theorem spec_l1MaxN (m : Nat) (hm : m ≤ 1048576) (w : World) : Calls Try.prog 33 #[.int .i64 (m : Int), .int .i64 0] w fun e w' => e = .returned (.int .i64 (m : Int)) ∧ w = w' := by
  by_cases h : 0 < m
  · have hI : (0 : Int) < (m : Int) := by omega
    go_enter Try.func33, Try.ntmps33
    go_wp2
    go_ret
    exact ⟨rfl, rfl⟩
  · obtain rfl : m = 0 := by omega
    go_enter Try.func33, Try.ntmps33
    go_wp2
    go_ret
    exact ⟨rfl, rfl⟩

set_option maxHeartbeats 12800000 in
set_option maxRecDepth 100000 in
theorem spec_l12Reached {lo2 hi2 ch : Nat} {ah : Option Addr} {lo hi : Nat} {a0 a1 : Option Addr} {c0_0 c0_1 : Nat} (g : DGrammar) (hszg : g.sz ≤ 1048576) (h : ByteArray → Int) (hun : ∀ s, symB g.fSymbols s = false → h s = 0) (nm : ByteArray) (w : World) (hhi : hi ≤ w.heap.size) (hs0 : Sl lo hi w 2 g.fSymbols.length (fun k => DSymbol.ct (g.fSymbols.getD k default)) a0) (hs1 : Sl lo hi w 6 g.fRules.length (fun k => DRule.ct (g.fRules.getD k default)) a1) (hhi2 : hi2 ≤ w.heap.size) (hsh : Sl lo2 hi2 w 1 g.fSymbols.length (fun k => ictI (h (g.fSymbols.getD k default).fName)) ah) :
    Calls Try.prog 23 #[.agg #[.slice a0 g.fSymbols.length c0_0, .slice a1 g.fRules.length c0_1], .string nm, .slice ah g.fSymbols.length ch] w fun e w' => e = .returned (.bool (reached h nm g.fRules)) ∧ Below w.heap.size w w' := by
  have hzs : lsz DSymbol.sz g.fSymbols ≤ 1048576 := by unfold DGrammar.sz at hszg; omega
  have hzr : lsz DRule.sz g.fRules ≤ 1048576 := by unfold DGrammar.sz at hszg; omega
  have hnr : g.fRules.length ≤ 1048576 := by unfold lsz at hzr; omega
  have hns : g.fSymbols.length ≤ 1048576 := by unfold lsz at hzs; omega
  have HB := Lib.hid ((Below.refl w.heap.size w).alloc (Nat.le_refl _) (.cells #[.slice a0 g.fSymbols.length c0_0, .slice a1 g.fRules.length c0_1] 31))
  have HS0 := Lib.hid (hs0.later HB.out hhi)
  have HS1 := Lib.hid (hs1.later HB.out hhi)
  have HSH := Lib.hid (hsh.later HB.out hhi2)
  have HHI := Lib.hid hhi
  have HHI2 := Lib.hid hhi2
  have HZS := Lib.hid hzs
  have HZR := Lib.hid hzr
  have HUN := Lib.hid hun
  have HCG := Lib.hid (show (w.alloc (.cells #[.slice a0 g.fSymbols.length c0_0, .slice a1 g.fRules.length c0_1] 31)).heap[w.heap.size]? = some (.cells #[.slice a0 g.fSymbols.length c0_0, .slice a1 g.fRules.length c0_1] 31) from blk_new rfl)
  have HZ0 := Lib.hid (show (w.alloc (.cells #[.slice a0 g.fSymbols.length c0_0, .slice a1 g.fRules.length c0_1] 31)).heap.size = w.heap.size + 1 by simp)
  clear hs0 hs1 hsh hhi hhi2 hszg hzs hzr hun
  go_enter Try.func23, Try.ntmps23
  go_wp2
  go_loopw [7] (fun i wr => ∃ j : Nat, j ≤ g.fRules.length ∧ i = .int .i64 (j : Int) ∧ reached h nm (g.fRules.take j) = false ∧ Below (w.heap.size + 1) (w.alloc (.cells #[.slice a0 g.fSymbols.length c0_0, .slice a1 g.fRules.length c0_1] 31)) wr) (fun i _ => g.fRules.length - (intOf i).toNat)
  case atStart => exact ⟨0, Nat.zero_le _, rfl, rfl, Below.refl _ _⟩
  case round =>
    obtain ⟨j, hj, rfl, hno, hbl⟩ := hrel
    obtain ⟨wq, rfl⟩ : ∃ wq : World, wq = wr := ⟨_, rfl⟩
    have HNO := Lib.hid hno
    have HBL := Lib.hid hbl
    have hsz1 : w.heap.size + 1 ≤ wq.heap.size := by have := hbl.size; rw [HZ0.out] at this; exact this
    have hk0 : w.heap.size < wq.heap.size := by omega
    have HCGW := Lib.hid (fun (W : World) (hW : Below wq.heap.size wq W) => (hW.block w.heap.size hk0).trans ((hbl.block w.heap.size (by omega)).trans HCG.out))
    have g0 : wq.cell? ⟨w.heap.size, 0, none⟩ = some (.slice a0 g.fSymbols.length c0_0) := pblk_cell (j := 0) (v := .slice a0 g.fSymbols.length c0_0) (HCGW.out _ (Below.refl _ _)) rfl
    have g1 : wq.cell? ⟨w.heap.size, 1, none⟩ = some (.slice a1 g.fRules.length c0_1) := pblk_cell (j := 1) (v := .slice a1 g.fRules.length c0_1) (HCGW.out _ (Below.refl _ _)) rfl
    have HB1 := Lib.hid (show Below w.heap.size w wq from HB.out.trans (hbl.mono (by omega)))
    clear hno hbl
    by_cases hlt : j < g.fRules.length
    · obtain ⟨b, off, rfl, _, hbh, hc⟩ := (HS1.out.later (HBL.out.mono (by omega)) HHI.out).at j hlt
      obtain ⟨a2, c2, a4, c4, a5, c5, hc0, hc1, hc2, hc3, hc4, hc5, hR, _, _⟩ := DRule.open hc
      have hbw : b < wq.heap.size := by have := HHI.out; omega
      have hjI : (0 : Int) ≤ (j : Int) ∧ (j : Int) < (g.fRules.length : Int) := by omega
      have HST := Lib.hid (show reached h nm (g.fRules.take (j + 1)) = (reached h nm (g.fRules.take j) || (decide ((g.fRules.getD j default).fLeft = nm) && allPos h (g.fRules.getD j default).fRight)) from by rw [take_snoc hlt, reached_snoc])
      have HYS := Lib.hid (fun hr => reached_at (h := h) (nm := nm) hlt hr)
      have HRZ := Lib.hid (Nat.le_trans (szle_at (f := DRule.sz) g.fRules j hlt) HZR.out)
      have HRR := Lib.hid (hR.mono (Nat.zero_le _) HHI.out)
      clear hc hR
      generalize g.fRules.getD j default = y at *
      have hrl : y.fRight.length ≤ 1048576 := by have h1 := HRZ.out; unfold DRule.sz lsz at h1; omega
      have HDL := Lib.hid (show (y.fLeft.toList == nm.toList) = decide (y.fLeft = nm) from by
        by_cases he : y.fLeft = nm
        · rw [he]; simp
        · rw [decide_eq_false he]; exact beq_eq_false_iff_ne.2 (fun e => he (toList_inj9 e)))
      clear HRZ
      have HWB := Lib.hid (show Below wq.heap.size wq (wq.alloc (.cells #[.string y.fName, .string y.fLeft, .slice a2 y.fRight.length c2, .bool y.fLiteral, .slice a4 y.fEquations.length c4, .slice a5 y.fContributions.length c5] 64)) from (Below.refl _ _).alloc (Nat.le_refl _) _)
      have HWZ := Lib.hid (show wq.heap.size < (wq.alloc (.cells #[.string y.fName, .string y.fLeft, .slice a2 y.fRight.length c2, .bool y.fLiteral, .slice a4 y.fEquations.length c4, .slice a5 y.fContributions.length c5] 64)).heap.size by simp)
      have HWC := Lib.hid (show (wq.alloc (.cells #[.string y.fName, .string y.fLeft, .slice a2 y.fRight.length c2, .bool y.fLiteral, .slice a4 y.fEquations.length c4, .slice a5 y.fContributions.length c5] 64)).heap[wq.heap.size]? = some (.cells #[.string y.fName, .string y.fLeft, .slice a2 y.fRight.length c2, .bool y.fLiteral, .slice a4 y.fEquations.length c4, .slice a5 y.fContributions.length c5] 64) from blk_new rfl)
      go_wp2
      go_loopw [9, 10] (fun gd i wr => ∃ k : Nat, k ≤ y.fRight.length ∧ i = .int .i64 (k : Int) ∧ gd = .bool (decide (y.fLeft = nm) && allPos h (y.fRight.take k)) ∧ Below (wq.alloc (.cells #[.string y.fName, .string y.fLeft, .slice a2 y.fRight.length c2, .bool y.fLiteral, .slice a4 y.fEquations.length c4, .slice a5 y.fContributions.length c5] 64)).heap.size (wq.alloc (.cells #[.string y.fName, .string y.fLeft, .slice a2 y.fRight.length c2, .bool y.fLiteral, .slice a4 y.fEquations.length c4, .slice a5 y.fContributions.length c5] 64)) wr) (fun _ i _ => y.fRight.length - (intOf i).toNat)
      case atStart => exact ⟨0, Nat.zero_le _, rfl, by rw [HDL.out]; simp [allPos], Below.refl _ _⟩
      case round =>
        obtain ⟨k, hk, rfl, rfl, hbr⟩ := hrel
        obtain ⟨wv, rfl⟩ : ∃ wv : World, wv = wr := ⟨_, rfl⟩
        have HBR := Lib.hid (HWB.out.trans (hbr.mono (Nat.le_of_lt HWZ.out)))
        have hkv : wq.heap.size < wv.heap.size := Nat.lt_of_lt_of_le HWZ.out hbr.size
        have hkg : w.heap.size < wv.heap.size := by omega
        have HBO := Lib.hid hbr
        have HBX := Lib.hid ((hbr.block wq.heap.size HWZ.out).trans HWC.out)
        have p0 : wv.cell? ⟨w.heap.size, 0, none⟩ = some (.slice a0 g.fSymbols.length c0_0) := pblk_cell (j := 0) (v := .slice a0 g.fSymbols.length c0_0) (HCGW.out _ HBR.out) rfl
        have p1 : wv.cell? ⟨w.heap.size, 1, none⟩ = some (.slice (some ⟨b, off, none⟩) g.fRules.length c0_1) := pblk_cell (j := 1) (v := .slice (some ⟨b, off, none⟩) g.fRules.length c0_1) (HCGW.out _ HBR.out) rfl
        have q2 : wv.cell? ⟨wq.heap.size, 2, none⟩ = some (.slice a2 y.fRight.length c2) := pblk_cell (j := 2) HBX.out rfl
        clear hbr hc0 hc1 hc2 hc3 hc4 hc5 g0 g1
        generalize hgd : (decide (y.fLeft = nm) && allPos h (y.fRight.take k)) = gd
        have HGD := Lib.hid hgd
        by_cases hlt2 : k < y.fRight.length
        · obtain ⟨b2, off2, rfl, _, hbh2, hd⟩ := (HRR.out.later HBR.out (Nat.le_trans (Nat.le_of_lt hk0) (Nat.le_refl _))).at k hlt2
          obtain ⟨u, hcu, hlu⟩ := hd 0 (by decide)
          have cs : wv.cell? ⟨b2, off2 + k, none⟩ = some (.string (y.fRight.getD k default)) := by rw [← lies_lit hlu]; simpa using hcu
          have hb2w : b2 < wv.heap.size := by omega
          have hkI : (0 : Int) ≤ (k : Int) ∧ (k : Int) < (y.fRight.length : Int) := by omega
          have HSTP := Lib.hid (allPos_step (h := h) hlt2 (decide (y.fLeft = nm)))
          have HBA := Lib.hid (HBL.out.trans (HBR.out.mono (by omega)))
          clear hd hcu hlu hgd
          rw [HGD.out] at HSTP
          generalize y.fRight.getD k default = s at *
          go_wp2_with fail
          refine wp_region_free [([], none), ([], none), ([1], none), ([], none), ([2, 3], none), ([4], none), ([0, 5], none), ([6], none)] [0, 1, 2, 3, 4, 5, 6, 7] (fun jq9 V L H wx => match jq9 with | 0 => V 0 = .agg #[.slice a0 g.fSymbols.length c0_0, .slice (some ⟨b, off, none⟩) g.fRules.length c0_1] | 1 => V 1 = .pointer (some ⟨wq.heap.size, 2, none⟩) | 2 => V 2 = .slice (some ⟨b2, off2, none⟩) y.fRight.length c2 | 3 => V 3 = .int .i64 (k : Int) | 4 => V 4 = .pointer (some ⟨b2, off2 + k, none⟩) | 5 => V 5 = .string s | 6 => V 6 = .int .i64 (idxI (PSym s) g.fSymbols) | 7 => V 7 = V 6 | _ => True) (by kernel_rfl) (by kernel_rfl) ?loc ?lasts ?walk
          case loc =>
            intro k V V' L H wx h0 h1 hG
            match k with
            | 0 =>
              try dsimp only at hG ⊢
              rw [← h0]
              exact hG
            | 1 =>
              try dsimp only at hG ⊢
              rw [← h0]
              exact hG
            | 2 =>
              try dsimp only at hG ⊢
              rw [← h0]
              exact hG
            | 3 =>
              try dsimp only at hG ⊢
              rw [← h0]
              exact hG
            | 4 =>
              try dsimp only at hG ⊢
              rw [← h0]
              exact hG
            | 5 =>
              try dsimp only at hG ⊢
              rw [← h0]
              exact hG
            | 6 =>
              try dsimp only at hG ⊢
              rw [← h0]
              exact hG
            | 7 =>
              have e6 := h1 6 (by decide)
              try dsimp only at hG ⊢
              rw [← h0, ← e6]
              exact hG
            | n + 8 => trivial
          case lasts =>
            intro i hi V L H wx wy hB hH hk
            match i, hi with
            | 0, _ => exact fun h => h
            | 1, _ => exact fun h => h
            | 2, _ => exact fun h => h
            | 3, _ => exact fun h => h
            | 4, _ => exact fun h => h
            | 5, _ => exact fun h => h
            | 6, _ => exact fun h => h
            | 7, _ => exact fun h => h
            | n + 8, hn => exact absurd hn (by simp)
          case walk =>
            simp (maxSteps := 4000000) only [free, Nat.reduceAdd, Act.put, List.setIfInBounds_toArray, List.set_cons_succ, List.set_cons_zero]
            refine ⟨?_, ?_, ?_, ?_, ?_, ?_, ?_, ?_, ?_⟩
            · intro V L H w1 hb1 hd
              clear hd
              have p0 : w1.cell? ⟨w.heap.size, 0, none⟩ = some (.slice a0 g.fSymbols.length c0_0) := (hb1.cell (p := ⟨w.heap.size, 0, none⟩) hkg).trans p0
              have p1 : w1.cell? ⟨w.heap.size, 1, none⟩ = some (.slice (some ⟨b, off, none⟩) g.fRules.length c0_1) := (hb1.cell (p := ⟨w.heap.size, 1, none⟩) hkg).trans p1
              go_wp2_with fail
              exact freePost _ rfl ⟨Below.refl _ _, upd_self⟩
            · intro V L H w1 hb1 hd
              clear hd
              go_wp2_with fail
              exact freePost _ rfl ⟨Below.refl _ _, upd_self⟩
            · intro V L H w1 hb1 hd
              obtain ⟨⟨hL1, hM1, hH1, hv1⟩, -⟩ := hd
              rw [hv1]
              have HV1 := Lib.hid hv1
              clear hv1
              have q2 := (hb1.cell (p := ⟨wq.heap.size, 2, none⟩) hkv).trans q2
              go_wp2_with fail
              exact freePost _ rfl ⟨Below.refl _ _, upd_self⟩
            · intro V L H w1 hb1 hd
              clear hd
              go_wp2_with fail
              exact freePost _ rfl ⟨Below.refl _ _, upd_self⟩
            · intro V L H w1 hb1 hd
              obtain ⟨⟨hL2, hM2, hH2, hv2⟩, ⟨hL3, hM3, hH3, hv3⟩, -⟩ := hd
              rw [hv2, hv3]
              have HV2 := Lib.hid hv2
              have HV3 := Lib.hid hv3
              clear hv2 hv3
              go_wp2_with fail
              exact freePost _ rfl ⟨Below.refl _ _, upd_self⟩
            · intro V L H w1 hb1 hd
              obtain ⟨⟨hL4, hM4, hH4, hv4⟩, -⟩ := hd
              rw [hv4]
              have HV4 := Lib.hid hv4
              clear hv4
              have cs := (hb1.cell (p := ⟨b2, off2 + k, none⟩) hb2w).trans cs
              go_wp2_with fail
              exact freePost _ rfl ⟨Below.refl _ _, upd_self⟩
            · intro V L H w1 hb1 hd
              obtain ⟨⟨hL0, hM0, hH0, hv0⟩, ⟨hL5, hM5, hH5, hv5⟩, -⟩ := hd
              rw [hv0, hv5]
              have HV0 := Lib.hid hv0
              have HV5 := Lib.hid hv5
              clear hv0 hv5
              go_wp2_with fail
              refine (spec_l12At (c0 := c0_0) (c1 := c0_1) (a1 := some ⟨b, off, none⟩) (n1 := g.fRules.length) g.fSymbols HZS.out s _ (Nat.le_trans (Nat.le_trans HHI.out (Nat.le_of_lt hkg)) hb1.size) (HS0.out.later (HBA.out.mono (by omega) |>.trans (hb1.mono (by omega))) HHI.out)).mono ?_
              rintro e w2 ⟨rfl, hb2⟩
              go_wp2_with fail
              exact freePost _ rfl ⟨hb2, upd_self⟩
            · intro V L H w1 hb1 hd
              obtain ⟨⟨hL6, hM6, hH6, hv6⟩, -⟩ := hd
              rw [hv6]
              have HV6 := Lib.hid hv6
              clear hv6
              go_wp2_with fail
              exact freePost _ rfl ⟨Below.refl _ _, upd_self.trans (HV6.out.symm.trans (upd_ne (by decide)).symm)⟩
            · intro V L H w1 hb1 hd hap hdead
              obtain ⟨⟨hL0, hM0, hH0, hv0⟩, ⟨hL1, hM1, hH1, hv1⟩, ⟨hL2, hM2, hH2, hv2⟩, ⟨hL3, hM3, hH3, hv3⟩, ⟨hL4, hM4, hH4, hv4⟩, ⟨hL5, hM5, hH5, hv5⟩, ⟨hL6, hM6, hH6, hv6⟩, ⟨hL7, hM7, hH7, hv7⟩, -⟩ := hd
              have hv7' := hv7.trans hv6
              rw [hv0, hv1, hv2, hv3, hv4, hv5, hv6, hv7']
              clear hv0 hv1 hv2 hv3 hv4 hv5 hv6 hv7' hv7
              have HBW := Lib.hid (HBR.out.trans (hb1.mono (Nat.le_of_lt hkv)))
              have HBX1 := Lib.hid (HBO.out.trans (hb1.mono HBO.out.size))
              have HAB := Lib.hid (HBA.out.trans (hb1.mono (by omega)))
              have hszw : w.heap.size + 1 ≤ w1.heap.size := Nat.le_trans (by omega) hb1.size
              clear hap hdead hb1 p0 p1 q2 cs HBX
              cases gd
              · clear HGD
                go_wp2
                go_roundw
                case rel => exact ⟨k + 1, by omega, by go_num, by rw [HSTP.out]; rfl, HBX1.out⟩
                case measure => simp [intOf]; omega
              · by_cases hix : idxI (PSym s) g.fSymbols < 0
                · have hs0 := HUN.out s (idx_symB hix)
                  have HFF := Lib.hid (show (true && decide (0 < h s)) = false from by rw [hs0]; rfl)
                  have hixd : ¬ (0 ≤ idxI (PSym s) g.fSymbols) := by omega
                  clear hs0 HGD
                  generalize idxI (PSym s) g.fSymbols = z at *
                  go_wp2
                  go_roundw
                  case rel => exact ⟨k + 1, by omega, by go_num, by rw [HSTP.out, HFF.out], HBX1.out⟩
                  case measure => simp [intOf]; omega
                · obtain ⟨m, hm⟩ : ∃ m : Nat, idxI (PSym s) g.fSymbols = m := ⟨(idxI (PSym s) g.fSymbols).toNat, by omega⟩
                  obtain ⟨hml, hmn⟩ := idx_sym hm
                  rw [hm]
                  have hmI : (0 : Int) ≤ (m : Int) ∧ (m : Int) < (g.fSymbols.length : Int) := by omega
                  obtain ⟨b3, off3, rfl, _, hbh3, hd3⟩ := (HSH.out.later (HAB.out.mono (by omega)) HHI2.out).at m hml
                  obtain ⟨u3, hcu3, hlu3⟩ := hd3 0 (by decide)
                  have e3 : u3 = .int .i64 (h s) := (lies_lit hlu3).trans (by rw [hmn])
                  rw [e3] at hcu3
                  have c3 : w1.cell? ⟨b3, off3 + m, none⟩ = some (.int .i64 (h s)) := by simpa using hcu3
                  have hb3w : b3 < w1.heap.size := by have := HHI2.out; omega
                  clear hd3 hcu3 hlu3 e3 hmn hm hix HGD
                  generalize h s = z at *
                  by_cases hz : 0 < z
                  · have HFF := Lib.hid (show (true && decide (0 < z)) = true from by rw [decide_eq_true hz]; rfl)
                    go_wp2_with fail
                    refine (spec_l1MaxN m (by omega) _).mono ?_
                    rintro e w9 ⟨rfl, rfl⟩
                    go_wp2
                    go_roundw
                    case rel => exact ⟨k + 1, by omega, by go_num, by rw [HSTP.out, HFF.out], HBX1.out⟩
                    case measure => simp [intOf]; omega
                  · have HFF := Lib.hid (show (true && decide (0 < z)) = false from by rw [decide_eq_false hz]; rfl)
                    go_wp2_with fail
                    refine (spec_l1MaxN m (by omega) _).mono ?_
                    rintro e w9 ⟨rfl, rfl⟩
                    go_wp2
                    go_roundw
                    case rel => exact ⟨k + 1, by omega, by go_num, by rw [HSTP.out, HFF.out]; exact congrArg Value.bool (decide_eq_false (by omega)), HBX1.out⟩
                    case measure => simp [intOf]; omega
        · obtain rfl : k = y.fRight.length := by omega
          rw [List.take_length] at HGD
          clear hgd
          cases gd
          · have HF := Lib.hid (show reached h nm (g.fRules.take (j + 1)) = false from by rw [HST.out, HNO.out, HGD.out]; rfl)
            have HBE := Lib.hid (show Below (w.heap.size + 1) (w.alloc (.cells #[.slice a0 g.fSymbols.length c0_0, .slice (some ⟨b, off, none⟩) g.fRules.length c0_1] 31)) wv from HBL.out.trans (HBR.out.mono (by omega)))
            go_wp2
            go_roundw
            case rel => exact ⟨j + 1, by omega, by go_num, HF.out, HBE.out⟩
            case measure => simp [intOf]; omega
          · have HT := Lib.hid (HYS.out HGD.out)
            have HBE := Lib.hid (HB1.out.trans (HBR.out.mono (by omega)))
            go_wp2
            go_ret
            exact ⟨ret_b (by rw [HT.out]), HBE.out⟩
    · obtain rfl : j = g.fRules.length := by omega
      have HF := HNO.out
      rw [List.take_length] at HF
      have HFN := Lib.hid HF
      clear HF
      go_wp2
      go_ret
      exact ⟨ret_b (by rw [HFN.out]), HB1.out⟩

set_option maxHeartbeats 25600000 in
set_option maxRecDepth 100000 in
theorem spec_l12Heights {lo hi : Nat} {a0 a1 : Option Addr} {c0_0 c0_1 : Nat} (g : DGrammar) (hszg : g.sz ≤ 1048576) (w : World) (hhi : hi ≤ w.heap.size) (hs0 : Sl lo hi w 2 g.fSymbols.length (fun k => DSymbol.ct (g.fSymbols.getD k default)) a0) (hs1 : Sl lo hi w 6 g.fRules.length (fun k => DRule.ct (g.fRules.getD k default)) a1) :
    Calls Try.prog 15 #[.agg #[.slice a0 g.fSymbols.length c0_0, .slice a1 g.fRules.length c0_1]] w fun e w' => ∃ a c, e = .returned (.slice a g.fSymbols.length c) ∧ Own w' (fun z => w.heap.size ≤ z ∧ z < w'.heap.size) (.sl 1 g.fSymbols.length (fun k => ictI (hts g g.fSymbols.length (g.fSymbols.getD k default).fName))) (.slice a g.fSymbols.length c) ∧ Below w.heap.size w w' := by
  have hzs : lsz DSymbol.sz g.fSymbols ≤ 1048576 := by unfold DGrammar.sz at hszg; omega
  have hns : g.fSymbols.length ≤ 1048576 := by unfold lsz at hzs; omega
  have HB := Lib.hid ((Below.refl w.heap.size w).alloc (Nat.le_refl _) (.cells #[.slice a0 g.fSymbols.length c0_0, .slice a1 g.fRules.length c0_1] 31))
  have HRE := Lib.hid (fun (lo2 hi2 ch : Nat) (ah : Option Addr) (h : ByteArray → Int) (hun : ∀ s, symB g.fSymbols s = false → h s = 0) (nm : ByteArray) (W : World) (hW : Below w.heap.size w W) => spec_l12Reached (lo2 := lo2) (hi2 := hi2) (ch := ch) (ah := ah) (c0_0 := c0_0) (c0_1 := c0_1) g hszg h hun nm W (Nat.le_trans hhi hW.size) (hs0.later hW hhi) (hs1.later hW hhi))
  have HS0 := Lib.hid (hs0.later HB.out hhi)
  have HHI := Lib.hid hhi
  have HCG := Lib.hid (show (w.alloc (.cells #[.slice a0 g.fSymbols.length c0_0, .slice a1 g.fRules.length c0_1] 31)).heap[w.heap.size]? = some (.cells #[.slice a0 g.fSymbols.length c0_0, .slice a1 g.fRules.length c0_1] 31) from blk_new rfl)
  have HZ0 := Lib.hid (show (w.alloc (.cells #[.slice a0 g.fSymbols.length c0_0, .slice a1 g.fRules.length c0_1] 31)).heap.size = w.heap.size + 1 by simp)
  have HUN := Lib.hid (fun t s hs => hts_unlisted g (s := s) hs t)
  have HBD := Lib.hid (hts_bound g)
  obtain ⟨i0, hi', hz0, hz1, hz2⟩ := info_parts info_intH
  clear hs0 hs1 hhi hszg hzs
  go_enter Try.func15, Try.ntmps15
  go_wp2_with (at_make; refine wpList_make_full _ rfl (.tmp 9) (.tmp 9) 38 rfl (w.heap.size + 1) 3 i0 (.int .i64 0) 1 Try.underlying38 hi' hz0 hz1 .i64 .i64 (g.fSymbols.length : Int) (g.fSymbols.length : Int) g.fSymbols.length rfl rfl rfl rfl (by rw [hz2]; omega) (by unfold maxLen; omega) (by simp) ?_; intro wm hown hgrow)
  have hbm : Below (w.heap.size + 1) (w.alloc (.cells #[.slice a0 g.fSymbols.length c0_0, .slice a1 g.fRules.length c0_1] 31)) wm := (Below.refl _ _).grown hgrow (by simp) (fun k hk => by cases hk)
  rw [HZ0.out] at hown
  have HO0 := Lib.hid (show Own wm (fun y => w.heap.size + 1 ≤ y ∧ y < wm.heap.size) (.sl 1 g.fSymbols.length (fun k => ictI (hts g 0 (g.fSymbols.getD k default).fName))) (.slice (some ⟨w.heap.size + 1, 0, none⟩) g.fSymbols.length g.fSymbols.length) from ((numF_made hown).sub (fun y hy => hy)).congr (fun j hj q _ => by show ictI _ q = ictI _ q; rw [numF_rep hj]; rfl))
  have HBM := Lib.hid hbm
  clear hown hgrow hbm
  go_wp2
  go_loopw [3, 4] (fun v i wr => ∃ (t : Nat) (a : Option Addr) (c : Nat), i = .int .i64 ((t + 1 : Nat) : Int) ∧ t ≤ g.fSymbols.length ∧ v = .slice a g.fSymbols.length c ∧ Own wr (fun y => w.heap.size + 1 ≤ y ∧ y < wr.heap.size) (.sl 1 g.fSymbols.length (fun k => ictI (hts g t (g.fSymbols.getD k default).fName))) (.slice a g.fSymbols.length c) ∧ Below (w.heap.size + 1) (w.alloc (.cells #[.slice a0 g.fSymbols.length c0_0, .slice a1 g.fRules.length c0_1] 31)) wr) (fun _ i _ => g.fSymbols.length + 1 - (intOf i).toNat)
  case atStart => exact ⟨0, _, _, rfl, Nat.zero_le _, rfl, HO0.out, HBM.out⟩
  case round =>
    obtain ⟨t, a, c, rfl, ht, rfl, hown, hbl⟩ := hrel
    obtain ⟨wq, rfl⟩ : ∃ wq : World, wq = wr := ⟨_, rfl⟩
    have HO := Lib.hid hown
    have HBL := Lib.hid hbl
    have hsz1 : w.heap.size + 1 ≤ wq.heap.size := by have := hbl.size; rw [HZ0.out] at this; exact this
    have hk0 : w.heap.size < wq.heap.size := by omega
    have HCGA := Lib.hid ((hbl.block w.heap.size (by omega)).trans HCG.out)
    have g0 : wq.cell? ⟨w.heap.size, 0, none⟩ = some (.slice a0 g.fSymbols.length c0_0) := pblk_cell (j := 0) (v := .slice a0 g.fSymbols.length c0_0) HCGA.out rfl
    have g1 : wq.cell? ⟨w.heap.size, 1, none⟩ = some (.slice a1 g.fRules.length c0_1) := pblk_cell (j := 1) (v := .slice a1 g.fRules.length c0_1) HCGA.out rfl
    have HB1 := Lib.hid (show Below w.heap.size w wq from HB.out.trans (hbl.mono (by omega)))
    clear hown hbl
    by_cases hlt : t < g.fSymbols.length
    · have hle : ((t + 1 : Nat) : Int) ≤ (g.fSymbols.length : Int) := by omega
      have HSL := Lib.hid (show Sl (w.heap.size + 1) wq.heap.size wq 1 ((List.range g.fSymbols.length).map (fun k => hts g t (g.fSymbols.getD k default).fName)).length (fun k => ictI (((List.range g.fSymbols.length).map (fun k => hts g t (g.fSymbols.getD k default).fName)).getD k default)) a from by
        have h1 := Sl.of (HO.out.lies fun y hy => hy)
        rw [List.length_map, List.length_range]
        exact h1.congr fun k hk j _ => by show ictI _ j = ictI _ j; rw [range_map_get _ hk])
      have hll : ((List.range g.fSymbols.length).map (fun k => hts g t (g.fSymbols.getD k default).fName)).length = g.fSymbols.length := by rw [List.length_map, List.length_range]
      have HLL := Lib.hid hll
      have hle1 : ((List.range g.fSymbols.length).map (fun k => hts g t (g.fSymbols.getD k default).fName)).length ≤ 1048576 := by omega
      clear hll
      go_wp2_with (at_builtin; refine wpList_append_fresh rfl (.tmp 18) (.tmp 19) 38 rfl 3 i0 (.int .i64 0) 1 8 Try.underlying38 hi' hz0 hz1 hz2 rfl (by decide) wq.heap.size (blk_new rfl) rfl (vals := vInt) (ct := ictI) ((List.range g.fSymbols.length).map (fun k => hts g t (g.fSymbols.getD k default).fName)) a c (by rw [HLL.out]; rfl) vInt_len vInt_ct vInt_one (HSL.out.later ((Below.refl wq.heap.size wq).alloc (Nat.le_refl _) _) (Nat.le_refl _)) (by unfold maxLen; omega) (by omega) ?_; intro a5 c5 w5 ho5 hb5)
      have hsz5 : wq.heap.size < w5.heap.size := Nat.lt_of_lt_of_le (by simp) hb5.size
      have hst5 : Below wq.heap.size wq w5 := ((Below.refl wq.heap.size wq).alloc (Nat.le_refl _) _).trans (hb5.mono (by simp))
      have HO5 := Lib.hid (show Own w5 (fun y => wq.heap.size < y ∧ y < w5.heap.size) (.sl 1 g.fSymbols.length (fun q => ictI (if q < 0 then hts g (t + 1) (g.fSymbols.getD q default).fName else hts g t (g.fSymbols.getD q default).fName))) (.slice a5 g.fSymbols.length c5) from by
        rw [HLL.out] at ho5
        exact (ho5.sub (fun y hy => ⟨by have := hy.1; simp at this; omega, hy.2⟩)).congr fun k hk j _ => by show ictI _ j = ictI _ j; rw [range_map_get _ hk, if_neg (Nat.not_lt_zero _)])
      have HO3 := Lib.hid (HO.out.kept (Kept.of_below_all hst5))
      have HB5 := Lib.hid hst5
      have HBL5 := Lib.hid (HBL.out.trans (hst5.mono hsz1))
      clear ho5 hb5 hst5 g0 g1 HSL
      go_wp2
      go_loopw [6] (fun i wr => ∃ k : Nat, k ≤ g.fSymbols.length ∧ i = .int .i64 (k : Int) ∧ Own wr (fun y => wq.heap.size < y ∧ y < w5.heap.size) (.sl 1 g.fSymbols.length (fun q => ictI (if q < k then hts g (t + 1) (g.fSymbols.getD q default).fName else hts g t (g.fSymbols.getD q default).fName))) (.slice a5 g.fSymbols.length c5) ∧ WritesF (fun y => wq.heap.size < y ∧ y < w5.heap.size) w5 wr) (fun i _ => g.fSymbols.length - (intOf i).toNat)
      case atStart => exact ⟨0, Nat.zero_le _, rfl, HO5.out, WritesF.refl _ _⟩
      case round =>
        obtain ⟨k, hk, rfl, hown, hwr⟩ := hrel
        obtain ⟨wv, rfl⟩ : ∃ wv : World, wv = wr := ⟨_, rfl⟩
        have HOV := Lib.hid hown
        have HWV := Lib.hid hwr
        have HOT := Lib.hid (HO3.out.kept (hwr.kept (fun y hy hf => by have h1 := hy.2; have h2 := hf.1; omega)))
        have hsv := hwr.size
        have HBV := Lib.hid (HBL5.out.trans (hwr.below (fun y hy => by have := hy.1; omega) (by omega)))
        have hk0v : w.heap.size < wv.heap.size := by omega
        have HCGV := Lib.hid ((HBV.out.block w.heap.size (by omega)).trans HCG.out)
        have g0 : wv.cell? ⟨w.heap.size, 0, none⟩ = some (.slice a0 g.fSymbols.length c0_0) := pblk_cell (j := 0) (v := .slice a0 g.fSymbols.length c0_0) HCGV.out rfl
        have g1 : wv.cell? ⟨w.heap.size, 1, none⟩ = some (.slice a1 g.fRules.length c0_1) := pblk_cell (j := 1) (v := .slice a1 g.fRules.length c0_1) HCGV.out rfl
        clear hown hwr
        by_cases hlt2 : k < g.fSymbols.length
        · obtain ⟨b5, o5, rfl, hF5, hb5, hc5, hf5⟩ := numF_at HOV.out (by omega)
          obtain ⟨b3, o3, rfl, hF3, hb3, hc3, hf3⟩ := numF_at HOT.out (by omega)
          obtain ⟨b0, f0, rfl, _, hb0h, hd0⟩ := (HS0.out.later (HBV.out.mono (by omega)) HHI.out).at k hlt2
          obtain ⟨ax, cx, hn0, _, _⟩ := DSymbol.open hd0
          have hc3k := hc3 k hlt2
          have hc5k := hc5 k hlt2
          have hf5k := hf5 (o5 + k)
          have hb0w : b0 < wv.heap.size := by have := HHI.out; omega
          have hkI : (0 : Int) ≤ (k : Int) ∧ (k : Int) < (g.fSymbols.length : Int) := by omega
          have hmem : g.fSymbols.getD k default ∈ g.fSymbols := by rw [List.getD_eq_getElem?_getD, List.getElem?_eq_getElem hlt2]; exact List.getElem_mem hlt2
          have HNX := Lib.hid (hts_next (t := t) hmem)
          have HSET := Lib.hid (fun (W : World) (z : Int) (hW : Kept (fun y => wq.heap.size < y ∧ y < w5.heap.size) wv W) (hz : z = hts g (t + 1) (g.fSymbols.getD k default).fName) => numF_set (g' := fun q => if q < k + 1 then hts g (t + 1) (g.fSymbols.getD q default).fName else hts g t (g.fSymbols.getD q default).fName) (HOV.out.kept hW) k hlt2 z (by rw [if_pos (Nat.lt_succ_self k)]; exact hz) (fun q _ hq => by
            by_cases h1 : q < k
            · rw [if_pos h1, if_pos (by omega)]
            · rw [if_neg h1, if_neg (by omega)]))
          have HSAME := Lib.hid (fun (W : World) (hW : Kept (fun y => wq.heap.size < y ∧ y < w5.heap.size) wv W) (hz : hts g t (g.fSymbols.getD k default).fName = hts g (t + 1) (g.fSymbols.getD k default).fName) => (show Own W (fun y => wq.heap.size < y ∧ y < w5.heap.size) (.sl 1 g.fSymbols.length (fun q => ictI (if q < k + 1 then hts g (t + 1) (g.fSymbols.getD q default).fName else hts g t (g.fSymbols.getD q default).fName))) (.slice (some ⟨b5, o5, none⟩) g.fSymbols.length c5) from (HOV.out.kept hW).congr (fun q _ j _ => by
            show ictI _ j = ictI _ j
            by_cases h1 : q < k
            · rw [if_pos h1, if_pos (by omega)]
            · rw [if_neg h1]
              by_cases h2 : q = k
              · subst h2; rw [if_pos (Nat.lt_succ_self _), hz]
              · rw [if_neg (by omega)])))
          have HSL3 := Lib.hid (Sl.of (HOT.out.lies fun y hy => (⟨hy.1, Nat.lt_of_lt_of_le hy.2 (Nat.le_trans (Nat.le_of_lt hsz5) hsv)⟩ : w.heap.size + 1 ≤ y ∧ y < wv.heap.size)))
          clear hc3 hc5 hf3 hf5 hd0 hmem hb3
          have hb3w : b3 < wv.heap.size := by have := hF3.2; omega
          have HREK := Lib.hid (fun (W : World) (hW : Below wv.heap.size wv W) => HRE.out _ _ c _ (hts g t) (HUN.out t) (g.fSymbols.getD k default).fName W (HB.out.trans (HBV.out.mono (by omega)) |>.trans (hW.mono (by omega))) hW.size (HSL3.out.later hW (Nat.le_refl _)))
          generalize hnm : (g.fSymbols.getD k default).fName = s at *
          clear hnm
          by_cases hz : hts g t s = 0
          · rw [hz] at hc3k
            generalize hrr : reached (hts g t) s g.fRules = r at *
            have HNY := Lib.hid (show r = true → hts g (t + 1) s = ((t + 1 : Nat) : Int) from fun h => by rw [HNX.out, if_pos ⟨hz, h⟩])
            have HNN := Lib.hid (show r = false → hts g t s = hts g (t + 1) s from fun h => by rw [HNX.out, if_neg (fun e => by rw [h] at e; exact absurd e.2 (by decide))])
            clear hrr HNX
            go_wp2_with fail
            refine wp_region_freeK [([], .none, []), ([], .none, []), ([0, 1], .none, []), ([2], .none, []), ([3], .none, []), ([4], .none, []), ([5], .none, []), ([5], .none, []), ([7, 5], .none, []), ([5], .none, []), ([8, 9, 5], .none, []), ([10, 5], .none, []), ([11, 5], .none, []), ([5], .none, []), ([6, 12, 13, 5], .none, []), ([5, 14], .none, [])] [0, 1, 2, 3, 4, 5, 6, 7, 8, 9, 10, 11, 12, 13, 14, 15] [] (fun _ => False) (fun _ => True) (fun _ => 0) (fun jq9 V L H wx => match jq9 with | 0 => V 0 = .slice (some ⟨b3, o3, none⟩) g.fSymbols.length c | 1 => V 1 = .int .i64 (k : Int) | 2 => V 2 = .pointer (some ⟨b3, o3 + k, none⟩) | 3 => V 3 = .int .i64 0 | 4 => V 4 = .bool true | 5 => V 5 = .bool true | 6 => V 6 = .agg #[.slice (some ⟨b0, f0, none⟩) g.fSymbols.length c0_0, .slice a1 g.fRules.length c0_1] | 7 => V 7 = .pointer (some ⟨w.heap.size, 0, none⟩) | 8 => V 8 = .slice (some ⟨b0, f0, none⟩) g.fSymbols.length c0_0 | 9 => V 9 = .int .i64 (k : Int) | 10 => V 10 = .pointer (some ⟨b0, f0 + k * 2, none⟩) | 11 => V 11 = .pointer (some ⟨b0, f0 + k * 2, none⟩) | 12 => V 12 = .string s | 13 => V 13 = .slice (some ⟨b3, o3, none⟩) g.fSymbols.length c | 14 => V 14 = .bool r | 15 => V 15 = .bool r | _ => True) (by kernel_rfl) (by kernel_rfl) ?obs (fun _ h => h.elim) trivial (fun _ _ _ _ _ => trivial) ?loc ?lasts ?walk
            case obs =>
              trivial
            case loc =>
              intro k V V' L H wx h0 h1 hG
              match k with
              | 0 =>
                try dsimp only at hG ⊢
                rw [← h0]
                exact hG
              | 1 =>
                try dsimp only at hG ⊢
                rw [← h0]
                exact hG
              | 2 =>
                try dsimp only at hG ⊢
                rw [← h0]
                exact hG
              | 3 =>
                try dsimp only at hG ⊢
                rw [← h0]
                exact hG
              | 4 =>
                try dsimp only at hG ⊢
                rw [← h0]
                exact hG
              | 5 =>
                try dsimp only at hG ⊢
                rw [← h0]
                exact hG
              | 6 =>
                try dsimp only at hG ⊢
                rw [← h0]
                exact hG
              | 7 =>
                try dsimp only at hG ⊢
                rw [← h0]
                exact hG
              | 8 =>
                try dsimp only at hG ⊢
                rw [← h0]
                exact hG
              | 9 =>
                try dsimp only at hG ⊢
                rw [← h0]
                exact hG
              | 10 =>
                try dsimp only at hG ⊢
                rw [← h0]
                exact hG
              | 11 =>
                try dsimp only at hG ⊢
                rw [← h0]
                exact hG
              | 12 =>
                try dsimp only at hG ⊢
                rw [← h0]
                exact hG
              | 13 =>
                try dsimp only at hG ⊢
                rw [← h0]
                exact hG
              | 14 =>
                try dsimp only at hG ⊢
                rw [← h0]
                exact hG
              | 15 =>
                try dsimp only at hG ⊢
                rw [← h0]
                exact hG
              | n + 16 => trivial
            case lasts =>
              intro i hi V L H wx wy hB hH hk
              match i, hi with
              | 0, _ => exact fun h => h
              | 1, _ => exact fun h => h
              | 2, _ => exact fun h => h
              | 3, _ => exact fun h => h
              | 4, _ => exact fun h => h
              | 5, _ => exact fun h => h
              | 6, _ => exact fun h => h
              | 7, _ => exact fun h => h
              | 8, _ => exact fun h => h
              | 9, _ => exact fun h => h
              | 10, _ => exact fun h => h
              | 11, _ => exact fun h => h
              | 12, _ => exact fun h => h
              | 13, _ => exact fun h => h
              | 14, _ => exact fun h => h
              | 15, _ => exact fun h => h
              | n + 16, hn => exact absurd hn (by simp)
            case walk =>
              simp (maxSteps := 4000000) only [freeK, Nat.reduceAdd, Act.put, List.setIfInBounds_toArray, List.set_cons_succ, List.set_cons_zero]
              refine ⟨?_, ?_, ?_, ?_, ?_, ?_, ?_, ?_, ?_, ?_, ?_, ?_, ?_, ?_, ?_, ?_, ?_⟩
              · intro V L H w1 hw hk hj hd
                clear hd
                go_wp2_with fail
                exact freePost _ rfl ⟨⟨WritesF.refl _ _, hj⟩, upd_self⟩
              · intro V L H w1 hw hk hj hd
                clear hd
                go_wp2_with fail
                exact freePost _ rfl ⟨⟨WritesF.refl _ _, hj⟩, upd_self⟩
              · intro V L H w1 hw hk hj hd
                obtain ⟨⟨hL0, hM0, hH0, hv0⟩, ⟨hL1, hM1, hH1, hv1⟩, -⟩ := hd
                rw [hv0, hv1]
                have HV0 := Lib.hid hv0
                have HV1 := Lib.hid hv1
                clear hv0 hv1
                go_wp2_with fail
                exact freePost _ rfl ⟨⟨WritesF.refl _ _, hj⟩, upd_self⟩
              · intro V L H w1 hw hk hj hd
                obtain ⟨⟨hL2, hM2, hH2, hv2⟩, -⟩ := hd
                rw [hv2]
                have HV2 := Lib.hid hv2
                clear hv2
                have hc3k := ((fa_noneK hw).cell (p := ⟨b3, o3 + k, none⟩) hb3w).trans hc3k
                go_wp2_with fail
                exact freePost _ rfl ⟨⟨WritesF.refl _ _, hj⟩, upd_self⟩
              · intro V L H w1 hw hk hj hd
                obtain ⟨⟨hL3, hM3, hH3, hv3⟩, -⟩ := hd
                rw [hv3]
                have HV3 := Lib.hid hv3
                clear hv3
                go_wp2_with fail
                exact freePost _ rfl ⟨⟨WritesF.refl _ _, hj⟩, upd_self⟩
              · intro V L H w1 hw hk hj hd
                obtain ⟨⟨hL4, hM4, hH4, hv4⟩, -⟩ := hd
                rw [hv4]
                have HV4 := Lib.hid hv4
                clear hv4
                go_wp2_with fail
                exact freePost _ rfl ⟨⟨WritesF.refl _ _, hj⟩, upd_self⟩
              · intro V L H w1 hw hk hj hd
                obtain ⟨⟨hL5, hM5, hH5, hv5⟩, -⟩ := hd
                rw [hv5]
                have HV5 := Lib.hid hv5
                clear hv5
                have g0 := ((fa_noneK hw).cell (p := ⟨w.heap.size, 0, none⟩) hk0v).trans g0
                have g1 := ((fa_noneK hw).cell (p := ⟨w.heap.size, 1, none⟩) hk0v).trans g1
                go_wp2_with fail
                exact freePost _ rfl ⟨⟨WritesF.refl _ _, hj⟩, upd_self⟩
              · intro V L H w1 hw hk hj hd
                obtain ⟨⟨hL5, hM5, hH5, hv5⟩, -⟩ := hd
                rw [hv5]
                have HV5 := Lib.hid hv5
                clear hv5
                go_wp2_with fail
                exact freePost _ rfl ⟨⟨WritesF.refl _ _, hj⟩, upd_self⟩
              · intro V L H w1 hw hk hj hd
                obtain ⟨⟨hL7, hM7, hH7, hv7⟩, ⟨hL5, hM5, hH5, hv5⟩, -⟩ := hd
                rw [hv7, hv5]
                have HV7 := Lib.hid hv7
                have HV5 := Lib.hid hv5
                clear hv7 hv5
                have g0 := ((fa_noneK hw).cell (p := ⟨w.heap.size, 0, none⟩) hk0v).trans g0
                go_wp2_with fail
                exact freePost _ rfl ⟨⟨WritesF.refl _ _, hj⟩, upd_self⟩
              · intro V L H w1 hw hk hj hd
                obtain ⟨⟨hL5, hM5, hH5, hv5⟩, -⟩ := hd
                rw [hv5]
                have HV5 := Lib.hid hv5
                clear hv5
                go_wp2_with fail
                exact freePost _ rfl ⟨⟨WritesF.refl _ _, hj⟩, upd_self⟩
              · intro V L H w1 hw hk hj hd
                obtain ⟨⟨hL8, hM8, hH8, hv8⟩, ⟨hL9, hM9, hH9, hv9⟩, ⟨hL5, hM5, hH5, hv5⟩, -⟩ := hd
                rw [hv8, hv9, hv5]
                have HV8 := Lib.hid hv8
                have HV9 := Lib.hid hv9
                have HV5 := Lib.hid hv5
                clear hv8 hv9 hv5
                go_wp2_with fail
                exact freePost _ rfl ⟨⟨WritesF.refl _ _, hj⟩, upd_self⟩
              · intro V L H w1 hw hk hj hd
                obtain ⟨⟨hL10, hM10, hH10, hv10⟩, ⟨hL5, hM5, hH5, hv5⟩, -⟩ := hd
                rw [hv10, hv5]
                have HV10 := Lib.hid hv10
                have HV5 := Lib.hid hv5
                clear hv10 hv5
                go_wp2_with fail
                exact freePost _ rfl ⟨⟨WritesF.refl _ _, hj⟩, upd_self⟩
              · intro V L H w1 hw hk hj hd
                obtain ⟨⟨hL11, hM11, hH11, hv11⟩, ⟨hL5, hM5, hH5, hv5⟩, -⟩ := hd
                rw [hv11, hv5]
                have HV11 := Lib.hid hv11
                have HV5 := Lib.hid hv5
                clear hv11 hv5
                have hn0 := ((fa_noneK hw).cell (p := ⟨b0, f0 + k * 2, none⟩) hb0w).trans hn0
                go_wp2_with fail
                exact freePost _ rfl ⟨⟨WritesF.refl _ _, hj⟩, upd_self⟩
              · intro V L H w1 hw hk hj hd
                obtain ⟨⟨hL5, hM5, hH5, hv5⟩, -⟩ := hd
                rw [hv5]
                have HV5 := Lib.hid hv5
                clear hv5
                go_wp2_with fail
                exact freePost _ rfl ⟨⟨WritesF.refl _ _, hj⟩, upd_self⟩
              · intro V L H w1 hw hk hj hd
                obtain ⟨⟨hL6, hM6, hH6, hv6⟩, ⟨hL12, hM12, hH12, hv12⟩, ⟨hL13, hM13, hH13, hv13⟩, ⟨hL5, hM5, hH5, hv5⟩, -⟩ := hd
                rw [hv6, hv12, hv13, hv5]
                have HV6 := Lib.hid hv6
                have HV12 := Lib.hid hv12
                have HV13 := Lib.hid hv13
                have HV5 := Lib.hid hv5
                clear hv6 hv12 hv13 hv5
                go_wp2_with fail
                refine (HREK.out _ (fa_noneK hw)).mono ?_
                rintro e w2 ⟨rfl, hb2⟩
                go_wp2_with fail
                exact freePost _ rfl ⟨⟨(WritesF.refl _ _).later hb2, trivial⟩, upd_self⟩
              · intro V L H w1 hw hk hj hd
                obtain ⟨⟨hL5, hM5, hH5, hv5⟩, ⟨hL14, hM14, hH14, hv14⟩, -⟩ := hd
                rw [hv5, hv14]
                have HV5 := Lib.hid hv5
                have HV14 := Lib.hid hv14
                clear hv5 hv14
                go_wp2_with fail
                exact freePost _ rfl ⟨⟨WritesF.refl _ _, hj⟩, upd_self⟩
              · intro V L H w1 hw hj hd hap hdead
                obtain ⟨⟨hL0, hM0, hH0, hv0⟩, ⟨hL1, hM1, hH1, hv1⟩, ⟨hL2, hM2, hH2, hv2⟩, ⟨hL3, hM3, hH3, hv3⟩, ⟨hL4, hM4, hH4, hv4⟩, ⟨hL5, hM5, hH5, hv5⟩, ⟨hL6, hM6, hH6, hv6⟩, ⟨hL7, hM7, hH7, hv7⟩, ⟨hL8, hM8, hH8, hv8⟩, ⟨hL9, hM9, hH9, hv9⟩, ⟨hL10, hM10, hH10, hv10⟩, ⟨hL11, hM11, hH11, hv11⟩, ⟨hL12, hM12, hH12, hv12⟩, ⟨hL13, hM13, hH13, hv13⟩, ⟨hL14, hM14, hH14, hv14⟩, ⟨hL15, hM15, hH15, hv15⟩, -⟩ := hd
                rw [hv0, hv1, hv2, hv3, hv4, hv5, hv6, hv7, hv8, hv9, hv10, hv11, hv12, hv13, hv14, hv15]
                clear hv0 hv1 hv2 hv3 hv4 hv5 hv6 hv7 hv8 hv9 hv10 hv11 hv12 hv13 hv14 hv15
                have hb1 := fa_noneK hw
                have hc5w := (hb1.cell (p := ⟨b5, o5 + k, none⟩) (by omega)).trans hc5k
                have hf5w := (hb1.frozen (p := ⟨b5, o5 + k, none⟩) (by omega)).trans hf5k
                have HKW := Lib.hid (Kept.of_below_all (F := fun y => wq.heap.size < y ∧ y < w5.heap.size) hb1)
                have HWW := Lib.hid (HWV.out.later hb1)
                have hb5w : b5 < w1.heap.size := Nat.lt_of_lt_of_le hb5 hb1.size
                clear hb1 hc5k hf5k hap hdead hw
                cases r
                · clear HNY
                  go_wp2
                  go_roundw
                  case rel => exact ⟨k + 1, by omega, by go_num, HSAME.out _ HKW.out (HNN.out rfl), HWW.out⟩
                  case measure => simp [intOf]; omega
                · clear HNN
                  go_wp2
                  go_roundw
                  case rel => exact ⟨k + 1, by omega, by go_num, HSET.out _ _ HKW.out (HNY.out rfl).symm, HWW.out.setCell hF5⟩
                  case measure => simp [intOf]; omega
          · have HNN := Lib.hid (show hts g t s = hts g (t + 1) s from by rw [HNX.out, if_neg (fun e => hz e.1)])
            generalize hzz : hts g t s = z at *
            have hzd : (z == 0) = false := by simpa using hz
            clear HNX hz HREK
            go_wp2_with fail
            refine wp_region_freeK [([], .none, []), ([], .none, []), ([0, 1], .none, []), ([2], .none, []), ([3], .none, []), ([4], .none, []), ([5], .none, []), ([5], .none, []), ([7, 5], .none, []), ([5], .none, []), ([8, 9, 5], .none, []), ([10, 5], .none, []), ([11, 5], .none, []), ([5], .none, []), ([6, 12, 13, 5], .none, []), ([5, 14], .none, [])] [0, 1, 2, 3, 4, 5, 6, 7, 8, 9, 10, 11, 12, 13, 14, 15] [] (fun _ => False) (fun _ => True) (fun _ => 0) (fun jq9 V L H wx => match jq9 with | 0 => V 0 = .slice (some ⟨b3, o3, none⟩) g.fSymbols.length c | 1 => V 1 = .int .i64 (k : Int) | 2 => V 2 = .pointer (some ⟨b3, o3 + k, none⟩) | 3 => V 3 = .int .i64 z | 4 => V 4 = .bool false | 5 => V 5 = .bool false | 6 => V 6 = undef | 7 => V 7 = undef | 8 => V 8 = undef | 9 => V 9 = undef | 10 => V 10 = undef | 11 => V 11 = undef | 12 => V 12 = undef | 13 => V 13 = undef | 14 => V 14 = undef | 15 => V 15 = .bool false | _ => True) (by kernel_rfl) (by kernel_rfl) ?obs (fun _ h => h.elim) trivial (fun _ _ _ _ _ => trivial) ?loc ?lasts ?walk
            case obs =>
              trivial
            case loc =>
              intro k V V' L H wx h0 h1 hG
              match k with
              | 0 =>
                try dsimp only at hG ⊢
                rw [← h0]
                exact hG
              | 1 =>
                try dsimp only at hG ⊢
                rw [← h0]
                exact hG
              | 2 =>
                try dsimp only at hG ⊢
                rw [← h0]
                exact hG
              | 3 =>
                try dsimp only at hG ⊢
                rw [← h0]
                exact hG
              | 4 =>
                try dsimp only at hG ⊢
                rw [← h0]
                exact hG
              | 5 =>
                try dsimp only at hG ⊢
                rw [← h0]
                exact hG
              | 6 =>
                try dsimp only at hG ⊢
                rw [← h0]
                exact hG
              | 7 =>
                try dsimp only at hG ⊢
                rw [← h0]
                exact hG
              | 8 =>
                try dsimp only at hG ⊢
                rw [← h0]
                exact hG
              | 9 =>
                try dsimp only at hG ⊢
                rw [← h0]
                exact hG
              | 10 =>
                try dsimp only at hG ⊢
                rw [← h0]
                exact hG
              | 11 =>
                try dsimp only at hG ⊢
                rw [← h0]
                exact hG
              | 12 =>
                try dsimp only at hG ⊢
                rw [← h0]
                exact hG
              | 13 =>
                try dsimp only at hG ⊢
                rw [← h0]
                exact hG
              | 14 =>
                try dsimp only at hG ⊢
                rw [← h0]
                exact hG
              | 15 =>
                try dsimp only at hG ⊢
                rw [← h0]
                exact hG
              | n + 16 => trivial
            case lasts =>
              intro i hi V L H wx wy hB hH hk
              match i, hi with
              | 0, _ => exact fun h => h
              | 1, _ => exact fun h => h
              | 2, _ => exact fun h => h
              | 3, _ => exact fun h => h
              | 4, _ => exact fun h => h
              | 5, _ => exact fun h => h
              | 6, _ => exact fun h => h
              | 7, _ => exact fun h => h
              | 8, _ => exact fun h => h
              | 9, _ => exact fun h => h
              | 10, _ => exact fun h => h
              | 11, _ => exact fun h => h
              | 12, _ => exact fun h => h
              | 13, _ => exact fun h => h
              | 14, _ => exact fun h => h
              | 15, _ => exact fun h => h
              | n + 16, hn => exact absurd hn (by simp)
            case walk =>
              simp (maxSteps := 4000000) only [freeK, Nat.reduceAdd, Act.put, List.setIfInBounds_toArray, List.set_cons_succ, List.set_cons_zero]
              refine ⟨?_, ?_, ?_, ?_, ?_, ?_, ?_, ?_, ?_, ?_, ?_, ?_, ?_, ?_, ?_, ?_, ?_⟩
              · intro V L H w1 hw hk hj hd
                clear hd
                go_wp2_with fail
                exact freePost _ rfl ⟨⟨WritesF.refl _ _, hj⟩, upd_self⟩
              · intro V L H w1 hw hk hj hd
                clear hd
                go_wp2_with fail
                exact freePost _ rfl ⟨⟨WritesF.refl _ _, hj⟩, upd_self⟩
              · intro V L H w1 hw hk hj hd
                obtain ⟨⟨hL0, hM0, hH0, hv0⟩, ⟨hL1, hM1, hH1, hv1⟩, -⟩ := hd
                rw [hv0, hv1]
                have HV0 := Lib.hid hv0
                have HV1 := Lib.hid hv1
                clear hv0 hv1
                go_wp2_with fail
                exact freePost _ rfl ⟨⟨WritesF.refl _ _, hj⟩, upd_self⟩
              · intro V L H w1 hw hk hj hd
                obtain ⟨⟨hL2, hM2, hH2, hv2⟩, -⟩ := hd
                rw [hv2]
                have HV2 := Lib.hid hv2
                clear hv2
                have hc3k := ((fa_noneK hw).cell (p := ⟨b3, o3 + k, none⟩) hb3w).trans hc3k
                go_wp2_with fail
                exact freePost _ rfl ⟨⟨WritesF.refl _ _, hj⟩, upd_self⟩
              · intro V L H w1 hw hk hj hd
                obtain ⟨⟨hL3, hM3, hH3, hv3⟩, -⟩ := hd
                rw [hv3]
                have HV3 := Lib.hid hv3
                clear hv3
                go_wp2_with fail
                exact freePost _ rfl ⟨⟨WritesF.refl _ _, hj⟩, upd_self⟩
              · intro V L H w1 hw hk hj hd
                obtain ⟨⟨hL4, hM4, hH4, hv4⟩, -⟩ := hd
                rw [hv4]
                have HV4 := Lib.hid hv4
                clear hv4
                go_wp2_with fail
                exact freePost _ rfl ⟨⟨WritesF.refl _ _, hj⟩, upd_self⟩
              · intro V L H w1 hw hk hj hd
                obtain ⟨⟨hL5, hM5, hH5, hv5⟩, -⟩ := hd
                rw [hv5]
                have HV5 := Lib.hid hv5
                clear hv5
                have g0 := ((fa_noneK hw).cell (p := ⟨w.heap.size, 0, none⟩) hk0v).trans g0
                have g1 := ((fa_noneK hw).cell (p := ⟨w.heap.size, 1, none⟩) hk0v).trans g1
                go_wp2_with fail
                exact freePost _ rfl ⟨⟨WritesF.refl _ _, hj⟩, upd_self⟩
              · intro V L H w1 hw hk hj hd
                obtain ⟨⟨hL5, hM5, hH5, hv5⟩, -⟩ := hd
                rw [hv5]
                have HV5 := Lib.hid hv5
                clear hv5
                go_wp2_with fail
                exact freePost _ rfl ⟨⟨WritesF.refl _ _, hj⟩, upd_self⟩
              · intro V L H w1 hw hk hj hd
                obtain ⟨⟨hL7, hM7, hH7, hv7⟩, ⟨hL5, hM5, hH5, hv5⟩, -⟩ := hd
                rw [hv7, hv5]
                have HV7 := Lib.hid hv7
                have HV5 := Lib.hid hv5
                clear hv7 hv5
                have g0 := ((fa_noneK hw).cell (p := ⟨w.heap.size, 0, none⟩) hk0v).trans g0
                go_wp2_with fail
                exact freePost _ rfl ⟨⟨WritesF.refl _ _, hj⟩, upd_self⟩
              · intro V L H w1 hw hk hj hd
                obtain ⟨⟨hL5, hM5, hH5, hv5⟩, -⟩ := hd
                rw [hv5]
                have HV5 := Lib.hid hv5
                clear hv5
                go_wp2_with fail
                exact freePost _ rfl ⟨⟨WritesF.refl _ _, hj⟩, upd_self⟩
              · intro V L H w1 hw hk hj hd
                obtain ⟨⟨hL8, hM8, hH8, hv8⟩, ⟨hL9, hM9, hH9, hv9⟩, ⟨hL5, hM5, hH5, hv5⟩, -⟩ := hd
                rw [hv8, hv9, hv5]
                have HV8 := Lib.hid hv8
                have HV9 := Lib.hid hv9
                have HV5 := Lib.hid hv5
                clear hv8 hv9 hv5
                go_wp2_with fail
                exact freePost _ rfl ⟨⟨WritesF.refl _ _, hj⟩, upd_self⟩
              · intro V L H w1 hw hk hj hd
                obtain ⟨⟨hL10, hM10, hH10, hv10⟩, ⟨hL5, hM5, hH5, hv5⟩, -⟩ := hd
                rw [hv10, hv5]
                have HV10 := Lib.hid hv10
                have HV5 := Lib.hid hv5
                clear hv10 hv5
                go_wp2_with fail
                exact freePost _ rfl ⟨⟨WritesF.refl _ _, hj⟩, upd_self⟩
              · intro V L H w1 hw hk hj hd
                obtain ⟨⟨hL11, hM11, hH11, hv11⟩, ⟨hL5, hM5, hH5, hv5⟩, -⟩ := hd
                rw [hv11, hv5]
                have HV11 := Lib.hid hv11
                have HV5 := Lib.hid hv5
                clear hv11 hv5
                have hn0 := ((fa_noneK hw).cell (p := ⟨b0, f0 + k * 2, none⟩) hb0w).trans hn0
                go_wp2_with fail
                exact freePost _ rfl ⟨⟨WritesF.refl _ _, hj⟩, upd_self⟩
              · intro V L H w1 hw hk hj hd
                obtain ⟨⟨hL5, hM5, hH5, hv5⟩, -⟩ := hd
                rw [hv5]
                have HV5 := Lib.hid hv5
                clear hv5
                go_wp2_with fail
                exact freePost _ rfl ⟨⟨WritesF.refl _ _, hj⟩, upd_self⟩
              · intro V L H w1 hw hk hj hd
                obtain ⟨⟨hL6, hM6, hH6, hv6⟩, ⟨hL12, hM12, hH12, hv12⟩, ⟨hL13, hM13, hH13, hv13⟩, ⟨hL5, hM5, hH5, hv5⟩, -⟩ := hd
                rw [hv6, hv12, hv13, hv5]
                have HV6 := Lib.hid hv6
                have HV12 := Lib.hid hv12
                have HV13 := Lib.hid hv13
                have HV5 := Lib.hid hv5
                clear hv6 hv12 hv13 hv5
                go_wp2_with fail
                exact freePost _ rfl ⟨⟨WritesF.refl _ _, hj⟩, upd_self⟩
              · intro V L H w1 hw hk hj hd
                obtain ⟨⟨hL5, hM5, hH5, hv5⟩, ⟨hL14, hM14, hH14, hv14⟩, -⟩ := hd
                rw [hv5, hv14]
                have HV5 := Lib.hid hv5
                have HV14 := Lib.hid hv14
                clear hv5 hv14
                go_wp2_with fail
                exact freePost _ rfl ⟨⟨WritesF.refl _ _, hj⟩, upd_self⟩
              · intro V L H w1 hw hj hd hap hdead
                obtain ⟨⟨hL0, hM0, hH0, hv0⟩, ⟨hL1, hM1, hH1, hv1⟩, ⟨hL2, hM2, hH2, hv2⟩, ⟨hL3, hM3, hH3, hv3⟩, ⟨hL4, hM4, hH4, hv4⟩, ⟨hL5, hM5, hH5, hv5⟩, ⟨hL6, hM6, hH6, hv6⟩, ⟨hL7, hM7, hH7, hv7⟩, ⟨hL8, hM8, hH8, hv8⟩, ⟨hL9, hM9, hH9, hv9⟩, ⟨hL10, hM10, hH10, hv10⟩, ⟨hL11, hM11, hH11, hv11⟩, ⟨hL12, hM12, hH12, hv12⟩, ⟨hL13, hM13, hH13, hv13⟩, ⟨hL14, hM14, hH14, hv14⟩, ⟨hL15, hM15, hH15, hv15⟩, -⟩ := hd
                rw [hv0, hv1, hv2, hv3, hv4, hv5, hv6, hv7, hv8, hv9, hv10, hv11, hv12, hv13, hv14, hv15]
                clear hv0 hv1 hv2 hv3 hv4 hv5 hv6 hv7 hv8 hv9 hv10 hv11 hv12 hv13 hv14 hv15
                have hb1 := fa_noneK hw
                have HKW := Lib.hid (Kept.of_below_all (F := fun y => wq.heap.size < y ∧ y < w5.heap.size) hb1)
                have HWW := Lib.hid (HWV.out.later hb1)
                clear hb1 hc5k hf5k hap hdead hw
                go_wp2
                go_roundw
                case rel => exact ⟨k + 1, by omega, by go_num, HSAME.out _ HKW.out HNN.out, HWW.out⟩
                case measure => simp [intOf]; omega
        · obtain rfl : k = g.fSymbols.length := by omega
          have HOF := Lib.hid (show Own wv (fun y => w.heap.size + 1 ≤ y ∧ y < wv.heap.size) (.sl 1 g.fSymbols.length (fun k => ictI (hts g (t + 1) (g.fSymbols.getD k default).fName))) (.slice a5 g.fSymbols.length c5) from (HOV.out.sub (fun y hy => ⟨by have := hy.1; omega, by have := hy.2; omega⟩)).congr (fun q hq j _ => by show ictI _ j = ictI _ j; rw [if_pos hq]))
          have htb : t ≤ 1048576 := by omega
          go_wp2
          go_roundw
          case rel => exact ⟨t + 1, a5, c5, by go_num, by omega, rfl, HOF.out, HBV.out⟩
          case measure => simp [intOf]; omega
    · obtain rfl : t = g.fSymbols.length := by omega
      have hle : ¬ (((g.fSymbols.length + 1 : Nat) : Int) ≤ (g.fSymbols.length : Int)) := by omega
      go_wp2
      go_ret
      exact ⟨a, c, rfl, HO.out.sub (fun y hy => ⟨by have := hy.1; omega, hy.2⟩), HB1.out⟩

set_option maxHeartbeats 1600000 in
set_option maxRecDepth 100000 in
theorem spec_MinHeight {lo hi : Nat} {a0 a1 : Option Addr} {c0_0 c0_1 : Nat} (g : DGrammar) (_ : g.ok) (hszg : g.sz ≤ 1048576) (nm : ByteArray) (_ : okS nm) (_ : nm.size ≤ 1048576) (w : World) (hhi : hi ≤ w.heap.size) (hs0 : Sl lo hi w 2 g.fSymbols.length (fun k => DSymbol.ct (g.fSymbols.getD k default)) a0) (hs1 : Sl lo hi w 6 g.fRules.length (fun k => DRule.ct (g.fRules.getD k default)) a1) :
    Calls Try.prog 6 #[.agg #[.slice a0 g.fSymbols.length c0_0, .slice a1 g.fRules.length c0_1], .string nm] w fun e w' => e = .returned (.int .i64 (minH g nm)) ∧ Below w.heap.size w w' := by
  have hzs : lsz DSymbol.sz g.fSymbols ≤ 1048576 := by unfold DGrammar.sz at hszg; omega
  have HB := Lib.hid ((Below.refl w.heap.size w).alloc (Nat.le_refl _) (.cells #[.slice a0 g.fSymbols.length c0_0, .slice a1 g.fRules.length c0_1] 31))
  have HC := Lib.hid (fun (W : World) (hW : Below w.heap.size w W) => spec_l12Heights (c0_0 := c0_0) (c0_1 := c0_1) g hszg W (Nat.le_trans hhi hW.size) (hs0.later hW hhi) (hs1.later hW hhi))
  have HA := Lib.hid (spec_l12At (c0 := c0_0) (c1 := c0_1) (a1 := a1) (n1 := g.fRules.length) g.fSymbols hzs nm (w.alloc (.cells #[.slice a0 g.fSymbols.length c0_0, .slice a1 g.fRules.length c0_1] 31)) (Nat.le_trans hhi HB.out.size) (hs0.later HB.out hhi))
  clear hs0 hs1 hszg hhi hzs
  go_enter Try.func6, Try.ntmps6
  go_wp2_with fail
  refine HA.out.mono ?_
  rintro e w1 ⟨rfl, hb1⟩
  have HB1 := Lib.hid (HB.out.trans (hb1.mono HB.out.size))
  have g0 : w1.cell? ⟨w.heap.size, 0, none⟩ = some (.slice a0 g.fSymbols.length c0_0) := (hb1.cell (p := ⟨w.heap.size, 0, none⟩) (by simp)).trans (by go_simp)
  have g1 : w1.cell? ⟨w.heap.size, 1, none⟩ = some (.slice a1 g.fRules.length c0_1) := (hb1.cell (p := ⟨w.heap.size, 1, none⟩) (by simp)).trans (by go_simp)
  have hk0 : w.heap.size < w1.heap.size := by have := hb1.size; simp at this; omega
  clear hb1 HA
  by_cases hix : idxI (PSym nm) g.fSymbols < 0
  · have FIN := Lib.hid (show minH g nm = 0 from hts_unlisted g (idx_symB hix) _)
    generalize idxI (PSym nm) g.fSymbols = z at *
    go_wp2
    go_ret
    exact ⟨ret_i (by rw [FIN.out]), HB1.out⟩
  · obtain ⟨m, hm⟩ : ∃ m : Nat, idxI (PSym nm) g.fSymbols = m := ⟨(idxI (PSym nm) g.fSymbols).toNat, by omega⟩
    obtain ⟨hml, hmn⟩ := idx_sym hm
    rw [hm]
    have hmI : (0 : Int) ≤ (m : Int) ∧ (m : Int) < (g.fSymbols.length : Int) := by omega
    clear hix hm
    go_wp2_with fail
    refine (HC.out _ HB1.out).mono ?_
    rintro e w2 ⟨a9, c9, rfl, ho9, hb2⟩
    obtain ⟨b3, o3, rfl, hF3, hb3, hc3, hf3⟩ := numF_at ho9 (by omega)
    have hc3m := hc3 m hml
    rw [hmn] at hc3m
    have FIN := Lib.hid (show minH g nm = hts g g.fSymbols.length nm from rfl)
    generalize hts g g.fSymbols.length nm = z at *
    have HB2 := Lib.hid (HB1.out.trans (hb2.mono HB1.out.size))
    clear hc3 hf3 ho9 hb2
    go_wp2
    go_ret
    exact ⟨ret_i (by rw [FIN.out]), HB2.out⟩

set_option maxHeartbeats 1600000 in
set_option maxRecDepth 100000 in
theorem spec_IsProductive {lo hi : Nat} {a0 a1 : Option Addr} {c0_0 c0_1 : Nat} (g : DGrammar) (okg : g.ok) (hszg : g.sz ≤ 1048576) (nm : ByteArray) (okn : okS nm) (hnm : nm.size ≤ 1048576) (w : World) (hhi : hi ≤ w.heap.size) (hs0 : Sl lo hi w 2 g.fSymbols.length (fun k => DSymbol.ct (g.fSymbols.getD k default)) a0) (hs1 : Sl lo hi w 6 g.fRules.length (fun k => DRule.ct (g.fRules.getD k default)) a1) :
    Calls Try.prog 10 #[.agg #[.slice a0 g.fSymbols.length c0_0, .slice a1 g.fRules.length c0_1], .string nm] w fun e w' => e = .returned (.bool (decide (0 < minH g nm))) ∧ Below w.heap.size w w' := by
  have HB := Lib.hid ((Below.refl w.heap.size w).alloc (Nat.le_refl _) (.cells #[.slice a0 g.fSymbols.length c0_0, .slice a1 g.fRules.length c0_1] 31))
  have HC := Lib.hid (spec_MinHeight (c0_0 := c0_0) (c0_1 := c0_1) g okg hszg nm okn hnm (w.alloc (.cells #[.slice a0 g.fSymbols.length c0_0, .slice a1 g.fRules.length c0_1] 31)) (Nat.le_trans hhi HB.out.size) (hs0.later HB.out hhi) (hs1.later HB.out hhi))
  clear hs0 hs1 hszg hhi okg okn hnm
  generalize minH g nm = z at *
  go_enter Try.func10, Try.ntmps10
  go_wp2_with fail
  refine HC.out.mono ?_
  rintro e w1 ⟨rfl, hb1⟩
  have HB1 := Lib.hid (HB.out.trans (hb1.mono HB.out.size))
  clear hb1
  by_cases hz : 0 < z
  · have FIN := Lib.hid (decide_eq_true hz)
    go_wp2
    go_ret
    exact ⟨ret_b (by rw [FIN.out]), HB1.out⟩
  · have FIN := Lib.hid (decide_eq_false hz)
    go_wp2
    go_ret
    exact ⟨ret_b (by rw [FIN.out]), HB1.out⟩
end Go.Proofs.Ytakajfhkgjhnpaa
