/-
  minHeights, MinHeight and IsProductive of the program.
-/
import Derived.Test.YtakajfhkgjhnpaaHeightsI
import Derived.Test.YtakajfhkgjhnpaaNumF
namespace Go.Proofs.Ytakajfhkgjhnpaa
open Go.ChangeShapes Go.WideShapes Go.ChangeAt Go.RowKit Go.Deep

theorem newl_sz {g : DGrammar} (h : g.sz ≤ 1048576) (f : ByteArray → Int) {s : ByteArray} (hs : s ∈ newl g f g.fRules) : s.size ≤ 1048576 := by
  obtain ⟨r, hr, rfl, _⟩ := newl_mem.1 hs
  have h1 : lsz DRule.sz g.fRules ≤ 1048576 := by unfold DGrammar.sz at h; omega
  obtain ⟨k, hk, e⟩ := List.getElem_of_mem hr
  have h2 := szle_at (f := DRule.sz) g.fRules k hk
  rw [List.getD_eq_getElem?_getD, List.getElem?_eq_getElem hk, Option.getD_some, e] at h2
  have h3 : r.fLeft.size ≤ DRule.sz r := by unfold DRule.sz; omega
  omega
theorem symlen {g : DGrammar} (h : g.sz ≤ 1048576) : g.fSymbols.length ≤ 1048576 := by unfold DGrammar.sz lsz at h; omega
theorem rulelen {g : DGrammar} (h : g.sz ≤ 1048576) : g.fRules.length ≤ 1048576 := by unfold DGrammar.sz lsz at h; omega

set_option maxHeartbeats 12800000 in
set_option maxRecDepth 100000 in
theorem impl_minHeights {lo hi : Nat} {a0 a1 : Option Addr} {c0_0 c0_1 : Nat} (g : DGrammar) (hszg : g.sz ≤ 1048576) (w : World) (hhi : hi ≤ w.heap.size) (hs0 : Sl lo hi w 2 g.fSymbols.length (fun k => DSymbol.ct (g.fSymbols.getD k default)) a0) (hs1 : Sl lo hi w 6 g.fRules.length (fun k => DRule.ct (g.fRules.getD k default)) a1) :
    Calls Try.prog 18 #[.agg #[.slice a0 g.fSymbols.length c0_0, .slice a1 g.fRules.length c0_1]] w fun e w' => ∃ bm n, e = .returned (.map (some bm)) ∧ MapF Try.prog 9 3 okMS embS litI 0 w' (bm) (n) (hts g g.fSymbols.length) ∧ Below w.heap.size w w' := by
  have hns := symlen hszg
  have hnr := rulelen hszg
  have HB := Lib.hid ((Below.refl w.heap.size w).alloc (Nat.le_refl _) (.cells #[.slice a0 g.fSymbols.length c0_0, .slice a1 g.fRules.length c0_1] 31))
  have HNP := Lib.hid (fun (h : ByteArray → Int) (bm n : Nat) (W : World) (hW : Below w.heap.size w W) => impl_newlyProductive (c0_0 := c0_0) (c0_1 := c0_1) g hszg h bm n W (Nat.le_trans hhi hW.size) (hs0.later hW hhi) (hs1.later hW hhi))
  have HNZ := Lib.hid (fun (f : ByteArray → Int) (s : ByteArray) (hs : s ∈ newl g f g.fRules) => newl_sz hszg f hs)
  have HCG := Lib.hid (show (w.alloc (.cells #[.slice a0 g.fSymbols.length c0_0, .slice a1 g.fRules.length c0_1] 31)).heap[w.heap.size]? = some (.cells #[.slice a0 g.fSymbols.length c0_0, .slice a1 g.fRules.length c0_1] 31) from blk_new rfl)
  have HZ0 := Lib.hid (show (w.alloc (.cells #[.slice a0 g.fSymbols.length c0_0, .slice a1 g.fRules.length c0_1] 31)).heap.size = w.heap.size + 1 by simp)
  have HM0 := Lib.hid (show MapF Try.prog 9 3 okMS embS litI 0 ((w.alloc (.cells #[.slice a0 g.fSymbols.length c0_0, .slice a1 g.fRules.length c0_1] 31)).alloc (.map #[] 0)) (w.heap.size + 1) (0) (hts g 0) from by have h := MapF.made (P := Try.prog) (k := 9) (e := 3) (okK := okMS) (emb := embS) (vl := litI) (z := (0 : Int)) (w.alloc (.cells #[.slice a0 g.fSymbols.length c0_0, .slice a1 g.fRules.length c0_1] 31)); rw [show (w.alloc (.cells #[.slice a0 g.fSymbols.length c0_0, .slice a1 g.fRules.length c0_1] 31)).heap.size = w.heap.size + 1 by simp] at h; exact h)
  clear hs0 hs1 hhi hszg
  have hmm := @run_makeMap Try.prog
  go_enter Try.func18, Try.ntmps18
  go_wp2
  clear hmm
  go_loopw [4] (fun i wr => ∃ t n : Nat, i = .int .i64 ((t + 1 : Nat) : Int) ∧ t ≤ g.fSymbols.length ∧ n ≤ t * 1048576 ∧ MapF Try.prog 9 3 okMS embS litI 0 wr (w.heap.size + 1) (n) (hts g t) ∧ (∀ s, s < t → newl g (hts g s) g.fRules ≠ []) ∧ Below (w.heap.size + 1) (w.alloc (.cells #[.slice a0 g.fSymbols.length c0_0, .slice a1 g.fRules.length c0_1] 31)) wr) (fun i _ => g.fSymbols.length + 2 - (intOf i).toNat)
  case atStart => exact ⟨0, 0, rfl, Nat.zero_le _, Nat.zero_le _, HM0.out, fun _ h => absurd h (Nat.not_lt_zero _), (Below.refl _ _).alloc (by simp) _⟩
  case round =>
    obtain ⟨t, n, rfl, ht, hn, hm, hne, hbl⟩ := hrel
    obtain ⟨wq, rfl⟩ : ∃ wq : World, wq = wr := ⟨_, rfl⟩
    have HM := Lib.hid hm
    have HNE := Lib.hid hne
    have HBL := Lib.hid hbl
    have hmlt : w.heap.size + 1 < wq.heap.size := hm.lt
    have hk0 : w.heap.size < wq.heap.size := by omega
    have g0 : wq.cell? ⟨w.heap.size, 0, none⟩ = some (.slice a0 g.fSymbols.length c0_0) := pblk_cell (j := 0) (v := .slice a0 g.fSymbols.length c0_0) ((hbl.block w.heap.size (by omega)).trans HCG.out) rfl
    have g1 : wq.cell? ⟨w.heap.size, 1, none⟩ = some (.slice a1 g.fRules.length c0_1) := pblk_cell (j := 1) (v := .slice a1 g.fRules.length c0_1) ((hbl.block w.heap.size (by omega)).trans HCG.out) rfl
    have HB1 := Lib.hid (show Below w.heap.size w wq from HB.out.trans (hbl.mono (by omega)))
    clear hm hne hbl
    go_wp2_with fail
    refine (HNP.out (hts g t) (w.heap.size + 1) n _ HB1.out HM.out).mono ?_
    rintro e w1 ⟨a9, c9, rfl, ho9, hb1⟩
    have HM1 := Lib.hid (HM.out.later hb1)
    have HSA := Lib.hid (show Sl wq.heap.size w1.heap.size w1 1 (newl g (hts g t) g.fRules).length (fun k => ictS ((newl g (hts g t) g.fRules).getD k default)) a9 from Sl.of (ho9.lies fun y hy => hy))
    have HBL1 := Lib.hid (HBL.out.trans (hb1.mono (by omega)))
    have hsz1 := hb1.size
    have hok : okMI ((t + 1 : Nat) : Int) := by unfold okMI; omega
    have HLL := Lib.hid (Nat.le_trans (newl_len g (hts g t) g.fRules) hnr)
    have HNZ1 := Lib.hid (HNZ.out (hts g t))
    clear ho9 hb1
    by_cases hL : newl g (hts g t) g.fRules = []
    · have HEND := Lib.hid (hts_end HNE.out hL)
      rw [hL]
      clear HSA HLL HNZ1
      go_wp2
      go_ret
      exact ⟨_, n, rfl, by rw [HEND.out]; exact HM1.out, HB.out.trans (HBL1.out.mono (by omega))⟩
    · have hpos : 0 < (newl g (hts g t) g.fRules).length := List.length_pos_iff.2 hL
      have HNE1 := Lib.hid (show ∀ s, s < t + 1 → newl g (hts g s) g.fRules ≠ [] from fun s hs => by
        rcases Nat.lt_or_ge s t with h | h
        · exact HNE.out s h
        · obtain rfl : s = t := by omega
          exact hL)
      have htl : t + 1 ≤ g.fSymbols.length := by have h1 := zeros_count HNE1.out; omega
      have HSU := Lib.hid (show hts g (t + 1) = htSet (hts g t) ((t + 1 : Nat) : Int) (newl g (hts g t) g.fRules) from rfl)
      have HZS := Lib.hid (htSet_nil (hts g t) ((t + 1 : Nat) : Int))
      clear hL
      generalize newl g (hts g t) g.fRules = K at *
      generalize hts g t = ht0 at *
      have hd : ((K.length : Int) == 0) = false := by simpa using (show ¬ ((K.length : Int) = 0) by omega)
      have hll := HLL.out
      go_wp2
      go_loopw [20] (fun i wr => ∃ j : Nat, j ≤ K.length ∧ i = .int .i64 (j : Int) ∧ MapF Try.prog 9 3 okMS embS litI 0 wr (w.heap.size + 1) (n + j) (htSet ht0 ((t + 1 : Nat) : Int) (K.take j)) ∧ WritesF (fun y => y = w.heap.size + 1) w1 wr) (fun i _ => K.length - (intOf i).toNat)
      case atStart => exact ⟨0, Nat.zero_le _, rfl, by rw [List.take_zero, HZS.out]; exact HM1.out, WritesF.refl _ _⟩
      case round =>
        obtain ⟨j, hj, rfl, hm, hw⟩ := hrel
        have HMP := Lib.hid hm
        have HWR := Lib.hid hw
        have HAR := Lib.hid (HSA.out.frame (w' := wr) fun b off h1 h2 => hw.cellN (p := ⟨b, off, none⟩) h2 (by show ¬ b = w.heap.size + 1; omega))
        clear hm hw
        by_cases hlt : j < K.length
        · obtain ⟨b, off, rfl, _, hbh, hc⟩ := HAR.out.at j hlt
          obtain ⟨u, hcu, hlu⟩ := hc 0 (by decide)
          have hcs : wr.cell? ⟨b, off + j, none⟩ = some (.string (K.getD j default)) := by rw [← lies_lit hlu]; simpa using hcu
          have hjI : (0 : Int) ≤ (j : Int) ∧ (j : Int) < (K.length : Int) := by omega
          have hmem : K.getD j default ∈ K := by rw [List.getD_eq_getElem?_getD, List.getElem?_eq_getElem hlt]; exact List.getElem_mem hlt
          have hsz := HNZ1.out _ hmem
          have hnx : n + j < maxLen := by unfold maxLen; omega
          have HTS := Lib.hid (take_snoc hlt)
          clear hc hcu hlu hmem
          generalize hs : K.getD j default = s at *
          clear hs
          go_wp2_with (at_mapUpdate; refine wpList_put_mapF _ rfl (.tmp 24) (.tmp 25) (.tmp 26) rfl mapSI HMP.out hnx rfl (y := s) (show okMS s from by unfold okMS maxLen; omega) (u := ((t + 1 : Nat) : Int)) hok rfl rfl (f' := htSet ht0 ((t + 1 : Nat) : Int) (K.take (j + 1))) (by rw [HTS.out]; exact htSet_snoc_same _ _ _ _) (fun q _ hq => by rw [HTS.out]; exact htSet_snoc_other _ _ _ hq) ?_; intro w9 hm9 hg9)
          have R1 := Lib.hid hm9
          have R2 := Lib.hid (HWR.out.grownN hg9 (fun g hg => by injection hg with e; exact e.symm))
          clear hm9 hg9
          go_wp2
          go_roundw
          case rel => exact ⟨j + 1, by omega, by go_num, R1.out, R2.out⟩
          case measure => simp [intOf]; omega
        · obtain rfl : j = K.length := by omega
          have hm := HMP.out
          rw [List.take_length, ← HSU.out] at hm
          have R1 := Lib.hid hm
          have R2 := Lib.hid (show Below (w.heap.size + 1) (w.alloc (.cells #[.slice a0 g.fSymbols.length c0_0, .slice a1 g.fRules.length c0_1] 31)) wr from HBL1.out.trans (HWR.out.below (fun y hy => by omega) (by omega)))
          have htb : t ≤ 1048576 := by omega
          clear hm
          go_wp2
          go_roundw
          case rel => exact ⟨t + 1, n + K.length, by go_num, htl, by omega, R1.out, HNE1.out, R2.out⟩
          case measure => simp [intOf]; omega

set_option maxHeartbeats 1600000 in
set_option maxRecDepth 100000 in
theorem impl_MinHeight {lo hi : Nat} {a0 a1 : Option Addr} {c0_0 c0_1 : Nat} (g : DGrammar) (_ : g.ok) (hszg : g.sz ≤ 1048576) (nm : ByteArray) (_ : okS nm) (hnm : nm.size ≤ 1048576) (w : World) (hhi : hi ≤ w.heap.size) (hs0 : Sl lo hi w 2 g.fSymbols.length (fun k => DSymbol.ct (g.fSymbols.getD k default)) a0) (hs1 : Sl lo hi w 6 g.fRules.length (fun k => DRule.ct (g.fRules.getD k default)) a1) :
    Calls Try.prog 8 #[.agg #[.slice a0 g.fSymbols.length c0_0, .slice a1 g.fRules.length c0_1], .string nm] w fun e w' => e = .returned (.int .i64 (minH g nm)) ∧ Below w.heap.size w w' := by
  have HB := Lib.hid ((Below.refl w.heap.size w).alloc (Nat.le_refl _) (.cells #[.slice a0 g.fSymbols.length c0_0, .slice a1 g.fRules.length c0_1] 31))
  have HC := Lib.hid (impl_minHeights (c0_0 := c0_0) (c0_1 := c0_1) g hszg (w.alloc (.cells #[.slice a0 g.fSymbols.length c0_0, .slice a1 g.fRules.length c0_1] 31)) (Nat.le_trans hhi HB.out.size) (hs0.later HB.out hhi) (hs1.later HB.out hhi))
  clear hs0 hs1 hszg hhi
  go_enter Try.func8, Try.ntmps8
  go_wp2_with fail
  refine HC.out.mono ?_
  rintro e w1 ⟨bm, n, rfl, hm, hb1⟩
  have hrun : (Instr.lookup 42 (.map (some bm)) (.string nm) false).run Try.prog w1 = .ok (.int .i64 (minH g nm)) w1 := hm.look mapSI (x := nm) (show okMS nm from by unfold okMS maxLen; omega)
  have HB1 := Lib.hid (HB.out.trans (hb1.mono HB.out.size))
  clear hm hb1
  go_wp2
  go_ret
  exact ⟨rfl, HB1.out⟩

set_option maxHeartbeats 1600000 in
set_option maxRecDepth 100000 in
theorem impl_IsProductive {lo hi : Nat} {a0 a1 : Option Addr} {c0_0 c0_1 : Nat} (g : DGrammar) (okg : g.ok) (hszg : g.sz ≤ 1048576) (nm : ByteArray) (okn : okS nm) (hnm : nm.size ≤ 1048576) (w : World) (hhi : hi ≤ w.heap.size) (hs0 : Sl lo hi w 2 g.fSymbols.length (fun k => DSymbol.ct (g.fSymbols.getD k default)) a0) (hs1 : Sl lo hi w 6 g.fRules.length (fun k => DRule.ct (g.fRules.getD k default)) a1) :
    Calls Try.prog 11 #[.agg #[.slice a0 g.fSymbols.length c0_0, .slice a1 g.fRules.length c0_1], .string nm] w fun e w' => e = .returned (.bool (decide (0 < minH g nm))) ∧ Below w.heap.size w w' := by
  have HB := Lib.hid ((Below.refl w.heap.size w).alloc (Nat.le_refl _) (.cells #[.slice a0 g.fSymbols.length c0_0, .slice a1 g.fRules.length c0_1] 31))
  have HC := Lib.hid (impl_MinHeight (c0_0 := c0_0) (c0_1 := c0_1) g okg hszg nm okn hnm (w.alloc (.cells #[.slice a0 g.fSymbols.length c0_0, .slice a1 g.fRules.length c0_1] 31)) (Nat.le_trans hhi HB.out.size) (hs0.later HB.out hhi) (hs1.later HB.out hhi))
  clear hs0 hs1 hszg hhi okg okn hnm
  generalize minH g nm = z at *
  go_enter Try.func11, Try.ntmps11
  go_wp2_with fail
  refine HC.out.mono ?_
  rintro e w1 ⟨rfl, hb1⟩
  have HB1 := Lib.hid (HB.out.trans (hb1.mono HB.out.size))
  clear hb1
  by_cases hz : 0 < z
  · have FIN := Lib.hid (decide_eq_true hz)
    go_wp2
    go_ret
    exact ⟨ret_b (by rw [FIN.out]), HB1.out⟩
  · have FIN := Lib.hid (decide_eq_false hz)
    go_wp2
    go_ret
    exact ⟨ret_b (by rw [FIN.out]), HB1.out⟩
end Go.Proofs.Ytakajfhkgjhnpaa
