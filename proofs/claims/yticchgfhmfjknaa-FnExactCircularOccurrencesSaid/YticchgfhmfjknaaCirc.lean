/-
  CircularOccurrences of the model and of the program.
-/
import Derived.Test.YticchgfhmfjknaaCircT
import Derived.Test.YticchgfhmfjknaaOccs
namespace Go.Proofs.Yticchgfhmfjknaa
open Go.ChangeShapes Go.WideShapes Go.ChangeAt Go.RowKit Go.Deep

set_option maxHeartbeats 12800000 in
set_option maxRecDepth 100000 in
theorem spec_CircularOccurrences {lo hi : Nat} {a0 a1 b2 b4 b5 : Option Addr} {c0_0 c0_1 c1_0 c1_1 c1_2 : Nat} (g : DGrammar) (okg : g.ok) (hszg : g.sz ≤ 1048576) (x : DRule) (okx : x.ok) (hszx : x.sz ≤ 1048576) (w : World) (hhi : hi ≤ w.heap.size) (hs0 : Sl lo hi w 2 g.fSymbols.length (fun k => DSymbol.ct (g.fSymbols.getD k default)) a0) (hs1 : Sl lo hi w 6 g.fRules.length (fun k => DRule.ct (g.fRules.getD k default)) a1) (hs2 : Sl lo hi w 1 x.fRight.length (fun k => ictS (x.fRight.getD k default)) b2) (hs4 : Sl lo hi w 9 x.fEquations.length (fun k => DEquation.ct (x.fEquations.getD k default)) b4) (hs5 : Sl lo hi w 16 x.fContributions.length (fun k => DContribution.ct (x.fContributions.getD k default)) b5) :
    Calls Try.prog 6 #[.agg #[.slice a0 g.fSymbols.length c0_0, .slice a1 g.fRules.length c0_1], .agg #[.string x.fName, .string x.fLeft, .slice b2 x.fRight.length c1_0, .bool x.fLiteral, .slice b4 x.fEquations.length c1_1, .slice b5 x.fContributions.length c1_2]] w fun e w' => ∃ a c, e = .returned (.slice a (circsOf g x).length c) ∧ Own w' (fun z => w.heap.size ≤ z ∧ z < w'.heap.size) (.sl 2 (circsOf g x).length (fun k => DOccurrence.ct ((circsOf g x).getD k default))) (.slice a (circsOf g x).length c) ∧ Below w.heap.size w w' := by
  have hnx := rightlen hszx
  have hzs : lsz DSymbol.sz g.fSymbols ≤ 1048576 := by unfold DGrammar.sz at hszg; omega
  have HZS := Lib.hid hzs
  clear hzs
  have HB := Lib.hid (((Below.refl w.heap.size w).alloc (Nat.le_refl _) (.cells #[.slice a0 g.fSymbols.length c0_0, .slice a1 g.fRules.length c0_1] 38)).alloc (by simp) (.cells #[.string x.fName, .string x.fLeft, .slice b2 x.fRight.length c1_0, .bool x.fLiteral, .slice b4 x.fEquations.length c1_1, .slice b5 x.fContributions.length c1_2] 43))
  have HB1 := Lib.hid (show Below w.heap.size w (((w.alloc (.cells #[.slice a0 g.fSymbols.length c0_0, .slice a1 g.fRules.length c0_1] 38)).alloc (.cells #[.string x.fName, .string x.fLeft, .slice b2 x.fRight.length c1_0, .bool x.fLiteral, .slice b4 x.fEquations.length c1_1, .slice b5 x.fContributions.length c1_2] 43)).alloc (.cells #[] 64)) from HB.out.alloc (by simp <;> omega) _)
  have HS0 := Lib.hid (fun (W : World) (hW : Below w.heap.size w W) => hs0.later hW hhi)
  have HS1 := Lib.hid (fun (W : World) (hW : Below w.heap.size w W) => hs1.later hW hhi)
  have HS2 := Lib.hid (fun (W : World) (hW : Below w.heap.size w W) => hs2.later hW hhi)
  have HS4 := Lib.hid (fun (W : World) (hW : Below w.heap.size w W) => hs4.later hW hhi)
  have HS5 := Lib.hid (fun (W : World) (hW : Below w.heap.size w W) => hs5.later hW hhi)
  have HHI := Lib.hid hhi
  have HSX := Lib.hid hszx
  have OKX := Lib.hid okx
  have HZG := Lib.hid hszg
  have OKG := Lib.hid okg
  have HLST := Lib.hid (occsOf_len hszg hszx)
  have HFIT := Lib.hid (fun (o : DOccurrence) (ho : o ∈ occsOf g x) => occ_fit hszg hszx ho)
  have HRES := Lib.hid (show (circsOf g x) = circsL g x (occsOf g x) from rfl)
  have HGO := Lib.hid (fun (w' : World) (v : Value) (K : List DOccurrence) (h : w'.ownsRow (w.heap.size + 2) 64 2 v (K).length ((K).flatMap vOcc)) => grown_own (ct := DOccurrence.ct) (by decide) vOcc_len vOcc_ct h)
  have HOC := Lib.hid (spec_OccurrencesOf (c0_0 := c0_0) (c0_1 := c0_1) (c1_0 := c1_0) (c1_1 := c1_1) (c1_2 := c1_2) g okg hszg x okx hszx (((w.alloc (.cells #[.slice a0 g.fSymbols.length c0_0, .slice a1 g.fRules.length c0_1] 38)).alloc (.cells #[.string x.fName, .string x.fLeft, .slice b2 x.fRight.length c1_0, .bool x.fLiteral, .slice b4 x.fEquations.length c1_1, .slice b5 x.fContributions.length c1_2] 43)).alloc (.cells #[] 64)) (Nat.le_trans hhi HB1.out.size) (HS0.out _ HB1.out) (HS1.out _ HB1.out) (HS2.out _ HB1.out) (HS4.out _ HB1.out) (HS5.out _ HB1.out))
  obtain ⟨i0, hi', hz0, hz1, hz2⟩ := info_parts info_Occ
  clear hs0 hs1 hs2 hs4 hs5 hhi hszx okx hszg okg
  have HCG := Lib.hid (show (((w.alloc (.cells #[.slice a0 g.fSymbols.length c0_0, .slice a1 g.fRules.length c0_1] 38)).alloc (.cells #[.string x.fName, .string x.fLeft, .slice b2 x.fRight.length c1_0, .bool x.fLiteral, .slice b4 x.fEquations.length c1_1, .slice b5 x.fContributions.length c1_2] 43)).alloc (.cells #[] 64)).heap[w.heap.size]? = some (.cells #[.slice a0 g.fSymbols.length c0_0, .slice a1 g.fRules.length c0_1] 38) from blk_alloc (by simp <;> omega) (blk_alloc (by simp) (blk_new rfl)))
  have HCR := Lib.hid (show (((w.alloc (.cells #[.slice a0 g.fSymbols.length c0_0, .slice a1 g.fRules.length c0_1] 38)).alloc (.cells #[.string x.fName, .string x.fLeft, .slice b2 x.fRight.length c1_0, .bool x.fLiteral, .slice b4 x.fEquations.length c1_1, .slice b5 x.fContributions.length c1_2] 43)).alloc (.cells #[] 64)).heap[w.heap.size + 1]? = some (.cells #[.string x.fName, .string x.fLeft, .slice b2 x.fRight.length c1_0, .bool x.fLiteral, .slice b4 x.fEquations.length c1_1, .slice b5 x.fContributions.length c1_2] 43) from blk_alloc (by simp) (blk_new (by simp)))
  have HZ1 := Lib.hid (show (((w.alloc (.cells #[.slice a0 g.fSymbols.length c0_0, .slice a1 g.fRules.length c0_1] 38)).alloc (.cells #[.string x.fName, .string x.fLeft, .slice b2 x.fRight.length c1_0, .bool x.fLiteral, .slice b4 x.fEquations.length c1_1, .slice b5 x.fContributions.length c1_2] 43)).alloc (.cells #[] 64)).heap.size = w.heap.size + 3 by simp)
  have HO0 := Lib.hid (show (((w.alloc (.cells #[.slice a0 g.fSymbols.length c0_0, .slice a1 g.fRules.length c0_1] 38)).alloc (.cells #[.string x.fName, .string x.fLeft, .slice b2 x.fRight.length c1_0, .bool x.fLiteral, .slice b4 x.fEquations.length c1_1, .slice b5 x.fContributions.length c1_2] 43)).alloc (.cells #[] 64)).ownsRow (w.heap.size + 2) 64 2 (.slice (some ⟨w.heap.size + 2, 0, none⟩) 0 0) ([] : List DOccurrence).length (([] : List DOccurrence).flatMap vOcc) from by have h := grown_made (w := ((w.alloc (.cells #[.slice a0 g.fSymbols.length c0_0, .slice a1 g.fRules.length c0_1] 38)).alloc (.cells #[.string x.fName, .string x.fLeft, .slice b2 x.fRight.length c1_0, .bool x.fLiteral, .slice b4 x.fEquations.length c1_1, .slice b5 x.fContributions.length c1_2] 43))) (e := 64) (n := 2) (vals := vOcc); rw [show ((w.alloc (.cells #[.slice a0 g.fSymbols.length c0_0, .slice a1 g.fRules.length c0_1] 38)).alloc (.cells #[.string x.fName, .string x.fLeft, .slice b2 x.fRight.length c1_0, .bool x.fLiteral, .slice b4 x.fEquations.length c1_1, .slice b5 x.fContributions.length c1_2] 43)).heap.size = w.heap.size + 2 by simp] at h; exact h)
  go_enter Try.func6, Try.ntmps6
  go_wp2_with fail
  refine HOC.out.mono ?_
  rintro e wl ⟨al, cl, rfl, hol, hbl0⟩
  have HOW := Lib.hid (own_below2 HO0.out hbl0)
  have hszl : w.heap.size + 3 ≤ wl.heap.size := by have := hbl0.size; rw [HZ1.out] at this; exact this
  have HSL := Lib.hid (show Sl (w.heap.size + 3) wl.heap.size wl 2 (occsOf g x).length (fun k => DOccurrence.ct ((occsOf g x).getD k default)) al from Sl.of (hol.lies fun y hy => ⟨by have h := hy.1; rw [HZ1.out] at h; exact h, hy.2⟩))
  have HBL := Lib.hid (HB1.out.trans (hbl0.mono HB1.out.size))
  have HCG1 := Lib.hid ((hbl0.block w.heap.size (by rw [HZ1.out]; omega)).trans HCG.out)
  have HCR1 := Lib.hid ((hbl0.block (w.heap.size + 1) (by rw [HZ1.out]; omega)).trans HCR.out)
  clear HOC hol hbl0 HO0 HCG HCR HB1 HZ1 HB
  generalize occsOf g x = lst at *
  go_wp2
  go_loopw [5, 7] (fun v i wr => ∃ j : Nat, j ≤ lst.length ∧ i = .int .i64 (j : Int) ∧ wr.ownsRow (w.heap.size + 2) 64 2 v (circsL g x (lst.take j)).length ((circsL g x (lst.take j)).flatMap vOcc) ∧ GInv (.slice (some ⟨w.heap.size + 2, 0, none⟩) 0 0) wl v wr) (fun _ i _ => lst.length - (intOf i).toNat)
  case atStart => exact ⟨0, Nat.zero_le _, rfl, HOW.out, GInv.start (Below.refl _ _)⟩
  case round =>
    obtain ⟨j, hj, rfl, hown, hinv⟩ := hrel
    obtain ⟨wq, rfl⟩ : ∃ wq : World, wq = wr := ⟨_, rfl⟩
    have HO := Lib.hid hown
    have HI := Lib.hid hinv
    have hsz1 : wl.heap.size ≤ wq.heap.size := hinv.1.size
    have hk0 : w.heap.size < wq.heap.size := by omega
    have hk1 : w.heap.size + 1 < wq.heap.size := by omega
    have HBQ := Lib.hid (hinv.below (B := w.heap.size) (fun g hg => by have e : w.heap.size + 2 = g := (by simpa [Value.ownBlock] using hg); omega) HBL.out (by omega))
    have HSQ := Lib.hid (hinv.sl HSL.out (fun g hg => by have e : w.heap.size + 2 = g := (by simpa [Value.ownBlock] using hg); omega) (Nat.le_refl _))
    have HCG2 := Lib.hid ((hinv.block (k := w.heap.size) (by omega) (by intro h; simp [Value.ownBlock] at h)).trans HCG1.out)
    have HCR2 := Lib.hid ((hinv.block (k := w.heap.size + 1) (by omega) (by intro h; simp [Value.ownBlock] at h)).trans HCR1.out)
    have HLEN := Lib.hid (Nat.le_trans (circsL_len g x (lst.take j)) (by rw [List.length_take]; exact Nat.min_le_right _ _))
    have hlstn := HLST.out
    have hjn : -9223372036854775808 ≤ (j : Int) ∧ (j : Int) ≤ 9223372036854775807 := by omega
    have g0 : wq.cell? ⟨w.heap.size, 0, none⟩ = some (.slice a0 g.fSymbols.length c0_0) := pblk_cell (j := 0) (v := .slice a0 g.fSymbols.length c0_0) HCG2.out rfl
    have g1 : wq.cell? ⟨w.heap.size, 1, none⟩ = some (.slice a1 g.fRules.length c0_1) := pblk_cell (j := 1) (v := .slice a1 g.fRules.length c0_1) HCG2.out rfl
    have r0 : wq.cell? ⟨w.heap.size + 1, 0, none⟩ = some (.string x.fName) := pblk_cell (j := 0) (v := .string x.fName) HCR2.out rfl
    have r1 : wq.cell? ⟨w.heap.size + 1, 1, none⟩ = some (.string x.fLeft) := pblk_cell (j := 1) (v := .string x.fLeft) HCR2.out rfl
    have r2 : wq.cell? ⟨w.heap.size + 1, 2, none⟩ = some (.slice b2 x.fRight.length c1_0) := pblk_cell (j := 2) (v := .slice b2 x.fRight.length c1_0) HCR2.out rfl
    have r3 : wq.cell? ⟨w.heap.size + 1, 3, none⟩ = some (.bool x.fLiteral) := pblk_cell (j := 3) (v := .bool x.fLiteral) HCR2.out rfl
    have r4 : wq.cell? ⟨w.heap.size + 1, 4, none⟩ = some (.slice b4 x.fEquations.length c1_1) := pblk_cell (j := 4) (v := .slice b4 x.fEquations.length c1_1) HCR2.out rfl
    have r5 : wq.cell? ⟨w.heap.size + 1, 5, none⟩ = some (.slice b5 x.fContributions.length c1_2) := pblk_cell (j := 5) (v := .slice b5 x.fContributions.length c1_2) HCR2.out rfl
    clear hown hinv
    by_cases hlt : j < lst.length
    · obtain ⟨b, off, rfl, hblo, hbhi, hc⟩ := HSQ.out.at j hlt
      obtain ⟨q0, q1⟩ := DOccurrence.open hc
      have hbw : b < wq.heap.size := by omega
      have htI : (0 : Int) ≤ (j : Int) ∧ (j : Int) < (lst.length : Int) := by omega
      have hfit := HFIT.out (lst.getD j default) (by rw [List.getD_eq_getElem?_getD, List.getElem?_eq_getElem hlt]; exact List.getElem_mem hlt)
      have HF1 := Lib.hid hfit.1
      have HF2 := Lib.hid hfit.2.1
      have HF3 := Lib.hid hfit.2.2
      have HY := Lib.hid (fun h => circsL_yes (g := g) (x := x) hlt h)
      have HN := Lib.hid (fun h => circsL_no (g := g) (x := x) hlt h)
      have HLK := HLEN.out
      clear hc hfit HFIT HSQ HLEN
      generalize circsL g x (lst.take j) = K at *
      generalize lst.getD j default = oc at *
      have HAT := Lib.hid (show circB g x oc = (attAt g x oc).1.fCircular from rfl)
      have okp : -9223372036854775808 ≤ oc.fPos ∧ oc.fPos ≤ 9223372036854775807 := HF2.out.1
      have OKP := Lib.hid (show okI oc.fPos from HF2.out.1)
      have HAT2 := Lib.hid (show circB g x oc = (findAttr (symS g.fSymbols (symbolAt x oc.fPos)) oc.fName).1.fCircular by rw [HAT.out, attAt_yes HF1.out])
      clear HAT
      skip
      go_wp2_with fail
      refine wp_region_free [([], none), ([], none), ([], none), ([], none), ([2, 3], none), ([4], none), ([5], none), ([1, 6], none), ([0, 7], none), ([8], none), ([9], none), ([9], none), ([], none), ([12, 10], some 12), ([11], none)] [0, 1, 2, 3, 4, 5, 6, 7, 8, 9, 10, 11, 13, 14] (fun jq9 V L H wx => match jq9 with | 0 => V 0 = .agg #[.slice a0 g.fSymbols.length c0_0, .slice a1 g.fRules.length c0_1] | 1 => V 1 = .agg #[.string x.fName, .string x.fLeft, .slice b2 x.fRight.length c1_0, .bool x.fLiteral, .slice b4 x.fEquations.length c1_1, .slice b5 x.fContributions.length c1_2] | 2 => V 2 = .slice (some ⟨b, off, none⟩) lst.length cl | 3 => V 3 = .int .i64 (j : Int) | 4 => V 4 = .pointer (some ⟨b, off + j * 2, none⟩) | 5 => V 5 = .pointer (some ⟨b, off + j * 2, none⟩) | 6 => V 6 = .int .i64 oc.fPos | 7 => V 7 = .string (symbolAt x oc.fPos) | 8 => ∃ a9 c9, V 8 = .tuple #[.agg #[.string (symS g.fSymbols (symbolAt x oc.fPos)).fName, .slice a9 (symS g.fSymbols (symbolAt x oc.fPos)).fAttributes.length c9], .bool (symB g.fSymbols (symbolAt x oc.fPos))] ∧ Own wx (fun y => L ≤ y ∧ y < H) (.sl 4 (symS g.fSymbols (symbolAt x oc.fPos)).fAttributes.length (fun k => DAttribute.ct ((symS g.fSymbols (symbolAt x oc.fPos)).fAttributes.getD k default))) (.slice a9 (symS g.fSymbols (symbolAt x oc.fPos)).fAttributes.length c9) | 9 => V 9 = V 8 ∧ ∃ a9_9 c9_9, V 9 = .tuple #[.agg #[.string (symS g.fSymbols (symbolAt x oc.fPos)).fName, .slice a9_9 (symS g.fSymbols (symbolAt x oc.fPos)).fAttributes.length c9_9], .bool (symB g.fSymbols (symbolAt x oc.fPos))] | 10 => (∀ x0 x1, V 9 = .tuple #[x0, x1] → V 10 = x0) ∧ ∃ a9_10 c9_10, V 10 = .agg #[.string (symS g.fSymbols (symbolAt x oc.fPos)).fName, .slice a9_10 (symS g.fSymbols (symbolAt x oc.fPos)).fAttributes.length c9_10] | 11 => (∀ x0 x1, V 9 = .tuple #[x0, x1] → V 11 = x1) | 12 => V 12 = .pointer (some ⟨L, 0, none⟩) ∧ L < H ∧ wx.cell? ⟨L, 0, none⟩ = some (.string ⟨#[]⟩) ∧ wx.frozen? ⟨L, 0, none⟩ = false ∧ wx.cell? ⟨L, 1, none⟩ = some (.slice none 0 0) ∧ wx.frozen? ⟨L, 1, none⟩ = false | 13 => ∀ x0 x1, V 10 = .agg #[x0, x1] → L < H ∧ wx.cell? ⟨L, 0, none⟩ = some x0 ∧ wx.frozen? ⟨L, 0, none⟩ = false ∧ wx.cell? ⟨L, 1, none⟩ = some x1 ∧ wx.frozen? ⟨L, 1, none⟩ = false | 14 => V 14 = V 11 | _ => True) (by kernel_rfl) (by kernel_rfl) ?loc ?lasts ?walk
      case loc =>
        intro k V V' L H wx h0 h1 hG
        match k with
        | 0 =>
          try dsimp only at hG ⊢
          rw [← h0]
          exact hG
        | 1 =>
          try dsimp only at hG ⊢
          rw [← h0]
          exact hG
        | 2 =>
          try dsimp only at hG ⊢
          rw [← h0]
          exact hG
        | 3 =>
          try dsimp only at hG ⊢
          rw [← h0]
          exact hG
        | 4 =>
          try dsimp only at hG ⊢
          rw [← h0]
          exact hG
        | 5 =>
          try dsimp only at hG ⊢
          rw [← h0]
          exact hG
        | 6 =>
          try dsimp only at hG ⊢
          rw [← h0]
          exact hG
        | 7 =>
          try dsimp only at hG ⊢
          rw [← h0]
          exact hG
        | 8 =>
          try dsimp only at hG ⊢
          rw [← h0]
          exact hG
        | 9 =>
          have e8 := h1 8 (by decide)
          try dsimp only at hG ⊢
          rw [← h0, ← e8]
          exact hG
        | 10 =>
          have e9 := h1 9 (by decide)
          try dsimp only at hG ⊢
          rw [← h0, ← e9]
          exact hG
        | 11 =>
          have e9 := h1 9 (by decide)
          try dsimp only at hG ⊢
          rw [← h0, ← e9]
          exact hG
        | 12 =>
          try dsimp only at hG ⊢
          rw [← h0]
          exact hG
        | 13 =>
          have e10 := h1 10 (by decide)
          try dsimp only at hG ⊢
          rw [← e10]
          exact hG
        | 14 =>
          have e11 := h1 11 (by decide)
          try dsimp only at hG ⊢
          rw [← h0, ← e11]
          exact hG
        | n + 15 => trivial
      case lasts =>
        intro i hi V L H wx wy hB hH hk
        match i, hi with
        | 0, _ => exact fun h => h
        | 1, _ => exact fun h => h
        | 2, _ => exact fun h => h
        | 3, _ => exact fun h => h
        | 4, _ => exact fun h => h
        | 5, _ => exact fun h => h
        | 6, _ => exact fun h => h
        | 7, _ => exact fun h => h
        | 8, _ => exact fun ⟨a9, c9, hv, ho0⟩ => ⟨a9, c9, hv, ho0.kept (hk.sub fun x hx => .inr hx)⟩
        | 9, _ => exact fun h => h
        | 10, _ => exact fun h => h
        | 11, _ => exact fun h => h
        | 12, _ => exact fun ⟨hv, hl, hc0, hf0, hc1, hf1⟩ => ⟨hv, hl, (hk.cell (p := ⟨L, 0, none⟩) (.inr ⟨Nat.le_refl _, hl⟩) (Nat.lt_of_lt_of_le hl hH)).trans hc0, (hk.frozen (p := ⟨L, 0, none⟩) (.inr ⟨Nat.le_refl _, hl⟩) (Nat.lt_of_lt_of_le hl hH)).trans hf0, (hk.cell (p := ⟨L, 1, none⟩) (.inr ⟨Nat.le_refl _, hl⟩) (Nat.lt_of_lt_of_le hl hH)).trans hc1, (hk.frozen (p := ⟨L, 1, none⟩) (.inr ⟨Nat.le_refl _, hl⟩) (Nat.lt_of_lt_of_le hl hH)).trans hf1⟩
        | 13, _ =>
          intro h x0 x1 hv
          obtain ⟨hl, hc0, hf0, hc1, hf1⟩ := h x0 x1 hv
          exact ⟨hl, (hk.cell (p := ⟨L, 0, none⟩) (.inr ⟨Nat.le_refl _, hl⟩) (Nat.lt_of_lt_of_le hl hH)).trans hc0, (hk.frozen (p := ⟨L, 0, none⟩) (.inr ⟨Nat.le_refl _, hl⟩) (Nat.lt_of_lt_of_le hl hH)).trans hf0, (hk.cell (p := ⟨L, 1, none⟩) (.inr ⟨Nat.le_refl _, hl⟩) (Nat.lt_of_lt_of_le hl hH)).trans hc1, (hk.frozen (p := ⟨L, 1, none⟩) (.inr ⟨Nat.le_refl _, hl⟩) (Nat.lt_of_lt_of_le hl hH)).trans hf1⟩
        | 14, _ => exact fun h => h
        | n + 15, hn => exact absurd hn (by simp)
      case walk =>
        simp (maxSteps := 4000000) only [free, Nat.reduceAdd, Act.put, List.setIfInBounds_toArray, List.set_cons_succ, List.set_cons_zero]
        refine ⟨?_, ?_, ?_, ?_, ?_, ?_, ?_, ?_, ?_, ?_, ?_, ?_, ?_, ?_, ?_, ?_⟩
        · intro V L H w1 hb1 hd
          clear hd
          have g0 : w1.cell? ⟨w.heap.size, 0, none⟩ = some (.slice a0 g.fSymbols.length c0_0) := (hb1.cell (p := ⟨w.heap.size, 0, none⟩) (by assumption)).trans g0
          have g1 : w1.cell? ⟨w.heap.size, 1, none⟩ = some (.slice a1 g.fRules.length c0_1) := (hb1.cell (p := ⟨w.heap.size, 1, none⟩) (by assumption)).trans g1
          go_wp2_with fail
          exact freePost _ rfl ⟨Below.refl _ _, upd_self⟩
        · intro V L H w1 hb1 hd
          clear hd
          have r0 : w1.cell? ⟨w.heap.size + 1, 0, none⟩ = some (.string x.fName) := (hb1.cell (p := ⟨w.heap.size + 1, 0, none⟩) (by assumption)).trans r0
          have r1 : w1.cell? ⟨w.heap.size + 1, 1, none⟩ = some (.string x.fLeft) := (hb1.cell (p := ⟨w.heap.size + 1, 1, none⟩) (by assumption)).trans r1
          have r2 : w1.cell? ⟨w.heap.size + 1, 2, none⟩ = some (.slice b2 x.fRight.length c1_0) := (hb1.cell (p := ⟨w.heap.size + 1, 2, none⟩) (by assumption)).trans r2
          have r3 : w1.cell? ⟨w.heap.size + 1, 3, none⟩ = some (.bool x.fLiteral) := (hb1.cell (p := ⟨w.heap.size + 1, 3, none⟩) (by assumption)).trans r3
          have r4 : w1.cell? ⟨w.heap.size + 1, 4, none⟩ = some (.slice b4 x.fEquations.length c1_1) := (hb1.cell (p := ⟨w.heap.size + 1, 4, none⟩) (by assumption)).trans r4
          have r5 : w1.cell? ⟨w.heap.size + 1, 5, none⟩ = some (.slice b5 x.fContributions.length c1_2) := (hb1.cell (p := ⟨w.heap.size + 1, 5, none⟩) (by assumption)).trans r5
          go_wp2_with fail
          exact freePost _ rfl ⟨Below.refl _ _, upd_self⟩
        · intro V L H w1 hb1 hd
          clear hd
          go_wp2_with fail
          exact freePost _ rfl ⟨Below.refl _ _, upd_self⟩
        · intro V L H w1 hb1 hd
          clear hd
          go_wp2_with fail
          exact freePost _ rfl ⟨Below.refl _ _, upd_self⟩
        · intro V L H w1 hb1 hd
          obtain ⟨⟨hL2, hM2, hH2, hv2⟩, ⟨hL3, hM3, hH3, hv3⟩, -⟩ := hd
          rw [hv2, hv3]
          have HV2 := Lib.hid hv2
          have HV3 := Lib.hid hv3
          clear hv2 hv3
          go_wp2_with fail
          exact freePost _ rfl ⟨Below.refl _ _, upd_self⟩
        · intro V L H w1 hb1 hd
          obtain ⟨⟨hL4, hM4, hH4, hv4⟩, -⟩ := hd
          rw [hv4]
          have HV4 := Lib.hid hv4
          clear hv4
          go_wp2_with fail
          exact freePost _ rfl ⟨Below.refl _ _, upd_self⟩
        · intro V L H w1 hb1 hd
          obtain ⟨⟨hL5, hM5, hH5, hv5⟩, -⟩ := hd
          rw [hv5]
          have HV5 := Lib.hid hv5
          clear hv5
          have q0 : w1.cell? ⟨b, off + j * 2, none⟩ = some (.int .i64 oc.fPos) := (hb1.cell (p := ⟨b, off + j * 2, none⟩) hbw).trans q0
          go_wp2_with fail
          exact freePost _ rfl ⟨Below.refl _ _, upd_self⟩
        · intro V L H w1 hb1 hd
          obtain ⟨⟨hL1, hM1, hH1, hv1⟩, ⟨hL6, hM6, hH6, hv6⟩, -⟩ := hd
          rw [hv1, hv6]
          have HV1 := Lib.hid hv1
          have HV6 := Lib.hid hv6
          clear hv1 hv6
          go_wp2_with fail
          refine (spec_SymbolAt (c0_0 := c1_0) (c0_1 := c1_1) (c0_2 := c1_2) x OKX.out HSX.out oc.fPos OKP.out _ (Nat.le_trans HHI.out (Nat.le_trans HBQ.out.size hb1.size)) (HS2.out _ (HBQ.out.trans (hb1.mono HBQ.out.size))) (HS4.out _ (HBQ.out.trans (hb1.mono HBQ.out.size))) (HS5.out _ (HBQ.out.trans (hb1.mono HBQ.out.size)))).mono ?_
          rintro e w2 ⟨rfl, hb2⟩
          go_wp2_with fail
          exact freePost _ rfl ⟨hb2, upd_self⟩
        · intro V L H w1 hb1 hd
          obtain ⟨⟨hL0, hM0, hH0, hv0⟩, ⟨hL7, hM7, hH7, hv7⟩, -⟩ := hd
          rw [hv0, hv7]
          have HV0 := Lib.hid hv0
          have HV7 := Lib.hid hv7
          clear hv0 hv7
          go_wp2_with fail
          refine (spec_FindSymbolO (c0 := c0_0) (c1 := c0_1) (a1 := a1) (n1 := g.fRules.length) g.fSymbols HZS.out (symbolAt x oc.fPos) _ (Nat.le_trans HHI.out (Nat.le_trans HBQ.out.size hb1.size)) (HS0.out _ (HBQ.out.trans (hb1.mono HBQ.out.size)))).mono ?_
          rintro e w2 ⟨⟨a9, c9, rfl, ho⟩, hb2⟩
          go_wp2_with fail
          exact freePost _ rfl ⟨hb2, Exists.intro a9 (Exists.intro c9 (And.intro (upd_self) (ho)))⟩
        · intro V L H w1 hb1 hd
          obtain ⟨⟨hL8, hM8, hH8, a9, c9, hv8, ho8_0⟩, -⟩ := hd
          rw [hv8]
          have HV8 := Lib.hid hv8
          clear hv8
          go_wp2_with fail
          exact freePost _ rfl ⟨Below.refl _ _, And.intro (upd_self.trans (HV8.out.symm.trans (upd_ne (by decide)).symm)) ⟨_, _, upd_self⟩⟩
        · intro V L H w1 hb1 hd
          obtain ⟨⟨hL9, hM9, hH9, hv9, a9_9, c9_9, hz9⟩, -⟩ := hd
          clear hv9
          rw [hz9]
          have HV9 := Lib.hid hz9
          clear hz9
          go_wp2_with fail
          exact freePost _ rfl ⟨Below.refl _ _, And.intro (fun x0 x1 h => by cases (HV9.out.symm.trans ((upd_ne (by decide)).symm.trans h)); exact upd_self) ⟨_, _, upd_self⟩⟩
        · intro V L H w1 hb1 hd
          obtain ⟨⟨hL9, hM9, hH9, hv9, a9_9, c9_9, hz9⟩, -⟩ := hd
          clear hv9
          rw [hz9]
          have HV9 := Lib.hid hz9
          clear hz9
          go_wp2_with fail
          exact freePost _ rfl ⟨Below.refl _ _, fun x0 x1 h => by cases (HV9.out.symm.trans ((upd_ne (by decide)).symm.trans h)); exact upd_self⟩
        · intro V L H w1 hb1 hd
          clear hd
          go_wp2_with fail
          refine freePost _ rfl ⟨Below.alloc (Below.refl _ _) (Nat.le_refl _) _, upd_self, ?_, ?_, ?_, ?_, ?_⟩
          · simp
          all_goals go_simp
        · intro V L H w1 hb1 hd
          obtain ⟨⟨hL12, hM12, hH12, hv12, hlt12, hc12_0, hf12_0, hc12_1, hf12_1⟩, ⟨hL10, hM10, hH10, hv10, a9_10, c9_10, hz10⟩, -⟩ := hd
          clear hv10
          rw [hv12, hz10]
          have HV12 := Lib.hid hv12
          have HV10 := Lib.hid hz10
          clear hv12 hz10
          go_wp2_with fail
          refine freePost undef rfl ⟨(Touches.put (L := L 12) (H := H 12) (Touches.put (L := L 12) (H := H 12) Touches.refl (p := ⟨L 12, 0, none⟩) ⟨Nat.le_refl _, hlt12⟩ _) (p := ⟨L 12, 1, none⟩) ⟨Nat.le_refl _, hlt12⟩ _), fun x0 x1 h => ?_⟩
          cases (HV10.out.symm.trans ((upd_ne (by decide)).symm.trans h))
          refine ⟨hlt12, ?_, ?_, ?_, ?_⟩
          all_goals go_simp
        · intro V L H w1 hb1 hd
          obtain ⟨⟨hL11, hM11, hH11, hv11⟩, -⟩ := hd
          clear hv11
          go_wp2_with fail
          exact freePost _ rfl ⟨Below.refl _ _, upd_self.trans (upd_ne (by decide)).symm⟩
        · intro V L H w1 hb1 hd hap hdead
          obtain ⟨⟨hL0, hM0, hH0, hv0⟩, ⟨hL1, hM1, hH1, hv1⟩, ⟨hL2, hM2, hH2, hv2⟩, ⟨hL3, hM3, hH3, hv3⟩, ⟨hL4, hM4, hH4, hv4⟩, ⟨hL5, hM5, hH5, hv5⟩, ⟨hL6, hM6, hH6, hv6⟩, ⟨hL7, hM7, hH7, hv7⟩, ⟨hL8, hM8, hH8, a9, c9, hv8, ho8_0⟩, ⟨hL9, hM9, hH9, hv9, a9_9, c9_9, hz9⟩, ⟨hL10, hM10, hH10, hv10, a9_10, c9_10, hz10⟩, ⟨hL11, hM11, hH11, hv11⟩, ⟨hL13, hM13, hH13, hst13_⟩, ⟨hL14, hM14, hH14, hv14⟩, -⟩ := hd
          have hv9' := hv9.trans hv8
          have hv10' := hv10 _ _ hv9'
          have hv11' := hv11 _ _ hv9'
          have hv14' := hv14.trans hv11'
          obtain ⟨vlt, vc0, vf0, vc1, vf1⟩ := hst13_ _ _ hv10'
          obtain ⟨hLe, hHe, wo, hva, -⟩ := hdead 13 12 (by decide) rfl
          rw [← hLe] at hva
          rw [hv0, hv1, hv2, hv3, hv4, hv5, hv6, hv7, hv8, hv9', hv10', hv11', hva, hv14']
          clear hv0 hv1 hv2 hv3 hv4 hv5 hv6 hv7 hv8 hv9' hv10' hv11' hva hv14' hv9 hv10 hv11 hv14
          clear hLe hHe
          have q0 : w1.cell? ⟨b, off + j * 2, none⟩ = some (.int .i64 oc.fPos) := (hb1.cell (p := ⟨b, off + j * 2, none⟩) hbw).trans q0
          have q1 : w1.cell? ⟨b, off + j * 2 + 1, none⟩ = some (.string oc.fName) := (hb1.cell (p := ⟨b, off + j * 2 + 1, none⟩) hbw).trans q1
          have HSA : Hid (Sl wq.heap.size w1.heap.size w1 4 (symS g.fSymbols (symbolAt x oc.fPos)).fAttributes.length (fun k => DAttribute.ct ((symS g.fSymbols (symbolAt x oc.fPos)).fAttributes.getD k default)) a9) := Sl.of (ho8_0.lies fun y hy => ⟨Nat.le_trans hL8 hy.1, Nat.lt_of_lt_of_le hy.2 hH8⟩)
          have HLA := Lib.hid (show (symS g.fSymbols (symbolAt x oc.fPos)).fAttributes.length ≤ 1048576 from sym_len HZS.out _)
          have HB1 := Lib.hid hb1
          have hsz2 : wq.heap.size ≤ w1.heap.size := hb1.size
          have hbw1 : b < w1.heap.size := by omega
          have hbs : L 13 < w1.heap.size := Nat.lt_of_lt_of_le vlt (show H 13 ≤ w1.heap.size from by assumption)
          have hbs2 : wq.heap.size ≤ L 13 := by assumption
          clear hb1 ho8_0 hap hdead vf0 vf1 g0 g1 r0 r1 r2 r3 r4 r5
          generalize L 13 = bs at *
          generalize (symS g.fSymbols (symbolAt x oc.fPos)) = sy at *
          go_wp2_with fail
          refine wp_region_free [([], none), ([], none), ([], none), ([1, 2], none), ([3], none), ([4], none), ([0, 5], none), ([6], none), ([7], none), ([7], none), ([], none), ([10, 8], some 10), ([9], none)] [0, 1, 2, 3, 4, 5, 6, 7, 8, 9, 11, 12] (fun jq9 V L H wx => match jq9 with | 0 => V 0 = .agg #[.string sy.fName, .slice a9 sy.fAttributes.length c9] | 1 => V 1 = .slice (some ⟨b, off, none⟩) lst.length cl | 2 => V 2 = .int .i64 (j : Int) | 3 => V 3 = .pointer (some ⟨b, off + j * 2, none⟩) | 4 => V 4 = .pointer (some ⟨b, off + j * 2 + 1, none⟩) | 5 => V 5 = .string oc.fName | 6 => V 6 = .tuple #[.agg #[.string (findAttr sy oc.fName).1.fName, .int .i64 (findAttr sy oc.fName).1.fType, .int .i64 (findAttr sy oc.fName).1.fMode, .bool (findAttr sy oc.fName).1.fCircular], .bool (findAttr sy oc.fName).2] | 7 => V 7 = V 6 ∧ V 7 = .tuple #[.agg #[.string (findAttr sy oc.fName).1.fName, .int .i64 (findAttr sy oc.fName).1.fType, .int .i64 (findAttr sy oc.fName).1.fMode, .bool (findAttr sy oc.fName).1.fCircular], .bool (findAttr sy oc.fName).2] | 8 => (∀ x0 x1, V 7 = .tuple #[x0, x1] → V 8 = x0) ∧ V 8 = .agg #[.string (findAttr sy oc.fName).1.fName, .int .i64 (findAttr sy oc.fName).1.fType, .int .i64 (findAttr sy oc.fName).1.fMode, .bool (findAttr sy oc.fName).1.fCircular] | 9 => (∀ x0 x1, V 7 = .tuple #[x0, x1] → V 9 = x1) | 10 => V 10 = .pointer (some ⟨L, 0, none⟩) ∧ L < H ∧ wx.cell? ⟨L, 0, none⟩ = some (.string ⟨#[]⟩) ∧ wx.frozen? ⟨L, 0, none⟩ = false ∧ wx.cell? ⟨L, 1, none⟩ = some (.int .i64 0) ∧ wx.frozen? ⟨L, 1, none⟩ = false ∧ wx.cell? ⟨L, 2, none⟩ = some (.int .i64 0) ∧ wx.frozen? ⟨L, 2, none⟩ = false ∧ wx.cell? ⟨L, 3, none⟩ = some (.bool false) ∧ wx.frozen? ⟨L, 3, none⟩ = false | 11 => ∀ x0 x1 x2 x3, V 8 = .agg #[x0, x1, x2, x3] → L < H ∧ wx.cell? ⟨L, 0, none⟩ = some x0 ∧ wx.frozen? ⟨L, 0, none⟩ = false ∧ wx.cell? ⟨L, 1, none⟩ = some x1 ∧ wx.frozen? ⟨L, 1, none⟩ = false ∧ wx.cell? ⟨L, 2, none⟩ = some x2 ∧ wx.frozen? ⟨L, 2, none⟩ = false ∧ wx.cell? ⟨L, 3, none⟩ = some x3 ∧ wx.frozen? ⟨L, 3, none⟩ = false | 12 => V 12 = V 9 | _ => True) (by kernel_rfl) (by kernel_rfl) ?loc ?lasts ?walk
          case loc =>
            intro k V V' L H wx h0 h1 hG
            match k with
            | 0 =>
              try dsimp only at hG ⊢
              rw [← h0]
              exact hG
            | 1 =>
              try dsimp only at hG ⊢
              rw [← h0]
              exact hG
            | 2 =>
              try dsimp only at hG ⊢
              rw [← h0]
              exact hG
            | 3 =>
              try dsimp only at hG ⊢
              rw [← h0]
              exact hG
            | 4 =>
              try dsimp only at hG ⊢
              rw [← h0]
              exact hG
            | 5 =>
              try dsimp only at hG ⊢
              rw [← h0]
              exact hG
            | 6 =>
              try dsimp only at hG ⊢
              rw [← h0]
              exact hG
            | 7 =>
              have e6 := h1 6 (by decide)
              try dsimp only at hG ⊢
              rw [← h0, ← e6]
              exact hG
            | 8 =>
              have e7 := h1 7 (by decide)
              try dsimp only at hG ⊢
              rw [← h0, ← e7]
              exact hG
            | 9 =>
              have e7 := h1 7 (by decide)
              try dsimp only at hG ⊢
              rw [← h0, ← e7]
              exact hG
            | 10 =>
              try dsimp only at hG ⊢
              rw [← h0]
              exact hG
            | 11 =>
              have e8 := h1 8 (by decide)
              try dsimp only at hG ⊢
              rw [← e8]
              exact hG
            | 12 =>
              have e9 := h1 9 (by decide)
              try dsimp only at hG ⊢
              rw [← h0, ← e9]
              exact hG
            | n + 13 => trivial
          case lasts =>
            intro i hi V L H wx wy hB hH hk
            match i, hi with
            | 0, _ => exact fun h => h
            | 1, _ => exact fun h => h
            | 2, _ => exact fun h => h
            | 3, _ => exact fun h => h
            | 4, _ => exact fun h => h
            | 5, _ => exact fun h => h
            | 6, _ => exact fun h => h
            | 7, _ => exact fun h => h
            | 8, _ => exact fun h => h
            | 9, _ => exact fun h => h
            | 10, _ => exact fun ⟨hv, hl, hc0, hf0, hc1, hf1, hc2, hf2, hc3, hf3⟩ => ⟨hv, hl, (hk.cell (p := ⟨L, 0, none⟩) (.inr ⟨Nat.le_refl _, hl⟩) (Nat.lt_of_lt_of_le hl hH)).trans hc0, (hk.frozen (p := ⟨L, 0, none⟩) (.inr ⟨Nat.le_refl _, hl⟩) (Nat.lt_of_lt_of_le hl hH)).trans hf0, (hk.cell (p := ⟨L, 1, none⟩) (.inr ⟨Nat.le_refl _, hl⟩) (Nat.lt_of_lt_of_le hl hH)).trans hc1, (hk.frozen (p := ⟨L, 1, none⟩) (.inr ⟨Nat.le_refl _, hl⟩) (Nat.lt_of_lt_of_le hl hH)).trans hf1, (hk.cell (p := ⟨L, 2, none⟩) (.inr ⟨Nat.le_refl _, hl⟩) (Nat.lt_of_lt_of_le hl hH)).trans hc2, (hk.frozen (p := ⟨L, 2, none⟩) (.inr ⟨Nat.le_refl _, hl⟩) (Nat.lt_of_lt_of_le hl hH)).trans hf2, (hk.cell (p := ⟨L, 3, none⟩) (.inr ⟨Nat.le_refl _, hl⟩) (Nat.lt_of_lt_of_le hl hH)).trans hc3, (hk.frozen (p := ⟨L, 3, none⟩) (.inr ⟨Nat.le_refl _, hl⟩) (Nat.lt_of_lt_of_le hl hH)).trans hf3⟩
            | 11, _ =>
              intro h x0 x1 x2 x3 hv
              obtain ⟨hl, hc0, hf0, hc1, hf1, hc2, hf2, hc3, hf3⟩ := h x0 x1 x2 x3 hv
              exact ⟨hl, (hk.cell (p := ⟨L, 0, none⟩) (.inr ⟨Nat.le_refl _, hl⟩) (Nat.lt_of_lt_of_le hl hH)).trans hc0, (hk.frozen (p := ⟨L, 0, none⟩) (.inr ⟨Nat.le_refl _, hl⟩) (Nat.lt_of_lt_of_le hl hH)).trans hf0, (hk.cell (p := ⟨L, 1, none⟩) (.inr ⟨Nat.le_refl _, hl⟩) (Nat.lt_of_lt_of_le hl hH)).trans hc1, (hk.frozen (p := ⟨L, 1, none⟩) (.inr ⟨Nat.le_refl _, hl⟩) (Nat.lt_of_lt_of_le hl hH)).trans hf1, (hk.cell (p := ⟨L, 2, none⟩) (.inr ⟨Nat.le_refl _, hl⟩) (Nat.lt_of_lt_of_le hl hH)).trans hc2, (hk.frozen (p := ⟨L, 2, none⟩) (.inr ⟨Nat.le_refl _, hl⟩) (Nat.lt_of_lt_of_le hl hH)).trans hf2, (hk.cell (p := ⟨L, 3, none⟩) (.inr ⟨Nat.le_refl _, hl⟩) (Nat.lt_of_lt_of_le hl hH)).trans hc3, (hk.frozen (p := ⟨L, 3, none⟩) (.inr ⟨Nat.le_refl _, hl⟩) (Nat.lt_of_lt_of_le hl hH)).trans hf3⟩
            | 12, _ => exact fun h => h
            | n + 13, hn => exact absurd hn (by simp)
          case walk =>
            simp (maxSteps := 4000000) only [free, Nat.reduceAdd, Act.put, List.setIfInBounds_toArray, List.set_cons_succ, List.set_cons_zero]
            refine ⟨?_, ?_, ?_, ?_, ?_, ?_, ?_, ?_, ?_, ?_, ?_, ?_, ?_, ?_⟩
            · intro V L H w3 hb3 hd
              clear hd
              have vc0 : w3.cell? ⟨bs, 0, none⟩ = some (.string sy.fName) := (hb3.cell (p := ⟨bs, 0, none⟩) hbs).trans vc0
              have vc1 : w3.cell? ⟨bs, 1, none⟩ = some (.slice a9 sy.fAttributes.length c9) := (hb3.cell (p := ⟨bs, 1, none⟩) hbs).trans vc1
              go_wp2_with fail
              exact freePost _ rfl ⟨Below.refl _ _, upd_self⟩
            · intro V L H w3 hb3 hd
              clear hd
              go_wp2_with fail
              exact freePost _ rfl ⟨Below.refl _ _, upd_self⟩
            · intro V L H w3 hb3 hd
              clear hd
              go_wp2_with fail
              exact freePost _ rfl ⟨Below.refl _ _, upd_self⟩
            · intro V L H w3 hb3 hd
              obtain ⟨⟨hL1, hM1, hH1, hv1⟩, ⟨hL2, hM2, hH2, hv2⟩, -⟩ := hd
              rw [hv1, hv2]
              have HV1 := Lib.hid hv1
              have HV2 := Lib.hid hv2
              clear hv1 hv2
              go_wp2_with fail
              exact freePost _ rfl ⟨Below.refl _ _, upd_self⟩
            · intro V L H w3 hb3 hd
              obtain ⟨⟨hL3, hM3, hH3, hv3⟩, -⟩ := hd
              rw [hv3]
              have HV3 := Lib.hid hv3
              clear hv3
              go_wp2_with fail
              exact freePost _ rfl ⟨Below.refl _ _, upd_self⟩
            · intro V L H w3 hb3 hd
              obtain ⟨⟨hL4, hM4, hH4, hv4⟩, -⟩ := hd
              rw [hv4]
              have HV4 := Lib.hid hv4
              clear hv4
              have q1 : w3.cell? ⟨b, off + j * 2 + 1, none⟩ = some (.string oc.fName) := (hb3.cell (p := ⟨b, off + j * 2 + 1, none⟩) hbw1).trans q1
              go_wp2_with fail
              exact freePost _ rfl ⟨Below.refl _ _, upd_self⟩
            · intro V L H w3 hb3 hd
              obtain ⟨⟨hL0, hM0, hH0, hv0⟩, ⟨hL5, hM5, hH5, hv5⟩, -⟩ := hd
              rw [hv0, hv5]
              have HV0 := Lib.hid hv0
              have HV5 := Lib.hid hv5
              clear hv0 hv5
              go_wp2_with fail
              refine (spec_FindAttributeL (c0_0 := c9) sy HLA.out oc.fName _ hb3.size (HSA.later hb3 (Nat.le_refl _))).mono ?_
              rintro e w2 ⟨rfl, hb2⟩
              go_wp2_with fail
              exact freePost _ rfl ⟨hb2, upd_self⟩
            · intro V L H w3 hb3 hd
              obtain ⟨⟨hL6, hM6, hH6, hv6⟩, -⟩ := hd
              rw [hv6]
              have HV6 := Lib.hid hv6
              clear hv6
              go_wp2_with fail
              exact freePost _ rfl ⟨Below.refl _ _, And.intro (upd_self.trans (HV6.out.symm.trans (upd_ne (by decide)).symm)) upd_self⟩
            · intro V L H w3 hb3 hd
              obtain ⟨⟨hL7, hM7, hH7, hv7, hz7⟩, -⟩ := hd
              clear hv7
              rw [hz7]
              have HV7 := Lib.hid hz7
              clear hz7
              go_wp2_with fail
              exact freePost _ rfl ⟨Below.refl _ _, And.intro (fun x0 x1 h => by cases (HV7.out.symm.trans ((upd_ne (by decide)).symm.trans h)); exact upd_self) upd_self⟩
            · intro V L H w3 hb3 hd
              obtain ⟨⟨hL7, hM7, hH7, hv7, hz7⟩, -⟩ := hd
              clear hv7
              rw [hz7]
              have HV7 := Lib.hid hz7
              clear hz7
              go_wp2_with fail
              exact freePost _ rfl ⟨Below.refl _ _, fun x0 x1 h => by cases (HV7.out.symm.trans ((upd_ne (by decide)).symm.trans h)); exact upd_self⟩
            · intro V L H w3 hb3 hd
              clear hd
              go_wp2_with fail
              refine freePost _ rfl ⟨Below.alloc (Below.refl _ _) (Nat.le_refl _) _, upd_self, ?_, ?_, ?_, ?_, ?_, ?_, ?_, ?_, ?_⟩
              · simp
              all_goals go_simp
            · intro V L H w3 hb3 hd
              obtain ⟨⟨hL10, hM10, hH10, hv10, hlt10, hc10_0, hf10_0, hc10_1, hf10_1, hc10_2, hf10_2, hc10_3, hf10_3⟩, ⟨hL8, hM8, hH8, hv8, hz8⟩, -⟩ := hd
              clear hv8
              rw [hv10, hz8]
              have HV10 := Lib.hid hv10
              have HV8 := Lib.hid hz8
              clear hv10 hz8
              go_wp2_with fail
              refine freePost undef rfl ⟨(Touches.put (L := L 10) (H := H 10) (Touches.put (L := L 10) (H := H 10) (Touches.put (L := L 10) (H := H 10) (Touches.put (L := L 10) (H := H 10) Touches.refl (p := ⟨L 10, 0, none⟩) ⟨Nat.le_refl _, hlt10⟩ _) (p := ⟨L 10, 1, none⟩) ⟨Nat.le_refl _, hlt10⟩ _) (p := ⟨L 10, 2, none⟩) ⟨Nat.le_refl _, hlt10⟩ _) (p := ⟨L 10, 3, none⟩) ⟨Nat.le_refl _, hlt10⟩ _), fun x0 x1 x2 x3 h => ?_⟩
              cases (HV8.out.symm.trans ((upd_ne (by decide)).symm.trans h))
              refine ⟨hlt10, ?_, ?_, ?_, ?_, ?_, ?_, ?_, ?_⟩
              all_goals go_simp
            · intro V L H w3 hb3 hd
              obtain ⟨⟨hL9, hM9, hH9, hv9⟩, -⟩ := hd
              clear hv9
              go_wp2_with fail
              exact freePost _ rfl ⟨Below.refl _ _, upd_self.trans (upd_ne (by decide)).symm⟩
            · intro V L H w3 hb3 hd hap hdead
              obtain ⟨⟨hL0, hM0, hH0, hv0⟩, ⟨hL1, hM1, hH1, hv1⟩, ⟨hL2, hM2, hH2, hv2⟩, ⟨hL3, hM3, hH3, hv3⟩, ⟨hL4, hM4, hH4, hv4⟩, ⟨hL5, hM5, hH5, hv5⟩, ⟨hL6, hM6, hH6, hv6⟩, ⟨hL7, hM7, hH7, hv7, hz7⟩, ⟨hL8, hM8, hH8, hv8, hz8⟩, ⟨hL9, hM9, hH9, hv9⟩, ⟨hL11, hM11, hH11, hst11_⟩, ⟨hL12, hM12, hH12, hv12⟩, -⟩ := hd
              have hv7' := hv7.trans hv6
              have hv8' := hv8 _ _ hv7'
              have hv9' := hv9 _ _ hv7'
              have hv12' := hv12.trans hv9'
              obtain ⟨vlt, vc0, vf0, vc1, vf1, vc2, vf2, vc3, vf3⟩ := hst11_ _ _ _ _ hv8'
              obtain ⟨hLe, hHe, wo, hva, -⟩ := hdead 11 10 (by decide) rfl
              rw [← hLe] at hva
              rw [hv0, hv1, hv2, hv3, hv4, hv5, hv6, hv7', hv8', hv9', hva, hv12']
              clear hv0 hv1 hv2 hv3 hv4 hv5 hv6 hv7' hv8' hv9' hva hv12' hv7 hv8 hv9 hv12
              clear hLe hHe
              have q0 : w3.cell? ⟨b, off + j * 2, none⟩ = some (.int .i64 oc.fPos) := (hb3.cell (p := ⟨b, off + j * 2, none⟩) hbw1).trans q0
              have q1 : w3.cell? ⟨b, off + j * 2 + 1, none⟩ = some (.string oc.fName) := (hb3.cell (p := ⟨b, off + j * 2 + 1, none⟩) hbw1).trans q1
              have HB3 := Lib.hid (HB1.out.trans (hb3.mono hsz2))
              have hsz3 : w1.heap.size ≤ w3.heap.size := hb3.size
              have hbw3 : b < w3.heap.size := by omega
              have HOR := Lib.hid (own_below2 HO.out HB3.out)
              have HIR := Lib.hid (HI.out.later HB3.out)
              clear hb3 hap hdead
              have vc3' := vc3.trans (congrArg (fun q => some (Value.bool q)) HAT2.out.symm)
              clear vc0 vc1 vc2 vc3 vf0 vf1 vf2 vf3
              generalize L 11 = ba at *
              cases hcb : circB g x oc
              · have HE := Lib.hid (HN.out hcb)
                rw [hcb] at vc3'
                clear HY HN
                go_wp2
                go_roundw
                case rel => exact ⟨j + 1, by omega, by go_num, by rw [HE.out]; exact own_below2 HOR.out (by repeat (first | (with_reducible exact Below.refl _ _) | (with_reducible apply Below.drew) | (with_reducible refine below_drewN ?_ _) | (refine Below.setCell ?_ (by first | omega | (simp <;> omega)) _) | (refine Below.alloc ?_ (by first | omega | (simp <;> omega)) _))), HIR.out.later (by repeat (first | (with_reducible exact Below.refl _ _) | (with_reducible apply Below.drew) | (with_reducible refine below_drewN ?_ _) | (refine Below.setCell ?_ (by first | omega | (simp <;> omega)) _) | (refine Below.alloc ?_ (by first | omega | (simp <;> omega)) _)))⟩
                case measure => simp [intOf]; omega
              · have HE := Lib.hid (HY.out hcb)
                rw [hcb] at vc3'
                clear HY HN
                have hgb : (w.heap.size + 2) ≤ w3.heap.size := by omega
                go_wp2_with (at_builtin; refine wpList_append_own_at _ rfl (.tmp 46) (.tmp 51) 33 rfl (w.heap.size + 2) 64 i0 (.agg #[.int .i64 0, .string ⟨#[]⟩]) 2 24 Try.underlying33 hi' hz0 hz1 hz2 rfl (by decide) _ _ _ rfl (HOR.out.alloc _) ⟨w3.heap.size, 0, none⟩ 1 1 [.int .i64 oc.fPos, .string oc.fName] rfl rfl (by intro q u hu; rcases q with _ | _ | q <;> simp at hu <;> subst hu <;> first | (go_simp; done) | exact (cell_of_row _ _ _ _ _ _ (blk_new (by simp))).trans rfl) (by intro u hu; simp at hu; rcases hu with rfl | rfl <;> rfl) (by unfold maxLen; omega) (by omega) (by simp <;> omega) ?_; intro v' w9 hown' hgrow hnil hat)
                have R1 := Lib.hid (grown_one (l := K) (x := oc) (vals := vOcc) hown' rfl)
                rw [← HE.out] at R1
                have R3 := Lib.hid ((HIR.out.later (show Below w3.heap.size w3 _ from (by repeat (first | (with_reducible exact Below.refl _ _) | (with_reducible apply Below.drew) | (with_reducible refine below_drewN ?_ _) | (refine Below.setCell ?_ (by first | omega | (simp <;> omega)) _) | (refine Below.alloc ?_ (by first | omega | (simp <;> omega)) _))))).grow hgrow hat)
                clear hown' hgrow hnil hat
                go_wp2
                go_roundw
                case rel => exact ⟨j + 1, by omega, by go_num, R1.out, R3.out⟩
                case measure => simp [intOf]; omega
    · obtain rfl : j = lst.length := by omega
      rw [List.take_length, ← HRES.out] at HO
      go_wp2
      go_ret
      obtain ⟨a, c, h1, h2⟩ := HGO.out _ _ _ HO.out
      exact ⟨a, c, congrArg Ending.returned h1, h2.sub fun z hz => ⟨by omega, hz.2⟩, HBQ.out⟩

set_option maxHeartbeats 12800000 in
set_option maxRecDepth 100000 in
theorem impl_CircularOccurrences {lo hi : Nat} {a0 a1 b2 b4 b5 : Option Addr} {c0_0 c0_1 c1_0 c1_1 c1_2 : Nat} (g : DGrammar) (okg : g.ok) (hszg : g.sz ≤ 1048576) (x : DRule) (okx : x.ok) (hszx : x.sz ≤ 1048576) (w : World) (hhi : hi ≤ w.heap.size) (hs0 : Sl lo hi w 2 g.fSymbols.length (fun k => DSymbol.ct (g.fSymbols.getD k default)) a0) (hs1 : Sl lo hi w 6 g.fRules.length (fun k => DRule.ct (g.fRules.getD k default)) a1) (hs2 : Sl lo hi w 1 x.fRight.length (fun k => ictS (x.fRight.getD k default)) b2) (hs4 : Sl lo hi w 9 x.fEquations.length (fun k => DEquation.ct (x.fEquations.getD k default)) b4) (hs5 : Sl lo hi w 16 x.fContributions.length (fun k => DContribution.ct (x.fContributions.getD k default)) b5) :
    Calls Try.prog 9 #[.agg #[.slice a0 g.fSymbols.length c0_0, .slice a1 g.fRules.length c0_1], .agg #[.string x.fName, .string x.fLeft, .slice b2 x.fRight.length c1_0, .bool x.fLiteral, .slice b4 x.fEquations.length c1_1, .slice b5 x.fContributions.length c1_2]] w fun e w' => ∃ a c, e = .returned (.slice a (circsOf g x).length c) ∧ Own w' (fun z => w.heap.size ≤ z ∧ z < w'.heap.size) (.sl 2 (circsOf g x).length (fun k => DOccurrence.ct ((circsOf g x).getD k default))) (.slice a (circsOf g x).length c) ∧ Below w.heap.size w w' := by
  have hnx := rightlen hszx
  have hzs : lsz DSymbol.sz g.fSymbols ≤ 1048576 := by unfold DGrammar.sz at hszg; omega
  have HZS := Lib.hid hzs
  clear hzs
  have HB := Lib.hid (((Below.refl w.heap.size w).alloc (Nat.le_refl _) (.cells #[.slice a0 g.fSymbols.length c0_0, .slice a1 g.fRules.length c0_1] 38)).alloc (by simp) (.cells #[.string x.fName, .string x.fLeft, .slice b2 x.fRight.length c1_0, .bool x.fLiteral, .slice b4 x.fEquations.length c1_1, .slice b5 x.fContributions.length c1_2] 43))
  have HB1 := Lib.hid (show Below w.heap.size w ((w.alloc (.cells #[.slice a0 g.fSymbols.length c0_0, .slice a1 g.fRules.length c0_1] 38)).alloc (.cells #[.string x.fName, .string x.fLeft, .slice b2 x.fRight.length c1_0, .bool x.fLiteral, .slice b4 x.fEquations.length c1_1, .slice b5 x.fContributions.length c1_2] 43)) from HB.out)
  have HS0 := Lib.hid (fun (W : World) (hW : Below w.heap.size w W) => hs0.later hW hhi)
  have HS1 := Lib.hid (fun (W : World) (hW : Below w.heap.size w W) => hs1.later hW hhi)
  have HS2 := Lib.hid (fun (W : World) (hW : Below w.heap.size w W) => hs2.later hW hhi)
  have HS4 := Lib.hid (fun (W : World) (hW : Below w.heap.size w W) => hs4.later hW hhi)
  have HS5 := Lib.hid (fun (W : World) (hW : Below w.heap.size w W) => hs5.later hW hhi)
  have HHI := Lib.hid hhi
  have HSX := Lib.hid hszx
  have OKX := Lib.hid okx
  have HZG := Lib.hid hszg
  have OKG := Lib.hid okg
  have HLST := Lib.hid (occsOf_len hszg hszx)
  have HFIT := Lib.hid (fun (o : DOccurrence) (ho : o ∈ occsOf g x) => occ_fit hszg hszx ho)
  have HRES := Lib.hid (show (circsOf g x) = circsL g x (occsOf g x) from rfl)
  have HGO := Lib.hid (fun (w' : World) (v : Value) (K : List DOccurrence) (h : w'.ownsRow (w.heap.size + 2) 64 2 v (K).length ((K).flatMap vOcc)) => grown_own (ct := DOccurrence.ct) (by decide) vOcc_len vOcc_ct h)
  have HOC := Lib.hid (impl_OccurrencesOf (c0_0 := c0_0) (c0_1 := c0_1) (c1_0 := c1_0) (c1_1 := c1_1) (c1_2 := c1_2) g okg hszg x okx hszx ((w.alloc (.cells #[.slice a0 g.fSymbols.length c0_0, .slice a1 g.fRules.length c0_1] 38)).alloc (.cells #[.string x.fName, .string x.fLeft, .slice b2 x.fRight.length c1_0, .bool x.fLiteral, .slice b4 x.fEquations.length c1_1, .slice b5 x.fContributions.length c1_2] 43)) (Nat.le_trans hhi HB1.out.size) (HS0.out _ HB1.out) (HS1.out _ HB1.out) (HS2.out _ HB1.out) (HS4.out _ HB1.out) (HS5.out _ HB1.out))
  obtain ⟨i0, hi', hz0, hz1, hz2⟩ := info_parts info_Occ
  clear hs0 hs1 hs2 hs4 hs5 hhi hszx okx hszg okg
  have HCG := Lib.hid (show ((w.alloc (.cells #[.slice a0 g.fSymbols.length c0_0, .slice a1 g.fRules.length c0_1] 38)).alloc (.cells #[.string x.fName, .string x.fLeft, .slice b2 x.fRight.length c1_0, .bool x.fLiteral, .slice b4 x.fEquations.length c1_1, .slice b5 x.fContributions.length c1_2] 43)).heap[w.heap.size]? = some (.cells #[.slice a0 g.fSymbols.length c0_0, .slice a1 g.fRules.length c0_1] 38) from blk_alloc (by simp) (blk_new rfl))
  have HCR := Lib.hid (show ((w.alloc (.cells #[.slice a0 g.fSymbols.length c0_0, .slice a1 g.fRules.length c0_1] 38)).alloc (.cells #[.string x.fName, .string x.fLeft, .slice b2 x.fRight.length c1_0, .bool x.fLiteral, .slice b4 x.fEquations.length c1_1, .slice b5 x.fContributions.length c1_2] 43)).heap[w.heap.size + 1]? = some (.cells #[.string x.fName, .string x.fLeft, .slice b2 x.fRight.length c1_0, .bool x.fLiteral, .slice b4 x.fEquations.length c1_1, .slice b5 x.fContributions.length c1_2] 43) from blk_new (by simp))
  have HZ1 := Lib.hid (show ((w.alloc (.cells #[.slice a0 g.fSymbols.length c0_0, .slice a1 g.fRules.length c0_1] 38)).alloc (.cells #[.string x.fName, .string x.fLeft, .slice b2 x.fRight.length c1_0, .bool x.fLiteral, .slice b4 x.fEquations.length c1_1, .slice b5 x.fContributions.length c1_2] 43)).heap.size = w.heap.size + 2 by simp)
  have HO0 := Lib.hid (show ((w.alloc (.cells #[.slice a0 g.fSymbols.length c0_0, .slice a1 g.fRules.length c0_1] 38)).alloc (.cells #[.string x.fName, .string x.fLeft, .slice b2 x.fRight.length c1_0, .bool x.fLiteral, .slice b4 x.fEquations.length c1_1, .slice b5 x.fContributions.length c1_2] 43)).ownsRow (w.heap.size + 2) 64 2 (.slice none 0 0) ([] : List DOccurrence).length (([] : List DOccurrence).flatMap vOcc) from grown_nil)
  go_enter Try.func9, Try.ntmps9
  go_wp2_with fail
  refine HOC.out.mono ?_
  rintro e wl ⟨al, cl, rfl, hol, hbl0⟩
  have HOW := Lib.hid (own_below2 HO0.out hbl0)
  have hszl : w.heap.size + 2 ≤ wl.heap.size := by have := hbl0.size; rw [HZ1.out] at this; exact this
  have HSL := Lib.hid (show Sl (w.heap.size + 2) wl.heap.size wl 2 (occsOf g x).length (fun k => DOccurrence.ct ((occsOf g x).getD k default)) al from Sl.of (hol.lies fun y hy => ⟨by have h := hy.1; rw [HZ1.out] at h; exact h, hy.2⟩))
  have HBL := Lib.hid (HB1.out.trans (hbl0.mono HB1.out.size))
  have HCG1 := Lib.hid ((hbl0.block w.heap.size (by rw [HZ1.out]; omega)).trans HCG.out)
  have HCR1 := Lib.hid ((hbl0.block (w.heap.size + 1) (by rw [HZ1.out]; omega)).trans HCR.out)
  clear HOC hol hbl0 HO0 HCG HCR HB1 HZ1 HB
  generalize occsOf g x = lst at *
  go_wp2
  go_loopw [5, 14] (fun v i wr => ∃ j : Nat, j ≤ lst.length ∧ i = .int .i64 (j : Int) ∧ wr.ownsRow (w.heap.size + 2) 64 2 v (circsL g x (lst.take j)).length ((circsL g x (lst.take j)).flatMap vOcc) ∧ GInv (.slice none 0 0) wl v wr) (fun _ i _ => lst.length - (intOf i).toNat)
  case atStart => exact ⟨0, Nat.zero_le _, rfl, HOW.out, GInv.start (Below.refl _ _)⟩
  case round =>
    obtain ⟨j, hj, rfl, hown, hinv⟩ := hrel
    obtain ⟨wq, rfl⟩ : ∃ wq : World, wq = wr := ⟨_, rfl⟩
    have HO := Lib.hid hown
    have HI := Lib.hid hinv
    have hsz1 : wl.heap.size ≤ wq.heap.size := hinv.1.size
    have hk0 : w.heap.size < wq.heap.size := by omega
    have hk1 : w.heap.size + 1 < wq.heap.size := by omega
    have HBQ := Lib.hid (hinv.below (B := w.heap.size) (fun g hg => by cases hg) HBL.out (by omega))
    have HSQ := Lib.hid (hinv.sl HSL.out (fun g hg => by cases hg) (Nat.le_refl _))
    have HCG2 := Lib.hid ((hinv.block (k := w.heap.size) (by omega) (by intro h; cases h)).trans HCG1.out)
    have HCR2 := Lib.hid ((hinv.block (k := w.heap.size + 1) (by omega) (by intro h; cases h)).trans HCR1.out)
    have HLEN := Lib.hid (Nat.le_trans (circsL_len g x (lst.take j)) (by rw [List.length_take]; exact Nat.min_le_right _ _))
    have hlstn := HLST.out
    have hjn : -9223372036854775808 ≤ (j : Int) ∧ (j : Int) ≤ 9223372036854775807 := by omega
    have g0 : wq.cell? ⟨w.heap.size, 0, none⟩ = some (.slice a0 g.fSymbols.length c0_0) := pblk_cell (j := 0) (v := .slice a0 g.fSymbols.length c0_0) HCG2.out rfl
    have g1 : wq.cell? ⟨w.heap.size, 1, none⟩ = some (.slice a1 g.fRules.length c0_1) := pblk_cell (j := 1) (v := .slice a1 g.fRules.length c0_1) HCG2.out rfl
    have r0 : wq.cell? ⟨w.heap.size + 1, 0, none⟩ = some (.string x.fName) := pblk_cell (j := 0) (v := .string x.fName) HCR2.out rfl
    have r1 : wq.cell? ⟨w.heap.size + 1, 1, none⟩ = some (.string x.fLeft) := pblk_cell (j := 1) (v := .string x.fLeft) HCR2.out rfl
    have r2 : wq.cell? ⟨w.heap.size + 1, 2, none⟩ = some (.slice b2 x.fRight.length c1_0) := pblk_cell (j := 2) (v := .slice b2 x.fRight.length c1_0) HCR2.out rfl
    have r3 : wq.cell? ⟨w.heap.size + 1, 3, none⟩ = some (.bool x.fLiteral) := pblk_cell (j := 3) (v := .bool x.fLiteral) HCR2.out rfl
    have r4 : wq.cell? ⟨w.heap.size + 1, 4, none⟩ = some (.slice b4 x.fEquations.length c1_1) := pblk_cell (j := 4) (v := .slice b4 x.fEquations.length c1_1) HCR2.out rfl
    have r5 : wq.cell? ⟨w.heap.size + 1, 5, none⟩ = some (.slice b5 x.fContributions.length c1_2) := pblk_cell (j := 5) (v := .slice b5 x.fContributions.length c1_2) HCR2.out rfl
    clear hown hinv
    by_cases hlt : j < lst.length
    · obtain ⟨b, off, rfl, hblo, hbhi, hc⟩ := HSQ.out.at j hlt
      obtain ⟨q0, q1⟩ := DOccurrence.open hc
      have hbw : b < wq.heap.size := by omega
      have htI : (0 : Int) ≤ (j : Int) ∧ (j : Int) < (lst.length : Int) := by omega
      have hfit := HFIT.out (lst.getD j default) (by rw [List.getD_eq_getElem?_getD, List.getElem?_eq_getElem hlt]; exact List.getElem_mem hlt)
      have HF1 := Lib.hid hfit.1
      have HF2 := Lib.hid hfit.2.1
      have HF3 := Lib.hid hfit.2.2
      have HY := Lib.hid (fun h => circsL_yes (g := g) (x := x) hlt h)
      have HN := Lib.hid (fun h => circsL_no (g := g) (x := x) hlt h)
      have HLK := HLEN.out
      clear hc hfit HFIT HSQ HLEN
      generalize circsL g x (lst.take j) = K at *
      generalize lst.getD j default = oc at *
      have HAT := Lib.hid (show circB g x oc = (attAt g x oc).1.fCircular from rfl)
      have HBX := Lib.hid (show Below wq.heap.size wq (wq.alloc (.cells #[.int .i64 oc.fPos, .string oc.fName] 64)) from (Below.refl _ _).alloc (Nat.le_refl _) _)
      have HBX2 := Lib.hid (HBQ.out.trans (HBX.out.mono HBQ.out.size))
      have HCA := Lib.hid (impl_attributeAt (c0_0 := c0_0) (c0_1 := c0_1) (c1_0 := c1_0) (c1_1 := c1_1) (c1_2 := c1_2) g OKG.out HZG.out x OKX.out HSX.out oc HF2.out HF3.out (wq.alloc (.cells #[.int .i64 oc.fPos, .string oc.fName] 64)) (Nat.le_trans HHI.out HBX2.out.size) (HS0.out _ HBX2.out) (HS1.out _ HBX2.out) (HS2.out _ HBX2.out) (HS4.out _ HBX2.out) (HS5.out _ HBX2.out))
      go_wp2_with fail
      refine HCA.out.mono ?_
      rintro e w3 ⟨rfl, hb3⟩
      have hsz3 : wq.heap.size + 1 ≤ w3.heap.size := by have := hb3.size; simp at this; exact this
      have o0 : w3.cell? ⟨wq.heap.size, 0, none⟩ = some (.int .i64 oc.fPos) := (hb3.cell (p := ⟨wq.heap.size, 0, none⟩) (by simp)).trans (by go_simp)
      have o1 : w3.cell? ⟨wq.heap.size, 1, none⟩ = some (.string oc.fName) := (hb3.cell (p := ⟨wq.heap.size, 1, none⟩) (by simp)).trans (by go_simp)
      have hkb : wq.heap.size < w3.heap.size := by omega
      have HB3 := Lib.hid (HBX.out.trans (hb3.mono HBX.out.size))
      have HOR := Lib.hid (own_below2 HO.out HB3.out)
      have HIR := Lib.hid (HI.out.later HB3.out)
      clear hb3 HCA HBX HBX2 q0 q1 g0 g1 r0 r1 r2 r3 r4 r5
      generalize attAt g x oc = f at *
      obtain ⟨⟨f1, f2, f3, f4⟩, f5⟩ := f
      dsimp only at HAT ⊢
      cases hcb : circB g x oc
      · have HE := Lib.hid (HN.out hcb)
        have HAT3 := HAT.out
        rw [hcb] at HAT3
        subst HAT3
        clear HY HN
        go_wp2
        go_roundw
        case rel => exact ⟨j + 1, by omega, by go_num, by rw [HE.out]; exact own_below2 HOR.out (by repeat (first | (with_reducible exact Below.refl _ _) | (with_reducible apply Below.drew) | (with_reducible refine below_drewN ?_ _) | (refine Below.setCell ?_ (by first | omega | (simp <;> omega)) _) | (refine Below.alloc ?_ (by first | omega | (simp <;> omega)) _))), HIR.out.later (by repeat (first | (with_reducible exact Below.refl _ _) | (with_reducible apply Below.drew) | (with_reducible refine below_drewN ?_ _) | (refine Below.setCell ?_ (by first | omega | (simp <;> omega)) _) | (refine Below.alloc ?_ (by first | omega | (simp <;> omega)) _)))⟩
        case measure => simp [intOf]; omega
      · have HE := Lib.hid (HY.out hcb)
        have HAT3 := HAT.out
        rw [hcb] at HAT3
        subst HAT3
        clear HY HN
        have hgb : (w.heap.size + 2) ≤ w3.heap.size := by omega
        go_wp2_with (at_builtin; refine wpList_append_own_at _ rfl (.tmp 27) (.tmp 29) 33 rfl (w.heap.size + 2) 64 i0 (.agg #[.int .i64 0, .string ⟨#[]⟩]) 2 24 Try.underlying33 hi' hz0 hz1 hz2 rfl (by decide) _ _ _ rfl ((HOR.out.alloc _).alloc _) ⟨w3.heap.size + 1, 0, none⟩ 1 1 [.int .i64 oc.fPos, .string oc.fName] rfl rfl (by intro q u hu; rcases q with _ | _ | q <;> simp at hu <;> subst hu <;> first | (go_simp; done) | exact (cell_of_row _ _ _ _ _ _ (blk_new (by simp))).trans rfl) (by intro u hu; simp at hu; rcases hu with rfl | rfl <;> rfl) (by unfold maxLen; omega) (by omega) (by simp <;> omega) ?_; intro v' w9 hown' hgrow hnil hat)
        have R1 := Lib.hid (grown_one (l := K) (x := oc) (vals := vOcc) hown' rfl)
        rw [← HE.out] at R1
        have R3 := Lib.hid ((HIR.out.later (show Below w3.heap.size w3 _ from (by repeat (first | (with_reducible exact Below.refl _ _) | (with_reducible apply Below.drew) | (with_reducible refine below_drewN ?_ _) | (refine Below.setCell ?_ (by first | omega | (simp <;> omega)) _) | (refine Below.alloc ?_ (by first | omega | (simp <;> omega)) _))))).grow hgrow hat)
        clear hown' hgrow hnil hat
        go_wp2
        go_roundw
        case rel => exact ⟨j + 1, by omega, by go_num, R1.out, R3.out⟩
        case measure => simp [intOf]; omega
    · obtain rfl : j = lst.length := by omega
      rw [List.take_length, ← HRES.out] at HO
      go_wp2
      go_ret
      obtain ⟨a, c, h1, h2⟩ := HGO.out _ _ _ HO.out
      exact ⟨a, c, congrArg Ending.returned h1, h2.sub fun z hz => ⟨by omega, hz.2⟩, HBQ.out⟩
end Go.Proofs.Yticchgfhmfjknaa
