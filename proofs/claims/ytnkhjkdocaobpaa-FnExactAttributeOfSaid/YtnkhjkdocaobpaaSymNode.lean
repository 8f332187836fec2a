/-
  SymbolOfNode, in the model and in the program; ruleIn, symbolIn.
-/
import Derived.Test.YtnkhjkdocaobpaaFindRule
import Derived.Test.YtnkhjkdocaobpaaTAt
import Derived.Test.YtnkhjkdocaobpaaInR
namespace Go.Proofs.Ytnkhjkdocaobpaa
open Go.ChangeShapes Go.WideShapes Go.ChangeAt Go.RowKit Go.Deep

/-- The symbol of the node at i. -/
def symOf (g : DGrammar) (l : List DNode) (i : Int) : ByteArray := if 0 ≤ i ∧ i < l.length then (ruleR g.fRules (l.getD i.toNat default).fRule).fLeft else ⟨#[]⟩
theorem symOf_at {g : DGrammar} {l : List DNode} {k : Nat} (h : k < l.length) : symOf g l k = (ruleR g.fRules (l.getD k default).fRule).fLeft := by unfold symOf; rw [if_pos (by omega), Int.toNat_natCast]
theorem symOf_no {g : DGrammar} {l : List DNode} {i : Int} (h : ¬ (0 ≤ i ∧ i < l.length)) : symOf g l i = ⟨#[]⟩ := if_neg h
theorem ret_sn {a b : ByteArray} (h : a = b) : Ending.returned (.string a) = .returned (.string b) := by rw [h]

set_option maxHeartbeats 6400000 in
set_option maxRecDepth 100000 in
theorem impl_ruleIn_nil {a0 a1 : Option Addr} {n0 c0 n1 c1 : Nat} (w : World) :
    Calls Try.prog 72 #[.pointer none, .agg #[.slice a0 n0 c0, .slice a1 n1 c1]] w fun e w' => e = .returned (.tuple #[.agg #[.string ⟨#[]⟩, .string ⟨#[]⟩, .slice none 0 0, .bool false, .slice none 0 0, .slice none 0 0], .bool false]) ∧ Below w.heap.size w w' := by
  have HGR := Lib.hid (show ((w.alloc (.cells #[.slice a0 n0 c0, .slice a1 n1 c1] 41)).alloc (.cells #[.string ⟨#[]⟩, .string ⟨#[]⟩, .slice none 0 0, .bool false, .slice none 0 0, .slice none 0 0] 91)).heap[w.heap.size + 1]? = some (.cells #[.string ⟨#[]⟩, .string ⟨#[]⟩, .slice none 0 0, .bool false, .slice none 0 0, .slice none 0 0] 91) from blk_new (by simp))
  go_enter Try.func72, Try.ntmps72
  go_wp2_with (first | (refine wpList_buildTo rfl 91 _ rfl (some 8) rfl #[.string ⟨#[]⟩, .string ⟨#[]⟩, .slice none 0 0, .bool false, .slice none 0 0, .slice none 0 0] (by kernel_rfl) ?_) | (refine wpList_store_rowTo rfl 91 (.tmp 4) (.tmp 8) rfl rfl (w.heap.size + 1) #[.string ⟨#[]⟩, .string ⟨#[]⟩, .slice none 0 0, .bool false, .slice none 0 0, .slice none 0 0] rfl rfl 91 _ HGR.out (by kernel_rfl) rfl (by kernel_rfl) ?_))
  refine bodyPost_ret (v := .tuple #[.agg #[.string ⟨#[]⟩, .string ⟨#[]⟩, .slice none 0 0, .bool false, .slice none 0 0, .slice none 0 0], .bool false]) (results_cell_tmp Try.results72 _ _ (w.heap.size + 1) 91 #[.string ⟨#[]⟩, .string ⟨#[]⟩, .slice none 0 0, .bool false, .slice none 0 0, .slice none 0 0] (0, 0) _ rfl (setRow_heap _ _ _ _ _ _ HGR.out) Try.underlying91 rfl (by kernel_rfl)) rfl ⟨rfl, ?_⟩
  exact pile_setRow (((Below.refl _ _).alloc (Nat.le_refl _) _).alloc (by simp) _) (by omega) _

set_option maxHeartbeats 6400000 in
set_option maxRecDepth 100000 in
theorem impl_ruleIn {lo hi : Nat} {a0 a1 : Option Addr} {c0_0 c0_1 : Nat} (g : DGrammar) (hszg : g.sz ≤ 1048576) (nm : ByteArray) (b off : Nat) (w : World) (hhi : hi ≤ w.heap.size) (hb : b < w.heap.size) (hc : w.cell? ⟨b, off + 4, none⟩ = some (.string nm)) (hs : Sl lo hi w 6 g.fRules.length (fun k => DRule.ct (g.fRules.getD k default)) a1) :
    Calls Try.prog 72 #[.pointer (some ⟨b, off, none⟩), .agg #[.slice a0 g.fSymbols.length c0_0, .slice a1 g.fRules.length c0_1]] w fun e w' => RuleOut lo hi (ruleR g.fRules nm) (ruleB g.fRules nm) w' e ∧ Below w.heap.size w w' := by
  have hz : lsz DRule.sz g.fRules ≤ 1048576 := by unfold DGrammar.sz at hszg; omega
  have HB := Lib.hid (((Below.refl w.heap.size w).alloc (Nat.le_refl _) (.cells #[.slice a0 g.fSymbols.length c0_0, .slice a1 g.fRules.length c0_1] 41)).alloc (by simp) (.cells #[.string ⟨#[]⟩, .string ⟨#[]⟩, .slice none 0 0, .bool false, .slice none 0 0, .slice none 0 0] 91))
  have HG0 := Lib.hid (show ((w.alloc (.cells #[.slice a0 g.fSymbols.length c0_0, .slice a1 g.fRules.length c0_1] 41)).alloc (.cells #[.string ⟨#[]⟩, .string ⟨#[]⟩, .slice none 0 0, .bool false, .slice none 0 0, .slice none 0 0] 91)).heap[w.heap.size]? = some (.cells #[.slice a0 g.fSymbols.length c0_0, .slice a1 g.fRules.length c0_1] 41) from blk_alloc (by simp) (blk_new rfl))
  have HGR := Lib.hid (show ((w.alloc (.cells #[.slice a0 g.fSymbols.length c0_0, .slice a1 g.fRules.length c0_1] 41)).alloc (.cells #[.string ⟨#[]⟩, .string ⟨#[]⟩, .slice none 0 0, .bool false, .slice none 0 0, .slice none 0 0] 91)).heap[w.heap.size + 1]? = some (.cells #[.string ⟨#[]⟩, .string ⟨#[]⟩, .slice none 0 0, .bool false, .slice none 0 0, .slice none 0 0] 91) from blk_new (by simp))
  have HSZ := Lib.hid (show ((w.alloc (.cells #[.slice a0 g.fSymbols.length c0_0, .slice a1 g.fRules.length c0_1] 41)).alloc (.cells #[.string ⟨#[]⟩, .string ⟨#[]⟩, .slice none 0 0, .bool false, .slice none 0 0, .slice none 0 0] 91)).heap.size = w.heap.size + 2 by simp)
  have HC := Lib.hid ((HB.out.cell (p := ⟨b, off + 4, none⟩) hb).trans hc)
  have HS := Lib.hid (hs.later HB.out hhi)
  have HZ := Lib.hid hz
  have HHI := Lib.hid hhi
  have hb2 : b < w.heap.size := hb
  clear hc hs hszg hz hb
  have HLT := Lib.hid (show w.heap.size + 1 < ((w.alloc (.cells #[.slice a0 g.fSymbols.length c0_0, .slice a1 g.fRules.length c0_1] 41)).alloc (.cells #[.string ⟨#[]⟩, .string ⟨#[]⟩, .slice none 0 0, .bool false, .slice none 0 0, .slice none 0 0] 91)).heap.size by simp)
  go_enter Try.func72, Try.ntmps72
  go_wp2_with fail
  generalize ((w.alloc (.cells #[.slice a0 g.fSymbols.length c0_0, .slice a1 g.fRules.length c0_1] 41)).alloc (.cells #[.string ⟨#[]⟩, .string ⟨#[]⟩, .slice none 0 0, .bool false, .slice none 0 0, .slice none 0 0] 91)) = w0 at *
  refine wp_region_freeK [([], .none, []), ([], .none, []), ([1], .none, []), ([2], .none, []), ([3], .none, []), ([0, 4], .none, []), ([5], .none, []), ([5], .none, []), ([6], .old, []), ([7], .none, [8])] [0, 1, 2, 3, 4, 5, 6, 7, 8, 9] [8] (fun _ => False) (fun _ => True) (fun jq9 => match jq9 with | 8 => (w.heap.size + 1) | _ => 0) (fun jq9 V L H wx => match jq9 with | 0 => V 0 = .agg #[.slice a0 g.fSymbols.length c0_0, .slice a1 g.fRules.length c0_1] | 1 => V 1 = .pointer (some ⟨b, off, none⟩) | 2 => V 2 = .pointer (some ⟨b, off, none⟩) | 3 => V 3 = .pointer (some ⟨b, off + 4, none⟩) | 4 => V 4 = .string nm | 5 => ∃ r2 r4 r5 q2 q4 q5, V 5 = .tuple #[.agg #[.string (ruleR g.fRules nm).fName, .string (ruleR g.fRules nm).fLeft, .slice r2 (ruleR g.fRules nm).fRight.length q2, .bool (ruleR g.fRules nm).fLiteral, .slice r4 (ruleR g.fRules nm).fEquations.length q4, .slice r5 (ruleR g.fRules nm).fContributions.length q5], .bool (ruleB g.fRules nm)] ∧ Sl lo hi wx 1 (ruleR g.fRules nm).fRight.length (fun k => ictS ((ruleR g.fRules nm).fRight.getD k default)) r2 ∧ Sl lo hi wx 9 (ruleR g.fRules nm).fEquations.length (fun k => DEquation.ct ((ruleR g.fRules nm).fEquations.getD k default)) r4 ∧ Sl lo hi wx 16 (ruleR g.fRules nm).fContributions.length (fun k => DContribution.ct ((ruleR g.fRules nm).fContributions.getD k default)) r5 | 6 => (∀ x0 x1, V 5 = .tuple #[x0, x1] → V 6 = x0) ∧ ∃ r2_6 r4_6 r5_6 q2_6 q4_6 q5_6, V 6 = .agg #[.string (ruleR g.fRules nm).fName, .string (ruleR g.fRules nm).fLeft, .slice r2_6 (ruleR g.fRules nm).fRight.length q2_6, .bool (ruleR g.fRules nm).fLiteral, .slice r4_6 (ruleR g.fRules nm).fEquations.length q4_6, .slice r5_6 (ruleR g.fRules nm).fContributions.length q5_6] | 7 => (∀ x0 x1, V 5 = .tuple #[x0, x1] → V 7 = x1) | 8 => ∀ x0 x1 x2 x3 x4 x5, V 6 = .agg #[x0, x1, x2, x3, x4, x5] → wx.heap[(w.heap.size + 1)]? = some (.cells #[x0, x1, x2, x3, x4, x5] 91) | 9 => V 9 = V 7 | _ => True) (by kernel_rfl) (by kernel_rfl) ?obs (fun _ h => h.elim) trivial (fun _ _ _ _ _ => trivial) ?loc ?lasts ?walk
  case obs =>
    exact (And.intro (And.intro HLT.out (fun h => h)) (And.intro (trivial) (trivial)))
  case loc =>
    intro k V V' L H wx h0 h1 hG
    match k with
    | 0 =>
      try dsimp only at hG ⊢
      rw [← h0]
      exact hG
    | 1 =>
      try dsimp only at hG ⊢
      rw [← h0]
      exact hG
    | 2 =>
      try dsimp only at hG ⊢
      rw [← h0]
      exact hG
    | 3 =>
      try dsimp only at hG ⊢
      rw [← h0]
      exact hG
    | 4 =>
      try dsimp only at hG ⊢
      rw [← h0]
      exact hG
    | 5 =>
      try dsimp only at hG ⊢
      rw [← h0]
      exact hG
    | 6 =>
      have e5 := h1 5 (by decide)
      try dsimp only at hG ⊢
      rw [← h0, ← e5]
      exact hG
    | 7 =>
      have e5 := h1 5 (by decide)
      try dsimp only at hG ⊢
      rw [← h0, ← e5]
      exact hG
    | 8 =>
      have e6 := h1 6 (by decide)
      try dsimp only at hG ⊢
      rw [← e6]
      exact hG
    | 9 =>
      have e7 := h1 7 (by decide)
      try dsimp only at hG ⊢
      rw [← h0, ← e7]
      exact hG
    | n + 10 => trivial
  case lasts =>
    intro i hi V L H wx wy hB hH hk
    match i, hi with
    | 0, _ => exact fun h => h
    | 1, _ => exact fun h => h
    | 2, _ => exact fun h => h
    | 3, _ => exact fun h => h
    | 4, _ => exact fun h => h
    | 5, _ => exact fun ⟨r2, r4, r5, q2, q4, q5, hv, ho0, ho1, ho2⟩ => ⟨r2, r4, r5, q2, q4, q5, hv, sl_kept' ho0 hk (fun b h1 h2 => .inl ⟨by have := HSZ.out; have := HHI.out; omega, fun h => h, ⟨by have := HHI.out; show b ≠ w.heap.size + 1; omega, trivial⟩⟩) (Nat.le_trans (by have := HSZ.out; have := HHI.out; omega) hB), sl_kept' ho1 hk (fun b h1 h2 => .inl ⟨by have := HSZ.out; have := HHI.out; omega, fun h => h, ⟨by have := HHI.out; show b ≠ w.heap.size + 1; omega, trivial⟩⟩) (Nat.le_trans (by have := HSZ.out; have := HHI.out; omega) hB), sl_kept' ho2 hk (fun b h1 h2 => .inl ⟨by have := HSZ.out; have := HHI.out; omega, fun h => h, ⟨by have := HHI.out; show b ≠ w.heap.size + 1; omega, trivial⟩⟩) (Nat.le_trans (by have := HSZ.out; have := HHI.out; omega) hB)⟩
    | 6, _ => exact fun h => h
    | 7, _ => exact fun h => h
    | 8, _ => exact fun h x0 x1 x2 x3 x4 x5 hv => (hk.2 ((w.heap.size + 1)) (.inr (.inr ⟨rfl, rfl⟩)) (Nat.lt_of_lt_of_le HLT.out hB)).trans (h x0 x1 x2 x3 x4 x5 hv)
    | 9, _ => exact fun h => h
    | n + 10, hn => exact absurd hn (by simp)
  case walk =>
    simp (maxSteps := 4000000) only [freeK, effK, Nat.reduceAdd, Act.put, List.setIfInBounds_toArray, List.set_cons_succ, List.set_cons_zero]
    refine ⟨?_, ?_, ?_, ?_, ?_, ?_, ?_, ?_, ?_, ?_, ?_⟩
    · intro V L H w1 hw hk hj hd
      clear hd
      have g0 : w1.cell? ⟨w.heap.size, 0, none⟩ = some (.slice a0 g.fSymbols.length c0_0) := (hk.cell (p := ⟨w.heap.size, 0, none⟩) ⟨(show w.heap.size < w0.heap.size by have := HSZ.out; omega), fun h => h, trivial⟩ (show w.heap.size < w0.heap.size by have := HSZ.out; omega)).trans (pblk_cell HG0.out rfl)
      have g1 : w1.cell? ⟨w.heap.size, 1, none⟩ = some (.slice a1 g.fRules.length c0_1) := (hk.cell (p := ⟨w.heap.size, 1, none⟩) ⟨(show w.heap.size < w0.heap.size by have := HSZ.out; omega), fun h => h, trivial⟩ (show w.heap.size < w0.heap.size by have := HSZ.out; omega)).trans (pblk_cell HG0.out rfl)
      go_wp2_with fail
      exact freePost _ rfl ⟨⟨WritesF.refl _ _, hj⟩, upd_self⟩
    · intro V L H w1 hw hk hj hd
      clear hd
      go_wp2_with fail
      exact freePost _ rfl ⟨⟨WritesF.refl _ _, hj⟩, upd_self⟩
    · intro V L H w1 hw hk hj hd
      obtain ⟨⟨hL1, hM1, hH1, hv1⟩, -⟩ := hd
      rw [hv1]
      have HV1 := Lib.hid hv1
      clear hv1
      go_wp2_with fail
      exact freePost _ rfl ⟨⟨WritesF.refl _ _, hj⟩, upd_self⟩
    · intro V L H w1 hw hk hj hd
      obtain ⟨⟨hL2, hM2, hH2, hv2⟩, -⟩ := hd
      rw [hv2]
      have HV2 := Lib.hid hv2
      clear hv2
      go_wp2_with fail
      exact freePost _ rfl ⟨⟨WritesF.refl _ _, hj⟩, upd_self⟩
    · intro V L H w1 hw hk hj hd
      obtain ⟨⟨hL3, hM3, hH3, hv3⟩, -⟩ := hd
      rw [hv3]
      have HV3 := Lib.hid hv3
      clear hv3
      have hc4 : w1.cell? ⟨b, off + 4, none⟩ = some (.string nm) := (hk.cell (p := ⟨b, off + 4, none⟩) ⟨(show b < w0.heap.size by have := HSZ.out; omega), fun h => h, trivial⟩ (show b < w0.heap.size by have := HSZ.out; omega)).trans HC.out
      go_wp2_with fail
      exact freePost _ rfl ⟨⟨WritesF.refl _ _, hj⟩, upd_self⟩
    · intro V L H w1 hw hk hj hd
      obtain ⟨⟨hL0, hM0, hH0, hv0⟩, ⟨hL4, hM4, hH4, hv4⟩, -⟩ := hd
      rw [hv0, hv4]
      have HV0 := Lib.hid hv0
      have HV4 := Lib.hid hv4
      clear hv0 hv4
      have HSL := Lib.hid (sl_kept' HS.out hk (fun b h1 h2 => ⟨by have := HSZ.out; have := HHI.out; omega, fun h => h, trivial⟩) (by have := HSZ.out; have := HHI.out; omega))
      go_wp2_with fail
      refine (impl_ruleNamed (c0 := c0_0) (c1 := c0_1) (a0 := a0) (n0 := g.fSymbols.length) g.fRules HZ.out nm w1 (Nat.le_trans (by have := HSZ.out; have := HHI.out; omega) hk.1) HSL.out).mono ?_
      rintro e w2 ⟨⟨r2, r4, r5, q2, q4, q5, rfl, ho2, ho4, ho5⟩, hb2⟩
      go_wp2_with fail
      exact freePost _ rfl ⟨⟨(WritesF.refl _ _).later hb2, trivial⟩, Exists.intro r2 (Exists.intro r4 (Exists.intro r5 (Exists.intro q2 (Exists.intro q4 (Exists.intro q5 (And.intro (upd_self) (And.intro (ho2) (And.intro (ho4) (ho5)))))))))⟩
    · intro V L H w1 hw hk hj hd
      obtain ⟨⟨hL5, hM5, hH5, r2, r4, r5, q2, q4, q5, hv5, ho5_0, ho5_1, ho5_2⟩, -⟩ := hd
      rw [hv5]
      have HV5 := Lib.hid hv5
      clear hv5
      go_wp2_with fail
      exact freePost _ rfl ⟨⟨WritesF.refl _ _, hj⟩, And.intro (fun x0 x1 h => by cases (HV5.out.symm.trans ((upd_ne (by decide)).symm.trans h)); exact upd_self) ⟨_, _, _, _, _, _, upd_self⟩⟩
    · intro V L H w1 hw hk hj hd
      obtain ⟨⟨hL5, hM5, hH5, r2, r4, r5, q2, q4, q5, hv5, ho5_0, ho5_1, ho5_2⟩, -⟩ := hd
      rw [hv5]
      have HV5 := Lib.hid hv5
      clear hv5
      go_wp2_with fail
      exact freePost _ rfl ⟨⟨WritesF.refl _ _, hj⟩, fun x0 x1 h => by cases (HV5.out.symm.trans ((upd_ne (by decide)).symm.trans h)); exact upd_self⟩
    · intro V L H w1 hw hk hj hd
      obtain ⟨⟨hL6, hM6, hH6, hv6, r2_6, r4_6, r5_6, q2_6, q4_6, q5_6, hz6⟩, -⟩ := hd
      clear hv6
      rw [hz6]
      have HV6 := Lib.hid hz6
      clear hz6
      have hblk : w1.heap[(w.heap.size + 1)]? = some (.cells #[.string ⟨#[]⟩, .string ⟨#[]⟩, .slice none 0 0, .bool false, .slice none 0 0, .slice none 0 0] 91) := (hk.2 (w.heap.size + 1) ⟨HLT.out, fun h => h, trivial⟩ HLT.out).trans HGR.out
      have hc_0 := pblk_cell (j := 0) (v := .string ⟨#[]⟩) hblk rfl
      have hf_0 := pblk_frozen (j := 0) hblk
      have hc_1 := pblk_cell (j := 1) (v := .string ⟨#[]⟩) hblk rfl
      have hf_1 := pblk_frozen (j := 1) hblk
      have hc_2 := pblk_cell (j := 2) (v := .slice none 0 0) hblk rfl
      have hf_2 := pblk_frozen (j := 2) hblk
      have hc_3 := pblk_cell (j := 3) (v := .bool false) hblk rfl
      have hf_3 := pblk_frozen (j := 3) hblk
      have hc_4 := pblk_cell (j := 4) (v := .slice none 0 0) hblk rfl
      have hf_4 := pblk_frozen (j := 4) hblk
      have hc_5 := pblk_cell (j := 5) (v := .slice none 0 0) hblk rfl
      have hf_5 := pblk_frozen (j := 5) hblk
      have HBLK := Lib.hid hblk
      clear hblk
      go_wp2_with fail
      refine freePost undef rfl ⟨(Touches.put (L := (w.heap.size + 1)) (H := (w.heap.size + 1) + 1) (Touches.put (L := (w.heap.size + 1)) (H := (w.heap.size + 1) + 1) (Touches.put (L := (w.heap.size + 1)) (H := (w.heap.size + 1) + 1) (Touches.put (L := (w.heap.size + 1)) (H := (w.heap.size + 1) + 1) (Touches.put (L := (w.heap.size + 1)) (H := (w.heap.size + 1) + 1) (Touches.put (L := (w.heap.size + 1)) (H := (w.heap.size + 1) + 1) Touches.refl (p := ⟨(w.heap.size + 1), 0, none⟩) ⟨Nat.le_refl _, (Nat.lt_succ_self _)⟩ _) (p := ⟨(w.heap.size + 1), 1, none⟩) ⟨Nat.le_refl _, (Nat.lt_succ_self _)⟩ _) (p := ⟨(w.heap.size + 1), 2, none⟩) ⟨Nat.le_refl _, (Nat.lt_succ_self _)⟩ _) (p := ⟨(w.heap.size + 1), 3, none⟩) ⟨Nat.le_refl _, (Nat.lt_succ_self _)⟩ _) (p := ⟨(w.heap.size + 1), 4, none⟩) ⟨Nat.le_refl _, (Nat.lt_succ_self _)⟩ _) (p := ⟨(w.heap.size + 1), 5, none⟩) ⟨Nat.le_refl _, (Nat.lt_succ_self _)⟩ _), fun x0 x1 x2 x3 x4 x5 h => ?_⟩
      cases (HV6.out.symm.trans ((upd_ne (by decide)).symm.trans h))
      exact (pblk_put (pblk_put (pblk_put (pblk_put (pblk_put (pblk_put HBLK.out rfl) rfl) rfl) rfl) rfl) rfl)
    · intro V L H w1 hw hk hj hd
      obtain ⟨⟨hL7, hM7, hH7, hv7⟩, -⟩ := hd
      clear hv7
      go_wp2_with fail
      exact freePost _ rfl ⟨⟨WritesF.refl _ _, hj⟩, upd_self.trans (upd_ne (by decide)).symm⟩
    · intro V L H w1 hw hj hd hap hdead
      obtain ⟨⟨hL0, hM0, hH0, hv0⟩, ⟨hL1, hM1, hH1, hv1⟩, ⟨hL2, hM2, hH2, hv2⟩, ⟨hL3, hM3, hH3, hv3⟩, ⟨hL4, hM4, hH4, hv4⟩, ⟨hL5, hM5, hH5, r2, r4, r5, q2, q4, q5, hv5, ho5_0, ho5_1, ho5_2⟩, ⟨hL6, hM6, hH6, hv6, r2_6, r4_6, r5_6, q2_6, q4_6, q5_6, hz6⟩, ⟨hL7, hM7, hH7, hv7⟩, ⟨hL8, hM8, hH8, hst8_⟩, ⟨hL9, hM9, hH9, hv9⟩, -⟩ := hd
      have hv6' := hv6 _ _ hv5
      have hv7' := hv7 _ _ hv5
      have hv9' := hv9.trans hv7'
      have pb8 := hst8_ _ _ _ _ _ _ hv6'
      rw [hv0, hv1, hv2, hv3, hv4, hv5, hv6', hv7', hv9']
      clear hv0 hv1 hv2 hv3 hv4 hv5 hv6' hv7' hv9' hv6 hv7 hv9
      have HBW := Lib.hid (show WritesF (fun y => y = w.heap.size + 1) w0 w1 from hw.sub (fun y hy => hy.elim (fun h => h.elim) (fun h => by
        by_cases e : y = w.heap.size + 1
        · exact e
        · exact absurd (show y ≠ w.heap.size + 1 ∧ True from ⟨e, trivial⟩) h)))
      have HO2 := Lib.hid ho5_0
      have HO4 := Lib.hid ho5_1
      have HO5 := Lib.hid ho5_2
      have HP8 := Lib.hid pb8
      clear ho5_0 ho5_1 ho5_2 pb8 hw hj hap hdead
      go_wp2
      refine bodyPost_ret (v := .tuple #[.agg #[.string (ruleR g.fRules nm).fName, .string (ruleR g.fRules nm).fLeft, .slice r2 (ruleR g.fRules nm).fRight.length q2, .bool (ruleR g.fRules nm).fLiteral, .slice r4 (ruleR g.fRules nm).fEquations.length q4, .slice r5 (ruleR g.fRules nm).fContributions.length q5], .bool (ruleB g.fRules nm)]) (results_cell_tmp Try.results72 _ _ (w.heap.size + 1) 91 _ (0, 0) _ rfl HP8.out Try.underlying91 rfl (by kernel_rfl)) rfl ⟨⟨_, _, _, _, _, _, rfl, HO2.out, HO4.out, HO5.out⟩, ?_⟩
      exact HB.out.trans (HBW.out.below (fun z h => by show w.heap.size ≤ z; have : z = w.heap.size + 1 := h; omega) HB.out.size)

set_option maxHeartbeats 6400000 in
set_option maxRecDepth 100000 in
theorem impl_symbolIn_nil {a0 a1 : Option Addr} {n0 c0 n1 c1 : Nat} (w : World) :
    Calls Try.prog 59 #[.pointer none, .agg #[.slice a0 n0 c0, .slice a1 n1 c1]] w fun e w' => e = .returned (.string ⟨#[]⟩) ∧ Below w.heap.size w w' := by
  have HB := Lib.hid ((Below.refl w.heap.size w).alloc (Nat.le_refl _) (.cells #[.slice a0 n0 c0, .slice a1 n1 c1] 41))
  have HC := Lib.hid (impl_ruleIn_nil (a0 := a0) (a1 := a1) (n0 := n0) (c0 := c0) (n1 := n1) (c1 := c1) (w.alloc (.cells #[.slice a0 n0 c0, .slice a1 n1 c1] 41)))
  go_enter Try.func59, Try.ntmps59
  go_wp2_with fail
  refine HC.out.mono ?_
  rintro e w1 ⟨rfl, hb1⟩
  have HB1 := Lib.hid (HB.out.trans (hb1.mono HB.out.size))
  have hsz1 := HB1.out.size
  clear hb1
  go_wp2_with (refine wpList_store_rowTo rfl 91 (.tmp 5) (.tmp 11) rfl rfl w1.heap.size _ rfl rfl 91 _ (blk_new rfl) (by kernel_rfl) rfl (by simp [Value.oneCell']) ?_; rw [setRow_newR rfl])
  go_ret
  exact ⟨rfl, HB1.out.alloc hsz1 _⟩

set_option maxHeartbeats 6400000 in
set_option maxRecDepth 100000 in
theorem impl_symbolIn {lo hi : Nat} {a0 a1 : Option Addr} {c0_0 c0_1 : Nat} (g : DGrammar) (hszg : g.sz ≤ 1048576) (nm : ByteArray) (b off : Nat) (w : World) (hhi : hi ≤ w.heap.size) (hb : b < w.heap.size) (hc : w.cell? ⟨b, off + 4, none⟩ = some (.string nm)) (hs : Sl lo hi w 6 g.fRules.length (fun k => DRule.ct (g.fRules.getD k default)) a1) :
    Calls Try.prog 59 #[.pointer (some ⟨b, off, none⟩), .agg #[.slice a0 g.fSymbols.length c0_0, .slice a1 g.fRules.length c0_1]] w fun e w' => e = .returned (.string (ruleR g.fRules nm).fLeft) ∧ Below w.heap.size w w' := by
  have HB := Lib.hid ((Below.refl w.heap.size w).alloc (Nat.le_refl _) (.cells #[.slice a0 g.fSymbols.length c0_0, .slice a1 g.fRules.length c0_1] 41))
  have HC := Lib.hid (impl_ruleIn (c0_0 := c0_0) (c0_1 := c0_1) (a0 := a0) g hszg nm b off (w.alloc (.cells #[.slice a0 g.fSymbols.length c0_0, .slice a1 g.fRules.length c0_1] 41)) (Nat.le_trans hhi HB.out.size) (by simp; omega) ((HB.out.cell (p := ⟨b, off + 4, none⟩) hb).trans hc) (hs.later HB.out hhi))
  clear hs hc hb hszg
  go_enter Try.func59, Try.ntmps59
  go_wp2_with fail
  refine HC.out.mono ?_
  rintro e w1 ⟨⟨r2, r4, r5, q2, q4, q5, rfl, -, -, -⟩, hb1⟩
  have HB1 := Lib.hid (HB.out.trans (hb1.mono HB.out.size))
  have hsz1 := HB1.out.size
  clear hb1 HC
  generalize hx : ruleR g.fRules nm = x at *
  have HXE := Lib.hid hx
  clear hx
  go_wp2_with (refine wpList_store_rowTo rfl 91 (.tmp 5) (.tmp 11) rfl rfl w1.heap.size _ rfl rfl 91 _ (blk_new rfl) (by kernel_rfl) rfl (by simp [Value.oneCell']) ?_; rw [setRow_newR rfl])
  go_ret
  exact ⟨ret_sn (congrArg DRule.fLeft HXE.out.symm), HB1.out.alloc hsz1 _⟩

set_option maxHeartbeats 6400000 in
set_option maxRecDepth 100000 in
theorem spec_SymbolOfNode {lo hi : Nat} {a0 a1 a2 : Option Addr} {c0_0 c0_1 c1_0 : Nat} (g : DGrammar) (okg : g.ok) (hszg : g.sz ≤ 1048576) (t : DTree) (okt : t.ok) (hszt : t.sz ≤ 1048576) (i : Int) (hi0 : okI i) (w : World) (hhi : hi ≤ w.heap.size) (hs0 : Sl lo hi w 2 g.fSymbols.length (fun k => DSymbol.ct (g.fSymbols.getD k default)) a0) (hs1 : Sl lo hi w 6 g.fRules.length (fun k => DRule.ct (g.fRules.getD k default)) a1) (hs2 : Sl lo hi w 6 t.fNodes.length (fun k => DNode.ct (t.fNodes.getD k default)) a2) :
    Calls Try.prog 20 #[.agg #[.slice a0 g.fSymbols.length c0_0, .slice a1 g.fRules.length c0_1], .agg #[.slice a2 t.fNodes.length c1_0], .int .i64 i] w fun e w' => e = .returned (.string (symOf g t.fNodes i)) ∧ Below w.heap.size w w' := by
  have hn : t.fNodes.length ≤ 1048576 := by unfold DTree.sz lsz at hszt; omega
  have HZ := Lib.hid (show lsz DRule.sz g.fRules ≤ 1048576 by unfold DGrammar.sz at hszg; omega)
  have HZG := Lib.hid hszg
  have HB := Lib.hid (((Below.refl w.heap.size w).alloc (Nat.le_refl _) (.cells #[.slice a0 g.fSymbols.length c0_0, .slice a1 g.fRules.length c0_1] 41)).alloc (by simp) (.cells #[.slice a2 t.fNodes.length c1_0] 45))
  have HG0 := Lib.hid (show ((w.alloc (.cells #[.slice a0 g.fSymbols.length c0_0, .slice a1 g.fRules.length c0_1] 41)).alloc (.cells #[.slice a2 t.fNodes.length c1_0] 45)).heap[w.heap.size]? = some (.cells #[.slice a0 g.fSymbols.length c0_0, .slice a1 g.fRules.length c0_1] 41) from blk_alloc (by simp) (blk_new rfl))
  have HT0 := Lib.hid (show ((w.alloc (.cells #[.slice a0 g.fSymbols.length c0_0, .slice a1 g.fRules.length c0_1] 41)).alloc (.cells #[.slice a2 t.fNodes.length c1_0] 45)).heap[w.heap.size + 1]? = some (.cells #[.slice a2 t.fNodes.length c1_0] 45) from blk_new (by simp))
  have HSZ := Lib.hid (show ((w.alloc (.cells #[.slice a0 g.fSymbols.length c0_0, .slice a1 g.fRules.length c0_1] 41)).alloc (.cells #[.slice a2 t.fNodes.length c1_0] 45)).heap.size = w.heap.size + 2 by simp)
  have HS1 := Lib.hid (hs1.later HB.out hhi)
  have HS2 := Lib.hid (hs2.later HB.out hhi)
  have HHI := Lib.hid hhi
  have hi1 : -9223372036854775808 ≤ i ∧ i ≤ 9223372036854775807 := hi0
  clear hs0 hs1 hs2 hszg hszt okg okt hi0
  have HI := Lib.hid (show ∀ (w' : World) (x y : Int), Calls Try.prog 35 #[.int .i64 x, .int .i64 0, .int .i64 y] w' fun e w'' => e = .returned (.bool (inR x 0 y)) ∧ w' = w'' from fun w' x y => spec_l1In x 0 y w')
  have HWR := Lib.hid (show IntKind.i64.wrap ((t.fNodes.length : Int) - 1) = (t.fNodes.length : Int) - 1 by rw [IntKind.wrap_i64]; omega)
  by_cases hr : 0 ≤ i ∧ i < t.fNodes.length
  · obtain ⟨k, rfl⟩ : ∃ n : Nat, i = n := ⟨i.toNat, by omega⟩
    have hkl : k < t.fNodes.length := by omega
    have fin := Lib.hid (symOf_at (g := g) hkl)
    have i1 : inR (k : Int) 0 ((t.fNodes.length : Int) - 1) = true := inR_yes (by omega) (by omega)
    have i1w : inR (k : Int) 0 (IntKind.i64.wrap ((t.fNodes.length : Int) - 1)) = true := by rw [HWR.out]; exact i1
    obtain ⟨b, off, rfl, _, hbh, hc⟩ := HS2.out.at k hkl
    obtain ⟨a9, c9, -, -, -, -, hc4, -, -⟩ := DNode.open hc
    have HC4 := Lib.hid hc4
    clear hc hc4 hr hi1
    generalize (t.fNodes.getD k default).fRule = nm at *
    go_enter Try.func20, Try.ntmps20
    go_wp2_with fail
    refine (HI.out _ _ _).mono ?_
    rintro e w9 ⟨rfl, rfl⟩
    go_wp2_with fail
    generalize ((w.alloc (.cells #[.slice a0 g.fSymbols.length c0_0, .slice a1 g.fRules.length c0_1] 41)).alloc (.cells #[.slice (some ⟨b, off, none⟩) t.fNodes.length c1_0] 45)) = w0 at *
    refine wp_region_freeK [([], .none, []), ([], .none, []), ([1], .none, []), ([], .none, []), ([2, 3], .none, []), ([4], .none, []), ([5], .none, []), ([0, 6], .none, []), ([7], .none, []), ([8], .none, []), ([8], .none, []), ([], .none, []), ([11, 9], .new 11, []), ([10], .none, [])] [0, 1, 2, 3, 4, 5, 6, 7, 8, 9, 10, 12, 13] [] (fun _ => False) (fun _ => True) (fun _ => 0) (fun jq9 V L H wx => match jq9 with | 0 => V 0 = .agg #[.slice a0 g.fSymbols.length c0_0, .slice a1 g.fRules.length c0_1] | 1 => V 1 = .pointer (some ⟨w.heap.size + 1, 0, none⟩) | 2 => V 2 = .slice (some ⟨b, off, none⟩) t.fNodes.length c1_0 | 3 => V 3 = .int .i64 (k : Int) | 4 => V 4 = .pointer (some ⟨b, off + k * 6, none⟩) | 5 => V 5 = .pointer (some ⟨b, off + k * 6 + 4, none⟩) | 6 => V 6 = .string nm | 7 => ∃ r2 r4 r5 q2 q4 q5, V 7 = .tuple #[.agg #[.string (ruleR g.fRules nm).fName, .string (ruleR g.fRules nm).fLeft, .slice r2 (ruleR g.fRules nm).fRight.length q2, .bool (ruleR g.fRules nm).fLiteral, .slice r4 (ruleR g.fRules nm).fEquations.length q4, .slice r5 (ruleR g.fRules nm).fContributions.length q5], .bool (ruleB g.fRules nm)] | 8 => V 8 = V 7 ∧ ∃ r2_8 r4_8 r5_8 q2_8 q4_8 q5_8, V 8 = .tuple #[.agg #[.string (ruleR g.fRules nm).fName, .string (ruleR g.fRules nm).fLeft, .slice r2_8 (ruleR g.fRules nm).fRight.length q2_8, .bool (ruleR g.fRules nm).fLiteral, .slice r4_8 (ruleR g.fRules nm).fEquations.length q4_8, .slice r5_8 (ruleR g.fRules nm).fContributions.length q5_8], .bool (ruleB g.fRules nm)] | 9 => (∀ x0 x1, V 8 = .tuple #[x0, x1] → V 9 = x0) ∧ ∃ r2_9 r4_9 r5_9 q2_9 q4_9 q5_9, V 9 = .agg #[.string (ruleR g.fRules nm).fName, .string (ruleR g.fRules nm).fLeft, .slice r2_9 (ruleR g.fRules nm).fRight.length q2_9, .bool (ruleR g.fRules nm).fLiteral, .slice r4_9 (ruleR g.fRules nm).fEquations.length q4_9, .slice r5_9 (ruleR g.fRules nm).fContributions.length q5_9] | 10 => (∀ x0 x1, V 8 = .tuple #[x0, x1] → V 10 = x1) | 11 => V 11 = .pointer (some ⟨L, 0, none⟩) ∧ L < H ∧ wx.heap[L]? = some (.cells #[.string ⟨#[]⟩, .string ⟨#[]⟩, .slice none 0 0, .bool false, .slice none 0 0, .slice none 0 0] 91) | 12 => ∀ x0 x1 x2 x3 x4 x5, V 9 = .agg #[x0, x1, x2, x3, x4, x5] → L < H ∧ wx.heap[L]? = some (.cells #[x0, x1, x2, x3, x4, x5] 91) | 13 => V 13 = V 10 | _ => True) (by kernel_rfl) (by kernel_rfl) ?obs (fun _ h => h.elim) trivial (fun _ _ _ _ _ => trivial) ?loc ?lasts ?walk
    case obs =>
      trivial
    case loc =>
      intro k V V' L H wx h0 h1 hG
      match k with
      | 0 =>
        try dsimp only at hG ⊢
        rw [← h0]
        exact hG
      | 1 =>
        try dsimp only at hG ⊢
        rw [← h0]
        exact hG
      | 2 =>
        try dsimp only at hG ⊢
        rw [← h0]
        exact hG
      | 3 =>
        try dsimp only at hG ⊢
        rw [← h0]
        exact hG
      | 4 =>
        try dsimp only at hG ⊢
        rw [← h0]
        exact hG
      | 5 =>
        try dsimp only at hG ⊢
        rw [← h0]
        exact hG
      | 6 =>
        try dsimp only at hG ⊢
        rw [← h0]
        exact hG
      | 7 =>
        try dsimp only at hG ⊢
        rw [← h0]
        exact hG
      | 8 =>
        have e7 := h1 7 (by decide)
        try dsimp only at hG ⊢
        rw [← h0, ← e7]
        exact hG
      | 9 =>
        have e8 := h1 8 (by decide)
        try dsimp only at hG ⊢
        rw [← h0, ← e8]
        exact hG
      | 10 =>
        have e8 := h1 8 (by decide)
        try dsimp only at hG ⊢
        rw [← h0, ← e8]
        exact hG
      | 11 =>
        try dsimp only at hG ⊢
        rw [← h0]
        exact hG
      | 12 =>
        have e9 := h1 9 (by decide)
        try dsimp only at hG ⊢
        rw [← e9]
        exact hG
      | 13 =>
        have e10 := h1 10 (by decide)
        try dsimp only at hG ⊢
        rw [← h0, ← e10]
        exact hG
      | n + 14 => trivial
    case lasts =>
      intro i hi V L H wx wy hB hH hk
      match i, hi with
      | 0, _ => exact fun h => h
      | 1, _ => exact fun h => h
      | 2, _ => exact fun h => h
      | 3, _ => exact fun h => h
      | 4, _ => exact fun h => h
      | 5, _ => exact fun h => h
      | 6, _ => exact fun h => h
      | 7, _ => exact fun h => h
      | 8, _ => exact fun h => h
      | 9, _ => exact fun h => h
      | 10, _ => exact fun h => h
      | 11, _ => exact fun ⟨hv, hl, hc⟩ => ⟨hv, hl, (hk.2 L (.inr (.inl ⟨Nat.le_refl _, hl⟩)) (Nat.lt_of_lt_of_le hl hH)).trans hc⟩
      | 12, _ => exact fun h x0 x1 x2 x3 x4 x5 hv => ⟨(h x0 x1 x2 x3 x4 x5 hv).1, (hk.2 L (.inr (.inl ⟨Nat.le_refl _, (h x0 x1 x2 x3 x4 x5 hv).1⟩)) (Nat.lt_of_lt_of_le (h x0 x1 x2 x3 x4 x5 hv).1 hH)).trans (h x0 x1 x2 x3 x4 x5 hv).2⟩
      | 13, _ => exact fun h => h
      | n + 14, hn => exact absurd hn (by simp)
    case walk =>
      simp (maxSteps := 4000000) only [freeK, effK, Nat.reduceAdd, Act.put, List.setIfInBounds_toArray, List.set_cons_succ, List.set_cons_zero]
      refine ⟨?_, ?_, ?_, ?_, ?_, ?_, ?_, ?_, ?_, ?_, ?_, ?_, ?_, ?_, ?_⟩
      · intro V L H w1 hw hk hj hd
        clear hd
        have g0 : w1.cell? ⟨w.heap.size, 0, none⟩ = some (.slice a0 g.fSymbols.length c0_0) := (hk.cell (p := ⟨w.heap.size, 0, none⟩) ⟨(show w.heap.size < w0.heap.size by have := HSZ.out; have := HHI.out; omega), fun h => h, trivial⟩ (show w.heap.size < w0.heap.size by have := HSZ.out; have := HHI.out; omega)).trans (pblk_cell HG0.out rfl)
        have g1 : w1.cell? ⟨w.heap.size, 1, none⟩ = some (.slice a1 g.fRules.length c0_1) := (hk.cell (p := ⟨w.heap.size, 1, none⟩) ⟨(show w.heap.size < w0.heap.size by have := HSZ.out; have := HHI.out; omega), fun h => h, trivial⟩ (show w.heap.size < w0.heap.size by have := HSZ.out; have := HHI.out; omega)).trans (pblk_cell HG0.out rfl)
        go_wp2_with fail
        exact freePost _ rfl ⟨⟨WritesF.refl _ _, hj⟩, upd_self⟩
      · intro V L H w1 hw hk hj hd
        clear hd
        go_wp2_with fail
        exact freePost _ rfl ⟨⟨WritesF.refl _ _, hj⟩, upd_self⟩
      · intro V L H w1 hw hk hj hd
        obtain ⟨⟨hL1, hM1, hH1, hv1⟩, -⟩ := hd
        rw [hv1]
        have HV1 := Lib.hid hv1
        clear hv1
        have t0 : w1.cell? ⟨w.heap.size + 1, 0, none⟩ = some (.slice (some ⟨b, off, none⟩) t.fNodes.length c1_0) := (hk.cell (p := ⟨w.heap.size + 1, 0, none⟩) ⟨(show w.heap.size + 1 < w0.heap.size by have := HSZ.out; have := HHI.out; omega), fun h => h, trivial⟩ (show w.heap.size + 1 < w0.heap.size by have := HSZ.out; have := HHI.out; omega)).trans (pblk_cell HT0.out rfl)
        go_wp2_with fail
        exact freePost _ rfl ⟨⟨WritesF.refl _ _, hj⟩, upd_self⟩
      · intro V L H w1 hw hk hj hd
        clear hd
        go_wp2_with fail
        exact freePost _ rfl ⟨⟨WritesF.refl _ _, hj⟩, upd_self⟩
      · intro V L H w1 hw hk hj hd
        obtain ⟨⟨hL2, hM2, hH2, hv2⟩, ⟨hL3, hM3, hH3, hv3⟩, -⟩ := hd
        rw [hv2, hv3]
        have HV2 := Lib.hid hv2
        have HV3 := Lib.hid hv3
        clear hv2 hv3
        go_wp2_with fail
        exact freePost _ rfl ⟨⟨WritesF.refl _ _, hj⟩, upd_self⟩
      · intro V L H w1 hw hk hj hd
        obtain ⟨⟨hL4, hM4, hH4, hv4⟩, -⟩ := hd
        rw [hv4]
        have HV4 := Lib.hid hv4
        clear hv4
        go_wp2_with fail
        exact freePost _ rfl ⟨⟨WritesF.refl _ _, hj⟩, upd_self⟩
      · intro V L H w1 hw hk hj hd
        obtain ⟨⟨hL5, hM5, hH5, hv5⟩, -⟩ := hd
        rw [hv5]
        have HV5 := Lib.hid hv5
        clear hv5
        have hc4 : w1.cell? ⟨b, off + k * 6 + 4, none⟩ = some (.string nm) := (hk.cell (p := ⟨b, off + k * 6 + 4, none⟩) ⟨(show b < w0.heap.size by have := HSZ.out; have := HHI.out; omega), fun h => h, trivial⟩ (show b < w0.heap.size by have := HSZ.out; have := HHI.out; omega)).trans HC4.out
        go_wp2_with fail
        exact freePost _ rfl ⟨⟨WritesF.refl _ _, hj⟩, upd_self⟩
      · intro V L H w1 hw hk hj hd
        obtain ⟨⟨hL0, hM0, hH0, hv0⟩, ⟨hL6, hM6, hH6, hv6⟩, -⟩ := hd
        rw [hv0, hv6]
        have HV0 := Lib.hid hv0
        have HV6 := Lib.hid hv6
        clear hv0 hv6
        have HSL := Lib.hid (sl_kept' HS1.out hk (fun b h1 h2 => ⟨by have := HSZ.out; have := HHI.out; omega, fun h => h, trivial⟩) (by have := HSZ.out; have := HHI.out; omega))
        go_wp2_with fail
        refine (spec_FindRule (c0 := c0_0) (c1 := c0_1) (a0 := a0) (n0 := g.fSymbols.length) g.fRules HZ.out nm w1 (Nat.le_trans (by have := HSZ.out; have := HHI.out; omega) hk.1) HSL.out).mono ?_
        rintro e w2 ⟨⟨r2, r4, r5, q2, q4, q5, rfl, ho2⟩, hb2⟩
        go_wp2_with fail
        exact freePost _ rfl ⟨⟨(WritesF.refl _ _).later hb2, trivial⟩, Exists.intro r2 (Exists.intro r4 (Exists.intro r5 (Exists.intro q2 (Exists.intro q4 (Exists.intro q5 (upd_self))))))⟩
      · intro V L H w1 hw hk hj hd
        obtain ⟨⟨hL7, hM7, hH7, r2, r4, r5, q2, q4, q5, hv7⟩, -⟩ := hd
        rw [hv7]
        have HV7 := Lib.hid hv7
        clear hv7
        go_wp2_with fail
        exact freePost _ rfl ⟨⟨WritesF.refl _ _, hj⟩, And.intro (upd_self.trans (HV7.out.symm.trans (upd_ne (by decide)).symm)) ⟨_, _, _, _, _, _, upd_self⟩⟩
      · intro V L H w1 hw hk hj hd
        obtain ⟨⟨hL8, hM8, hH8, hv8, r2_8, r4_8, r5_8, q2_8, q4_8, q5_8, hz8⟩, -⟩ := hd
        clear hv8
        rw [hz8]
        have HV8 := Lib.hid hz8
        clear hz8
        go_wp2_with fail
        exact freePost _ rfl ⟨⟨WritesF.refl _ _, hj⟩, And.intro (fun x0 x1 h => by cases (HV8.out.symm.trans ((upd_ne (by decide)).symm.trans h)); exact upd_self) ⟨_, _, _, _, _, _, upd_self⟩⟩
      · intro V L H w1 hw hk hj hd
        obtain ⟨⟨hL8, hM8, hH8, hv8, r2_8, r4_8, r5_8, q2_8, q4_8, q5_8, hz8⟩, -⟩ := hd
        clear hv8
        rw [hz8]
        have HV8 := Lib.hid hz8
        clear hz8
        go_wp2_with fail
        exact freePost _ rfl ⟨⟨WritesF.refl _ _, hj⟩, fun x0 x1 h => by cases (HV8.out.symm.trans ((upd_ne (by decide)).symm.trans h)); exact upd_self⟩
      · intro V L H w1 hw hk hj hd
        clear hd
        go_wp2_with fail
        refine freePost _ rfl ⟨⟨(WritesF.refl _ _).later ((Below.refl _ _).alloc (Nat.le_refl _) _), trivial⟩, upd_self, by simp, blk_new rfl⟩
      · intro V L H w1 hw hk hj hd
        obtain ⟨⟨hL11, hM11, hH11, hv11, hlt11, hc11⟩, ⟨hL9, hM9, hH9, hv9, r2_9, r4_9, r5_9, q2_9, q4_9, q5_9, hz9⟩, -⟩ := hd
        clear hv9
        rw [hv11, hz9]
        have HV11 := Lib.hid hv11
        have HV9 := Lib.hid hz9
        clear hv11 hz9
        have hc_0 := pblk_cell (j := 0) (v := .string ⟨#[]⟩) hc11 rfl
        have hf_0 := pblk_frozen (j := 0) hc11
        have hc_1 := pblk_cell (j := 1) (v := .string ⟨#[]⟩) hc11 rfl
        have hf_1 := pblk_frozen (j := 1) hc11
        have hc_2 := pblk_cell (j := 2) (v := .slice none 0 0) hc11 rfl
        have hf_2 := pblk_frozen (j := 2) hc11
        have hc_3 := pblk_cell (j := 3) (v := .bool false) hc11 rfl
        have hf_3 := pblk_frozen (j := 3) hc11
        have hc_4 := pblk_cell (j := 4) (v := .slice none 0 0) hc11 rfl
        have hf_4 := pblk_frozen (j := 4) hc11
        have hc_5 := pblk_cell (j := 5) (v := .slice none 0 0) hc11 rfl
        have hf_5 := pblk_frozen (j := 5) hc11
        have HBLK := Lib.hid hc11
        clear hc11
        go_wp2_with fail
        refine freePost undef rfl ⟨(Touches.put (L := L 11) (H := H 11) (Touches.put (L := L 11) (H := H 11) (Touches.put (L := L 11) (H := H 11) (Touches.put (L := L 11) (H := H 11) (Touches.put (L := L 11) (H := H 11) (Touches.put (L := L 11) (H := H 11) Touches.refl (p := ⟨L 11, 0, none⟩) ⟨Nat.le_refl _, hlt11⟩ _) (p := ⟨L 11, 1, none⟩) ⟨Nat.le_refl _, hlt11⟩ _) (p := ⟨L 11, 2, none⟩) ⟨Nat.le_refl _, hlt11⟩ _) (p := ⟨L 11, 3, none⟩) ⟨Nat.le_refl _, hlt11⟩ _) (p := ⟨L 11, 4, none⟩) ⟨Nat.le_refl _, hlt11⟩ _) (p := ⟨L 11, 5, none⟩) ⟨Nat.le_refl _, hlt11⟩ _), fun x0 x1 x2 x3 x4 x5 h => ?_⟩
        cases (HV9.out.symm.trans ((upd_ne (by decide)).symm.trans h))
        exact ⟨hlt11, (pblk_put (pblk_put (pblk_put (pblk_put (pblk_put (pblk_put HBLK.out rfl) rfl) rfl) rfl) rfl) rfl)⟩
      · intro V L H w1 hw hk hj hd
        obtain ⟨⟨hL10, hM10, hH10, hv10⟩, -⟩ := hd
        clear hv10
        go_wp2_with fail
        exact freePost _ rfl ⟨⟨WritesF.refl _ _, hj⟩, upd_self.trans (upd_ne (by decide)).symm⟩
      · intro V L H w1 hw hj hd hap hdead
        obtain ⟨⟨hL0, hM0, hH0, hv0⟩, ⟨hL1, hM1, hH1, hv1⟩, ⟨hL2, hM2, hH2, hv2⟩, ⟨hL3, hM3, hH3, hv3⟩, ⟨hL4, hM4, hH4, hv4⟩, ⟨hL5, hM5, hH5, hv5⟩, ⟨hL6, hM6, hH6, hv6⟩, ⟨hL7, hM7, hH7, r2, r4, r5, q2, q4, q5, hv7⟩, ⟨hL8, hM8, hH8, hv8, r2_8, r4_8, r5_8, q2_8, q4_8, q5_8, hz8⟩, ⟨hL9, hM9, hH9, hv9, r2_9, r4_9, r5_9, q2_9, q4_9, q5_9, hz9⟩, ⟨hL10, hM10, hH10, hv10⟩, ⟨hL12, hM12, hH12, hst12_⟩, ⟨hL13, hM13, hH13, hv13⟩, -⟩ := hd
        have hv8' := hv8.trans hv7
        have hv9' := hv9 _ _ hv8'
        have hv10' := hv10 _ _ hv8'
        have hv13' := hv13.trans hv10'
        obtain ⟨vlt12, vb12⟩ := hst12_ _ _ _ _ _ _ hv9'
        obtain ⟨hLe12, hHe12, wo12, hva12, -⟩ := hdead 12 11 (by decide) rfl
        rw [← hLe12] at hva12
        clear hLe12 hHe12
        rw [hv0, hv1, hv2, hv3, hv4, hv5, hv6, hv7, hv8', hv9', hv10', hva12, hv13']
        clear hv0 hv1 hv2 hv3 hv4 hv5 hv6 hv7 hv8' hv9' hv10' hva12 hv13' hv8 hv9 hv10 hv13
        have HBN := Lib.hid (HB.out.trans ((fa_noneK hw).mono HB.out.size))
        have hcl := pblk_cell (j := 1) (v := .string (ruleR g.fRules nm).fLeft) vb12 rfl
        clear hw hj hap hdead vb12
        go_wp2
        go_ret
        exact ⟨ret_sn fin.out.symm, HBN.out⟩
  · have fin := Lib.hid (symOf_no (g := g) hr)
    have i1 : inR i 0 ((t.fNodes.length : Int) - 1) = false := inR_no (by omega)
    have i1w : inR i 0 (IntKind.i64.wrap ((t.fNodes.length : Int) - 1)) = false := by rw [HWR.out]; exact i1
    clear hr
    go_enter Try.func20, Try.ntmps20
    go_wp2_with fail
    refine (HI.out _ _ _).mono ?_
    rintro e w9 ⟨rfl, rfl⟩
    go_wp2
    go_ret
    exact ⟨ret_sn fin.out.symm, HB.out⟩

set_option maxHeartbeats 6400000 in
set_option maxRecDepth 100000 in
theorem impl_SymbolOfNode {lo hi : Nat} {a0 a1 a2 : Option Addr} {c0_0 c0_1 c1_0 : Nat} (g : DGrammar) (okg : g.ok) (hszg : g.sz ≤ 1048576) (t : DTree) (okt : t.ok) (hszt : t.sz ≤ 1048576) (i : Int) (hi0 : okI i) (w : World) (hhi : hi ≤ w.heap.size) (hs0 : Sl lo hi w 2 g.fSymbols.length (fun k => DSymbol.ct (g.fSymbols.getD k default)) a0) (hs1 : Sl lo hi w 6 g.fRules.length (fun k => DRule.ct (g.fRules.getD k default)) a1) (hs2 : Sl lo hi w 6 t.fNodes.length (fun k => DNode.ct (t.fNodes.getD k default)) a2) :
    Calls Try.prog 43 #[.agg #[.slice a0 g.fSymbols.length c0_0, .slice a1 g.fRules.length c0_1], .agg #[.slice a2 t.fNodes.length c1_0], .int .i64 i] w fun e w' => e = .returned (.string (symOf g t.fNodes i)) ∧ Below w.heap.size w w' := by
  have hn : t.fNodes.length ≤ 1048576 := by unfold DTree.sz lsz at hszt; omega
  have HZ := Lib.hid (show lsz DRule.sz g.fRules ≤ 1048576 by unfold DGrammar.sz at hszg; omega)
  have HZG := Lib.hid hszg
  have HB := Lib.hid (((Below.refl w.heap.size w).alloc (Nat.le_refl _) (.cells #[.slice a0 g.fSymbols.length c0_0, .slice a1 g.fRules.length c0_1] 41)).alloc (by simp) (.cells #[.slice a2 t.fNodes.length c1_0] 45))
  have HG0 := Lib.hid (show ((w.alloc (.cells #[.slice a0 g.fSymbols.length c0_0, .slice a1 g.fRules.length c0_1] 41)).alloc (.cells #[.slice a2 t.fNodes.length c1_0] 45)).heap[w.heap.size]? = some (.cells #[.slice a0 g.fSymbols.length c0_0, .slice a1 g.fRules.length c0_1] 41) from blk_alloc (by simp) (blk_new rfl))
  have HT0 := Lib.hid (show ((w.alloc (.cells #[.slice a0 g.fSymbols.length c0_0, .slice a1 g.fRules.length c0_1] 41)).alloc (.cells #[.slice a2 t.fNodes.length c1_0] 45)).heap[w.heap.size + 1]? = some (.cells #[.slice a2 t.fNodes.length c1_0] 45) from blk_new (by simp))
  have HSZ := Lib.hid (show ((w.alloc (.cells #[.slice a0 g.fSymbols.length c0_0, .slice a1 g.fRules.length c0_1] 41)).alloc (.cells #[.slice a2 t.fNodes.length c1_0] 45)).heap.size = w.heap.size + 2 by simp)
  have HS1 := Lib.hid (hs1.later HB.out hhi)
  have HS2 := Lib.hid (hs2.later HB.out hhi)
  have HHI := Lib.hid hhi
  have hi1 : -9223372036854775808 ≤ i ∧ i ≤ 9223372036854775807 := hi0
  clear hs0 hs1 hs2 hszg hszt okg okt hi0
  by_cases hr : 0 ≤ i ∧ i < t.fNodes.length
  · obtain ⟨k, rfl⟩ : ∃ n : Nat, i = n := ⟨i.toNat, by omega⟩
    have hkl : k < t.fNodes.length := by omega
    have fin := Lib.hid (symOf_at (g := g) hkl)
    obtain ⟨b, off, rfl, _, hbh, hc⟩ := HS2.out.at k hkl
    obtain ⟨a9, c9, -, -, -, -, hc4, -, -⟩ := DNode.open hc
    have HC4 := Lib.hid hc4
    have HAT := Lib.hid (fun (W : World) => impl_Tree_at (b := b) (off := off) (c0 := c1_0) (len := t.fNodes.length) k hn hkl W)
    clear hc hc4 hr hi1
    generalize (t.fNodes.getD k default).fRule = nm at *
    go_enter Try.func43, Try.ntmps43
    go_wp2_with fail
    generalize ((w.alloc (.cells #[.slice a0 g.fSymbols.length c0_0, .slice a1 g.fRules.length c0_1] 41)).alloc (.cells #[.slice (some ⟨b, off, none⟩) t.fNodes.length c1_0] 45)) = w0 at *
    refine wp_region_freeK [([], .none, []), ([], .none, []), ([0, 1], .none, []), ([], .none, []), ([2, 3], .none, []), ([4], .none, [])] [0, 1, 2, 3, 4, 5] [] (fun _ => False) (fun _ => True) (fun _ => 0) (fun jq9 V L H wx => match jq9 with | 0 => V 0 = .agg #[.slice (some ⟨b, off, none⟩) t.fNodes.length c1_0] | 1 => V 1 = .int .i64 (k : Int) | 2 => V 2 = .pointer (some ⟨b, off + k * 6, none⟩) | 3 => V 3 = .agg #[.slice a0 g.fSymbols.length c0_0, .slice a1 g.fRules.length c0_1] | 4 => V 4 = .string (ruleR g.fRules nm).fLeft | 5 => V 5 = V 4 | _ => True) (by kernel_rfl) (by kernel_rfl) ?obs (fun _ h => h.elim) trivial (fun _ _ _ _ _ => trivial) ?loc ?lasts ?walk
    case obs =>
      trivial
    case loc =>
      intro k V V' L H wx h0 h1 hG
      match k with
      | 0 =>
        try dsimp only at hG ⊢
        rw [← h0]
        exact hG
      | 1 =>
        try dsimp only at hG ⊢
        rw [← h0]
        exact hG
      | 2 =>
        try dsimp only at hG ⊢
        rw [← h0]
        exact hG
      | 3 =>
        try dsimp only at hG ⊢
        rw [← h0]
        exact hG
      | 4 =>
        try dsimp only at hG ⊢
        rw [← h0]
        exact hG
      | 5 =>
        have e4 := h1 4 (by decide)
        try dsimp only at hG ⊢
        rw [← h0, ← e4]
        exact hG
      | n + 6 => trivial
    case lasts =>
      intro i hi V L H wx wy hB hH hk
      match i, hi with
      | 0, _ => exact fun h => h
      | 1, _ => exact fun h => h
      | 2, _ => exact fun h => h
      | 3, _ => exact fun h => h
      | 4, _ => exact fun h => h
      | 5, _ => exact fun h => h
      | n + 6, hn => exact absurd hn (by simp)
    case walk =>
      simp (maxSteps := 4000000) only [freeK, effK, Nat.reduceAdd, Act.put, List.setIfInBounds_toArray, List.set_cons_succ, List.set_cons_zero]
      refine ⟨?_, ?_, ?_, ?_, ?_, ?_, ?_⟩
      · intro V L H w1 hw hk hj hd
        clear hd
        have t0 : w1.cell? ⟨w.heap.size + 1, 0, none⟩ = some (.slice (some ⟨b, off, none⟩) t.fNodes.length c1_0) := (hk.cell (p := ⟨w.heap.size + 1, 0, none⟩) ⟨(show w.heap.size + 1 < w0.heap.size by have := HSZ.out; have := HHI.out; omega), fun h => h, trivial⟩ (show w.heap.size + 1 < w0.heap.size by have := HSZ.out; have := HHI.out; omega)).trans (pblk_cell HT0.out rfl)
        go_wp2_with fail
        exact freePost _ rfl ⟨⟨WritesF.refl _ _, hj⟩, upd_self⟩
      · intro V L H w1 hw hk hj hd
        clear hd
        go_wp2_with fail
        exact freePost _ rfl ⟨⟨WritesF.refl _ _, hj⟩, upd_self⟩
      · intro V L H w1 hw hk hj hd
        obtain ⟨⟨hL0, hM0, hH0, hv0⟩, ⟨hL1, hM1, hH1, hv1⟩, -⟩ := hd
        rw [hv0, hv1]
        have HV0 := Lib.hid hv0
        have HV1 := Lib.hid hv1
        clear hv0 hv1
        go_wp2_with fail
        refine (HAT.out w1).mono ?_
        rintro e w2 ⟨rfl, hb2⟩
        go_wp2_with fail
        exact freePost _ rfl ⟨⟨(WritesF.refl _ _).later hb2, trivial⟩, upd_self⟩
      · intro V L H w1 hw hk hj hd
        clear hd
        have g0 : w1.cell? ⟨w.heap.size, 0, none⟩ = some (.slice a0 g.fSymbols.length c0_0) := (hk.cell (p := ⟨w.heap.size, 0, none⟩) ⟨(show w.heap.size < w0.heap.size by have := HSZ.out; have := HHI.out; omega), fun h => h, trivial⟩ (show w.heap.size < w0.heap.size by have := HSZ.out; have := HHI.out; omega)).trans (pblk_cell HG0.out rfl)
        have g1 : w1.cell? ⟨w.heap.size, 1, none⟩ = some (.slice a1 g.fRules.length c0_1) := (hk.cell (p := ⟨w.heap.size, 1, none⟩) ⟨(show w.heap.size < w0.heap.size by have := HSZ.out; have := HHI.out; omega), fun h => h, trivial⟩ (show w.heap.size < w0.heap.size by have := HSZ.out; have := HHI.out; omega)).trans (pblk_cell HG0.out rfl)
        go_wp2_with fail
        exact freePost _ rfl ⟨⟨WritesF.refl _ _, hj⟩, upd_self⟩
      · intro V L H w1 hw hk hj hd
        obtain ⟨⟨hL2, hM2, hH2, hv2⟩, ⟨hL3, hM3, hH3, hv3⟩, -⟩ := hd
        rw [hv2, hv3]
        have HV2 := Lib.hid hv2
        have HV3 := Lib.hid hv3
        clear hv2 hv3
        have hc4 : w1.cell? ⟨b, off + k * 6 + 4, none⟩ = some (.string nm) := (hk.cell (p := ⟨b, off + k * 6 + 4, none⟩) ⟨(show b < w0.heap.size by have := HSZ.out; have := HHI.out; omega), fun h => h, trivial⟩ (show b < w0.heap.size by have := HSZ.out; have := HHI.out; omega)).trans HC4.out
        have HSL := Lib.hid (sl_kept' HS1.out hk (fun b h1 h2 => ⟨by have := HSZ.out; have := HHI.out; omega, fun h => h, trivial⟩) (by have := HSZ.out; have := HHI.out; omega))
        go_wp2_with fail
        refine (impl_symbolIn (c0_0 := c0_0) (c0_1 := c0_1) (a0 := a0) g HZG.out nm b (off + k * 6) w1 (Nat.le_trans (by have := HSZ.out; have := HHI.out; omega) hk.1) (by have := hk.1; have := HSZ.out; have := HHI.out; omega) hc4 HSL.out).mono ?_
        rintro e w2 ⟨rfl, hb2⟩
        go_wp2_with fail
        exact freePost _ rfl ⟨⟨(WritesF.refl _ _).later hb2, trivial⟩, upd_self⟩
      · intro V L H w1 hw hk hj hd
        obtain ⟨⟨hL4, hM4, hH4, hv4⟩, -⟩ := hd
        rw [hv4]
        have HV4 := Lib.hid hv4
        clear hv4
        go_wp2_with fail
        exact freePost _ rfl ⟨⟨WritesF.refl _ _, hj⟩, upd_self.trans (HV4.out.symm.trans (upd_ne (by decide)).symm)⟩
      · intro V L H w1 hw hj hd hap hdead
        obtain ⟨⟨hL0, hM0, hH0, hv0⟩, ⟨hL1, hM1, hH1, hv1⟩, ⟨hL2, hM2, hH2, hv2⟩, ⟨hL3, hM3, hH3, hv3⟩, ⟨hL4, hM4, hH4, hv4⟩, ⟨hL5, hM5, hH5, hv5⟩, -⟩ := hd
        have hv5' := hv5.trans hv4
        rw [hv0, hv1, hv2, hv3, hv4, hv5']
        clear hv0 hv1 hv2 hv3 hv4 hv5' hv5
        have HBN := Lib.hid (HB.out.trans ((fa_noneK hw).mono HB.out.size))
        clear hw hj hap hdead
        go_wp2
        go_ret
        exact ⟨ret_sn fin.out.symm, HBN.out⟩
  · have fin := Lib.hid (symOf_no (g := g) hr)
    have HAT := Lib.hid (fun (W : World) => impl_Tree_at_no (a0 := a2) (c0 := c1_0) (len := t.fNodes.length) hn i (by omega) W)
    clear hr
    go_enter Try.func43, Try.ntmps43
    go_wp2_with fail
    generalize ((w.alloc (.cells #[.slice a0 g.fSymbols.length c0_0, .slice a1 g.fRules.length c0_1] 41)).alloc (.cells #[.slice a2 t.fNodes.length c1_0] 45)) = w0 at *
    refine wp_region_freeK [([], .none, []), ([], .none, []), ([0, 1], .none, []), ([], .none, []), ([2, 3], .none, []), ([4], .none, [])] [0, 1, 2, 3, 4, 5] [] (fun _ => False) (fun _ => True) (fun _ => 0) (fun jq9 V L H wx => match jq9 with | 0 => V 0 = .agg #[.slice a2 t.fNodes.length c1_0] | 1 => V 1 = .int .i64 i | 2 => V 2 = .pointer none | 3 => V 3 = .agg #[.slice a0 g.fSymbols.length c0_0, .slice a1 g.fRules.length c0_1] | 4 => V 4 = .string ⟨#[]⟩ | 5 => V 5 = V 4 | _ => True) (by kernel_rfl) (by kernel_rfl) ?obs (fun _ h => h.elim) trivial (fun _ _ _ _ _ => trivial) ?loc ?lasts ?walk
    case obs =>
      trivial
    case loc =>
      intro k V V' L H wx h0 h1 hG
      match k with
      | 0 =>
        try dsimp only at hG ⊢
        rw [← h0]
        exact hG
      | 1 =>
        try dsimp only at hG ⊢
        rw [← h0]
        exact hG
      | 2 =>
        try dsimp only at hG ⊢
        rw [← h0]
        exact hG
      | 3 =>
        try dsimp only at hG ⊢
        rw [← h0]
        exact hG
      | 4 =>
        try dsimp only at hG ⊢
        rw [← h0]
        exact hG
      | 5 =>
        have e4 := h1 4 (by decide)
        try dsimp only at hG ⊢
        rw [← h0, ← e4]
        exact hG
      | n + 6 => trivial
    case lasts =>
      intro i hi V L H wx wy hB hH hk
      match i, hi with
      | 0, _ => exact fun h => h
      | 1, _ => exact fun h => h
      | 2, _ => exact fun h => h
      | 3, _ => exact fun h => h
      | 4, _ => exact fun h => h
      | 5, _ => exact fun h => h
      | n + 6, hn => exact absurd hn (by simp)
    case walk =>
      simp (maxSteps := 4000000) only [freeK, effK, Nat.reduceAdd, Act.put, List.setIfInBounds_toArray, List.set_cons_succ, List.set_cons_zero]
      refine ⟨?_, ?_, ?_, ?_, ?_, ?_, ?_⟩
      · intro V L H w1 hw hk hj hd
        clear hd
        have t0 : w1.cell? ⟨w.heap.size + 1, 0, none⟩ = some (.slice a2 t.fNodes.length c1_0) := (hk.cell (p := ⟨w.heap.size + 1, 0, none⟩) ⟨(show w.heap.size + 1 < w0.heap.size by have := HSZ.out; have := HHI.out; omega), fun h => h, trivial⟩ (show w.heap.size + 1 < w0.heap.size by have := HSZ.out; have := HHI.out; omega)).trans (pblk_cell HT0.out rfl)
        go_wp2_with fail
        exact freePost _ rfl ⟨⟨WritesF.refl _ _, hj⟩, upd_self⟩
      · intro V L H w1 hw hk hj hd
        clear hd
        go_wp2_with fail
        exact freePost _ rfl ⟨⟨WritesF.refl _ _, hj⟩, upd_self⟩
      · intro V L H w1 hw hk hj hd
        obtain ⟨⟨hL0, hM0, hH0, hv0⟩, ⟨hL1, hM1, hH1, hv1⟩, -⟩ := hd
        rw [hv0, hv1]
        have HV0 := Lib.hid hv0
        have HV1 := Lib.hid hv1
        clear hv0 hv1
        go_wp2_with fail
        refine (HAT.out w1).mono ?_
        rintro e w2 ⟨rfl, hb2⟩
        go_wp2_with fail
        exact freePost _ rfl ⟨⟨(WritesF.refl _ _).later hb2, trivial⟩, upd_self⟩
      · intro V L H w1 hw hk hj hd
        clear hd
        have g0 : w1.cell? ⟨w.heap.size, 0, none⟩ = some (.slice a0 g.fSymbols.length c0_0) := (hk.cell (p := ⟨w.heap.size, 0, none⟩) ⟨(show w.heap.size < w0.heap.size by have := HSZ.out; have := HHI.out; omega), fun h => h, trivial⟩ (show w.heap.size < w0.heap.size by have := HSZ.out; have := HHI.out; omega)).trans (pblk_cell HG0.out rfl)
        have g1 : w1.cell? ⟨w.heap.size, 1, none⟩ = some (.slice a1 g.fRules.length c0_1) := (hk.cell (p := ⟨w.heap.size, 1, none⟩) ⟨(show w.heap.size < w0.heap.size by have := HSZ.out; have := HHI.out; omega), fun h => h, trivial⟩ (show w.heap.size < w0.heap.size by have := HSZ.out; have := HHI.out; omega)).trans (pblk_cell HG0.out rfl)
        go_wp2_with fail
        exact freePost _ rfl ⟨⟨WritesF.refl _ _, hj⟩, upd_self⟩
      · intro V L H w1 hw hk hj hd
        obtain ⟨⟨hL2, hM2, hH2, hv2⟩, ⟨hL3, hM3, hH3, hv3⟩, -⟩ := hd
        rw [hv2, hv3]
        have HV2 := Lib.hid hv2
        have HV3 := Lib.hid hv3
        clear hv2 hv3
        go_wp2_with fail
        refine (impl_symbolIn_nil w1).mono ?_
        rintro e w2 ⟨rfl, hb2⟩
        go_wp2_with fail
        exact freePost _ rfl ⟨⟨(WritesF.refl _ _).later hb2, trivial⟩, upd_self⟩
      · intro V L H w1 hw hk hj hd
        obtain ⟨⟨hL4, hM4, hH4, hv4⟩, -⟩ := hd
        rw [hv4]
        have HV4 := Lib.hid hv4
        clear hv4
        go_wp2_with fail
        exact freePost _ rfl ⟨⟨WritesF.refl _ _, hj⟩, upd_self.trans (HV4.out.symm.trans (upd_ne (by decide)).symm)⟩
      · intro V L H w1 hw hj hd hap hdead
        obtain ⟨⟨hL0, hM0, hH0, hv0⟩, ⟨hL1, hM1, hH1, hv1⟩, ⟨hL2, hM2, hH2, hv2⟩, ⟨hL3, hM3, hH3, hv3⟩, ⟨hL4, hM4, hH4, hv4⟩, ⟨hL5, hM5, hH5, hv5⟩, -⟩ := hd
        have hv5' := hv5.trans hv4
        rw [hv0, hv1, hv2, hv3, hv4, hv5']
        clear hv0 hv1 hv2 hv3 hv4 hv5' hv5
        have HBN := Lib.hid (HB.out.trans ((fa_noneK hw).mono HB.out.size))
        clear hw hj hap hdead
        go_wp2
        go_ret
        exact ⟨ret_sn fin.out.symm, HBN.out⟩
end Go.Proofs.Ytnkhjkdocaobpaa
