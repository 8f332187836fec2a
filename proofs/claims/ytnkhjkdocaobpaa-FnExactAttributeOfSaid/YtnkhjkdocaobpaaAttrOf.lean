/-
  AttributeOf, in the model and in the program; attributesOfNode.
-/
import Derived.Test.YtnkhjkdocaobpaaSymNode
import Derived.Test.YtnkhjkdocaobpaaNodeIndex
import Derived.Test.YtnkhjkdocaobpaaFindAttr
import Derived.Test.YtnkhjkdocaobpaaFindSymO
import Derived.Test.YtnkhjkdocaobpaaTInstance
namespace Go.Proofs.Ytnkhjkdocaobpaa
open Go.ChangeShapes Go.WideShapes Go.ChangeAt Go.RowKit Go.Deep

/-- The symbol of the node at i, as the grammar has it. -/
def symNode (g : DGrammar) (l : List DNode) (i : Int) : DSymbol := symS g.fSymbols (symOf g l i)
/-- The attribute of an instance, and whether there is one. -/
def attrOf (g : DGrammar) (l : List DNode) (x : DInstance) : DAttribute × Bool := if nodeIndex l x.fNode < 0 then (zeroAttr, false) else findAttr (symNode g l (nodeIndex l x.fNode)) x.fName
theorem attrOf_no {g : DGrammar} {l : List DNode} {x : DInstance} (h : nodeIndex l x.fNode < 0) : attrOf g l x = (zeroAttr, false) := if_pos h
theorem attrOf_yes {g : DGrammar} {l : List DNode} {x : DInstance} (h : ¬ nodeIndex l x.fNode < 0) : attrOf g l x = findAttr (symNode g l (nodeIndex l x.fNode)) x.fName := if_neg h
theorem idxI_ok {α : Type} {p : α → Bool} {l : List α} (h : l.length ≤ 1048576) : okI (idxI p l) ∧ -1 ≤ idxI p l := by
  unfold idxI okI
  cases e : l.findIdx? p with
  | none => exact ⟨⟨by show (-9223372036854775808 : Int) ≤ -1; omega, by show (-1 : Int) ≤ 9223372036854775807; omega⟩, Int.le_refl _⟩
  | some k =>
    obtain ⟨hk, -, -⟩ := List.findIdx?_eq_some_iff_getElem.1 e
    exact ⟨⟨by show (-9223372036854775808 : Int) ≤ (k : Int); omega, by show (k : Int) ≤ 9223372036854775807; omega⟩, by show (-1 : Int) ≤ (k : Int); omega⟩

set_option maxHeartbeats 6400000 in
set_option maxRecDepth 100000 in
theorem impl_attributesOfNode {lo hi : Nat} {a0 a1 a2 : Option Addr} {c0_0 c0_1 c1_0 : Nat} (g : DGrammar) (okg : g.ok) (hszg : g.sz ≤ 1048576) (t : DTree) (okt : t.ok) (hszt : t.sz ≤ 1048576) (i : Int) (hi0 : okI i) (w : World) (hhi : hi ≤ w.heap.size) (hs0 : Sl lo hi w 2 g.fSymbols.length (fun k => DSymbol.ct (g.fSymbols.getD k default)) a0) (hs1 : Sl lo hi w 6 g.fRules.length (fun k => DRule.ct (g.fRules.getD k default)) a1) (hs2 : Sl lo hi w 6 t.fNodes.length (fun k => DNode.ct (t.fNodes.getD k default)) a2) :
    Calls Try.prog 27 #[.agg #[.slice a0 g.fSymbols.length c0_0, .slice a1 g.fRules.length c0_1], .agg #[.slice a2 t.fNodes.length c1_0], .int .i64 i] w fun e w' => (∃ a c, e = .returned (.slice a (symNode g t.fNodes i).fAttributes.length c) ∧ Sl lo hi w' 4 (symNode g t.fNodes i).fAttributes.length (fun k => DAttribute.ct ((symNode g t.fNodes i).fAttributes.getD k default)) a) ∧ Below w.heap.size w w' := by
  have HZS := Lib.hid (show lsz DSymbol.sz g.fSymbols ≤ 1048576 by unfold DGrammar.sz at hszg; omega)
  have HB := Lib.hid (((Below.refl w.heap.size w).alloc (Nat.le_refl _) (.cells #[.slice a0 g.fSymbols.length c0_0, .slice a1 g.fRules.length c0_1] 41)).alloc (by simp) (.cells #[.slice a2 t.fNodes.length c1_0] 45))
  have HG0 := Lib.hid (show ((w.alloc (.cells #[.slice a0 g.fSymbols.length c0_0, .slice a1 g.fRules.length c0_1] 41)).alloc (.cells #[.slice a2 t.fNodes.length c1_0] 45)).heap[w.heap.size]? = some (.cells #[.slice a0 g.fSymbols.length c0_0, .slice a1 g.fRules.length c0_1] 41) from blk_alloc (by simp) (blk_new rfl))
  have HT0 := Lib.hid (show ((w.alloc (.cells #[.slice a0 g.fSymbols.length c0_0, .slice a1 g.fRules.length c0_1] 41)).alloc (.cells #[.slice a2 t.fNodes.length c1_0] 45)).heap[w.heap.size + 1]? = some (.cells #[.slice a2 t.fNodes.length c1_0] 45) from blk_new (by simp))
  have HSZ := Lib.hid (show ((w.alloc (.cells #[.slice a0 g.fSymbols.length c0_0, .slice a1 g.fRules.length c0_1] 41)).alloc (.cells #[.slice a2 t.fNodes.length c1_0] 45)).heap.size = w.heap.size + 2 by simp)
  have HS0 := Lib.hid (hs0.later HB.out hhi)
  have HS1 := Lib.hid (hs1.later HB.out hhi)
  have HS2 := Lib.hid (hs2.later HB.out hhi)
  have HHI := Lib.hid hhi
  have HC := Lib.hid (fun (W : World) (h : hi ≤ W.heap.size) s0 s1 s2 => impl_SymbolOfNode (lo := lo) (hi := hi) (a0 := a0) (a1 := a1) (a2 := a2) (c0_0 := c0_0) (c0_1 := c0_1) (c1_0 := c1_0) g okg hszg t okt hszt i hi0 W h s0 s1 s2)
  clear hs0 hs1 hs2 okg okt hi0 hszg hszt
  go_enter Try.func27, Try.ntmps27
  go_wp2_with fail
  generalize ((w.alloc (.cells #[.slice a0 g.fSymbols.length c0_0, .slice a1 g.fRules.length c0_1] 41)).alloc (.cells #[.slice a2 t.fNodes.length c1_0] 45)) = w0 at *
  refine wp_region_freeK [([], .none, []), ([], .none, []), ([], .none, []), ([], .none, []), ([1, 2, 3], .none, []), ([0, 4], .none, []), ([5], .none, []), ([6], .none, []), ([6], .none, []), ([], .none, []), ([9, 7], .new 9, []), ([8], .none, [])] [0, 1, 2, 3, 4, 5, 6, 7, 8, 10, 11] [] (fun _ => False) (fun _ => True) (fun _ => 0) (fun jq9 V L H wx => match jq9 with | 0 => V 0 = .agg #[.slice a0 g.fSymbols.length c0_0, .slice a1 g.fRules.length c0_1] | 1 => V 1 = .agg #[.slice a0 g.fSymbols.length c0_0, .slice a1 g.fRules.length c0_1] | 2 => V 2 = .agg #[.slice a2 t.fNodes.length c1_0] | 3 => V 3 = .int .i64 i | 4 => V 4 = .string (symOf g t.fNodes i) | 5 => ∃ a9 c9, V 5 = .tuple #[.agg #[.string (symNode g t.fNodes i).fName, .slice a9 (symNode g t.fNodes i).fAttributes.length c9], .bool (symB g.fSymbols (symOf g t.fNodes i))] ∧ Sl lo hi wx 4 (symNode g t.fNodes i).fAttributes.length (fun k => DAttribute.ct ((symNode g t.fNodes i).fAttributes.getD k default)) a9 | 6 => V 6 = V 5 ∧ ∃ a9_6 c9_6, V 6 = .tuple #[.agg #[.string (symNode g t.fNodes i).fName, .slice a9_6 (symNode g t.fNodes i).fAttributes.length c9_6], .bool (symB g.fSymbols (symOf g t.fNodes i))] | 7 => (∀ x0 x1, V 6 = .tuple #[x0, x1] → V 7 = x0) ∧ ∃ a9_7 c9_7, V 7 = .agg #[.string (symNode g t.fNodes i).fName, .slice a9_7 (symNode g t.fNodes i).fAttributes.length c9_7] | 8 => (∀ x0 x1, V 6 = .tuple #[x0, x1] → V 8 = x1) | 9 => V 9 = .pointer (some ⟨L, 0, none⟩) ∧ L < H ∧ wx.heap[L]? = some (.cells #[.string ⟨#[]⟩, .slice none 0 0] 59) | 10 => ∀ x0 x1, V 7 = .agg #[x0, x1] → L < H ∧ wx.heap[L]? = some (.cells #[x0, x1] 59) | 11 => V 11 = V 8 | _ => True) (by kernel_rfl) (by kernel_rfl) ?obs (fun _ h => h.elim) trivial (fun _ _ _ _ _ => trivial) ?loc ?lasts ?walk
  case obs =>
    trivial
  case loc =>
    intro k V V' L H wx h0 h1 hG
    match k with
    | 0 =>
      try dsimp only at hG ⊢
      rw [← h0]
      exact hG
    | 1 =>
      try dsimp only at hG ⊢
      rw [← h0]
      exact hG
    | 2 =>
      try dsimp only at hG ⊢
      rw [← h0]
      exact hG
    | 3 =>
      try dsimp only at hG ⊢
      rw [← h0]
      exact hG
    | 4 =>
      try dsimp only at hG ⊢
      rw [← h0]
      exact hG
    | 5 =>
      try dsimp only at hG ⊢
      rw [← h0]
      exact hG
    | 6 =>
      have e5 := h1 5 (by decide)
      try dsimp only at hG ⊢
      rw [← h0, ← e5]
      exact hG
    | 7 =>
      have e6 := h1 6 (by decide)
      try dsimp only at hG ⊢
      rw [← h0, ← e6]
      exact hG
    | 8 =>
      have e6 := h1 6 (by decide)
      try dsimp only at hG ⊢
      rw [← h0, ← e6]
      exact hG
    | 9 =>
      try dsimp only at hG ⊢
      rw [← h0]
      exact hG
    | 10 =>
      have e7 := h1 7 (by decide)
      try dsimp only at hG ⊢
      rw [← e7]
      exact hG
    | 11 =>
      have e8 := h1 8 (by decide)
      try dsimp only at hG ⊢
      rw [← h0, ← e8]
      exact hG
    | n + 12 => trivial
  case lasts =>
    intro i hi V L H wx wy hB hH hk
    match i, hi with
    | 0, _ => exact fun h => h
    | 1, _ => exact fun h => h
    | 2, _ => exact fun h => h
    | 3, _ => exact fun h => h
    | 4, _ => exact fun h => h
    | 5, _ => exact fun ⟨a9, c9, hv, ho0⟩ => ⟨a9, c9, hv, sl_kept' ho0 hk (fun b h1 h2 => .inl ⟨by have := HSZ.out; have := HHI.out; omega, fun h => h, trivial⟩) (Nat.le_trans (by have := HSZ.out; have := HHI.out; omega) hB)⟩
    | 6, _ => exact fun h => h
    | 7, _ => exact fun h => h
    | 8, _ => exact fun h => h
    | 9, _ => exact fun ⟨hv, hl, hc⟩ => ⟨hv, hl, (hk.2 L (.inr (.inl ⟨Nat.le_refl _, hl⟩)) (Nat.lt_of_lt_of_le hl hH)).trans hc⟩
    | 10, _ => exact fun h x0 x1 hv => ⟨(h x0 x1 hv).1, (hk.2 L (.inr (.inl ⟨Nat.le_refl _, (h x0 x1 hv).1⟩)) (Nat.lt_of_lt_of_le (h x0 x1 hv).1 hH)).trans (h x0 x1 hv).2⟩
    | 11, _ => exact fun h => h
    | n + 12, hn => exact absurd hn (by simp)
  case walk =>
    simp (maxSteps := 4000000) only [freeK, effK, Nat.reduceAdd, Act.put, List.setIfInBounds_toArray, List.set_cons_succ, List.set_cons_zero]
    refine ⟨?_, ?_, ?_, ?_, ?_, ?_, ?_, ?_, ?_, ?_, ?_, ?_, ?_⟩
    · intro V L H w1 hw hk hj hd
      clear hd
      have g0 : w1.cell? ⟨w.heap.size, 0, none⟩ = some (.slice a0 g.fSymbols.length c0_0) := (hk.cell (p := ⟨w.heap.size, 0, none⟩) ⟨(show w.heap.size < w0.heap.size by have := HSZ.out; have := HHI.out; omega), fun h => h, trivial⟩ (show w.heap.size < w0.heap.size by have := HSZ.out; have := HHI.out; omega)).trans (pblk_cell HG0.out rfl)
      have g1 : w1.cell? ⟨w.heap.size, 1, none⟩ = some (.slice a1 g.fRules.length c0_1) := (hk.cell (p := ⟨w.heap.size, 1, none⟩) ⟨(show w.heap.size < w0.heap.size by have := HSZ.out; have := HHI.out; omega), fun h => h, trivial⟩ (show w.heap.size < w0.heap.size by have := HSZ.out; have := HHI.out; omega)).trans (pblk_cell HG0.out rfl)
      go_wp2_with fail
      exact freePost _ rfl ⟨⟨WritesF.refl _ _, hj⟩, upd_self⟩
    · intro V L H w1 hw hk hj hd
      clear hd
      have g0 : w1.cell? ⟨w.heap.size, 0, none⟩ = some (.slice a0 g.fSymbols.length c0_0) := (hk.cell (p := ⟨w.heap.size, 0, none⟩) ⟨(show w.heap.size < w0.heap.size by have := HSZ.out; have := HHI.out; omega), fun h => h, trivial⟩ (show w.heap.size < w0.heap.size by have := HSZ.out; have := HHI.out; omega)).trans (pblk_cell HG0.out rfl)
      have g1 : w1.cell? ⟨w.heap.size, 1, none⟩ = some (.slice a1 g.fRules.length c0_1) := (hk.cell (p := ⟨w.heap.size, 1, none⟩) ⟨(show w.heap.size < w0.heap.size by have := HSZ.out; have := HHI.out; omega), fun h => h, trivial⟩ (show w.heap.size < w0.heap.size by have := HSZ.out; have := HHI.out; omega)).trans (pblk_cell HG0.out rfl)
      go_wp2_with fail
      exact freePost _ rfl ⟨⟨WritesF.refl _ _, hj⟩, upd_self⟩
    · intro V L H w1 hw hk hj hd
      clear hd
      have t0 : w1.cell? ⟨w.heap.size + 1, 0, none⟩ = some (.slice a2 t.fNodes.length c1_0) := (hk.cell (p := ⟨w.heap.size + 1, 0, none⟩) ⟨(show w.heap.size + 1 < w0.heap.size by have := HSZ.out; have := HHI.out; omega), fun h => h, trivial⟩ (show w.heap.size + 1 < w0.heap.size by have := HSZ.out; have := HHI.out; omega)).trans (pblk_cell HT0.out rfl)
      go_wp2_with fail
      exact freePost _ rfl ⟨⟨WritesF.refl _ _, hj⟩, upd_self⟩
    · intro V L H w1 hw hk hj hd
      clear hd
      go_wp2_with fail
      exact freePost _ rfl ⟨⟨WritesF.refl _ _, hj⟩, upd_self⟩
    · intro V L H w1 hw hk hj hd
      obtain ⟨⟨hL1, hM1, hH1, hv1⟩, ⟨hL2, hM2, hH2, hv2⟩, ⟨hL3, hM3, hH3, hv3⟩, -⟩ := hd
      rw [hv1, hv2, hv3]
      have HV1 := Lib.hid hv1
      have HV2 := Lib.hid hv2
      have HV3 := Lib.hid hv3
      clear hv1 hv2 hv3
      have HL0 := Lib.hid (sl_kept' HS0.out hk (fun b h1 h2 => ⟨by have := HSZ.out; have := HHI.out; omega, fun h => h, trivial⟩) (by have := HSZ.out; have := HHI.out; omega))
      have HL1 := Lib.hid (sl_kept' HS1.out hk (fun b h1 h2 => ⟨by have := HSZ.out; have := HHI.out; omega, fun h => h, trivial⟩) (by have := HSZ.out; have := HHI.out; omega))
      have HL2 := Lib.hid (sl_kept' HS2.out hk (fun b h1 h2 => ⟨by have := HSZ.out; have := HHI.out; omega, fun h => h, trivial⟩) (by have := HSZ.out; have := HHI.out; omega))
      go_wp2_with fail
      refine (HC.out w1 (Nat.le_trans (by have := HSZ.out; have := HHI.out; omega) hk.1) HL0.out HL1.out HL2.out).mono ?_
      rintro e w2 ⟨rfl, hb2⟩
      go_wp2_with fail
      exact freePost _ rfl ⟨⟨(WritesF.refl _ _).later hb2, trivial⟩, upd_self⟩
    · intro V L H w1 hw hk hj hd
      obtain ⟨⟨hL0, hM0, hH0, hv0⟩, ⟨hL4, hM4, hH4, hv4⟩, -⟩ := hd
      rw [hv0, hv4]
      have HV0 := Lib.hid hv0
      have HV4 := Lib.hid hv4
      clear hv0 hv4
      have HL0 := Lib.hid (sl_kept' HS0.out hk (fun b h1 h2 => ⟨by have := HSZ.out; have := HHI.out; omega, fun h => h, trivial⟩) (by have := HSZ.out; have := HHI.out; omega))
      go_wp2_with fail
      refine (impl_symbolNamed (c0 := c0_0) (c1 := c0_1) (a1 := a1) (n1 := g.fRules.length) g.fSymbols HZS.out (symOf g t.fNodes i) w1 (Nat.le_trans (by have := HSZ.out; have := HHI.out; omega) hk.1) HL0.out).mono ?_
      rintro e w2 ⟨⟨a9, c9, rfl, ho⟩, hb2⟩
      go_wp2_with fail
      exact freePost _ rfl ⟨⟨(WritesF.refl _ _).later hb2, trivial⟩, Exists.intro a9 (Exists.intro c9 (And.intro (upd_self) (ho)))⟩
    · intro V L H w1 hw hk hj hd
      obtain ⟨⟨hL5, hM5, hH5, a9, c9, hv5, ho5_0⟩, -⟩ := hd
      rw [hv5]
      have HV5 := Lib.hid hv5
      clear hv5
      go_wp2_with fail
      exact freePost _ rfl ⟨⟨WritesF.refl _ _, hj⟩, And.intro (upd_self.trans (HV5.out.symm.trans (upd_ne (by decide)).symm)) ⟨_, _, upd_self⟩⟩
    · intro V L H w1 hw hk hj hd
      obtain ⟨⟨hL6, hM6, hH6, hv6, a9_6, c9_6, hz6⟩, -⟩ := hd
      clear hv6
      rw [hz6]
      have HV6 := Lib.hid hz6
      clear hz6
      go_wp2_with fail
      exact freePost _ rfl ⟨⟨WritesF.refl _ _, hj⟩, And.intro (fun x0 x1 h => by cases (HV6.out.symm.trans ((upd_ne (by decide)).symm.trans h)); exact upd_self) ⟨_, _, upd_self⟩⟩
    · intro V L H w1 hw hk hj hd
      obtain ⟨⟨hL6, hM6, hH6, hv6, a9_6, c9_6, hz6⟩, -⟩ := hd
      clear hv6
      rw [hz6]
      have HV6 := Lib.hid hz6
      clear hz6
      go_wp2_with fail
      exact freePost _ rfl ⟨⟨WritesF.refl _ _, hj⟩, fun x0 x1 h => by cases (HV6.out.symm.trans ((upd_ne (by decide)).symm.trans h)); exact upd_self⟩
    · intro V L H w1 hw hk hj hd
      clear hd
      go_wp2_with fail
      refine freePost _ rfl ⟨⟨(WritesF.refl _ _).later ((Below.refl _ _).alloc (Nat.le_refl _) _), trivial⟩, upd_self, by simp, blk_new rfl⟩
    · intro V L H w1 hw hk hj hd
      obtain ⟨⟨hL9, hM9, hH9, hv9, hlt9, hc9⟩, ⟨hL7, hM7, hH7, hv7, a9_7, c9_7, hz7⟩, -⟩ := hd
      clear hv7
      rw [hv9, hz7]
      have HV9 := Lib.hid hv9
      have HV7 := Lib.hid hz7
      clear hv9 hz7
      have hc_0 := pblk_cell (j := 0) (v := .string ⟨#[]⟩) hc9 rfl
      have hf_0 := pblk_frozen (j := 0) hc9
      have hc_1 := pblk_cell (j := 1) (v := .slice none 0 0) hc9 rfl
      have hf_1 := pblk_frozen (j := 1) hc9
      have HBLK := Lib.hid hc9
      clear hc9
      go_wp2_with fail
      refine freePost undef rfl ⟨(Touches.put (L := L 9) (H := H 9) (Touches.put (L := L 9) (H := H 9) Touches.refl (p := ⟨L 9, 0, none⟩) ⟨Nat.le_refl _, hlt9⟩ _) (p := ⟨L 9, 1, none⟩) ⟨Nat.le_refl _, hlt9⟩ _), fun x0 x1 h => ?_⟩
      cases (HV7.out.symm.trans ((upd_ne (by decide)).symm.trans h))
      exact ⟨hlt9, (pblk_put (pblk_put HBLK.out rfl) rfl)⟩
    · intro V L H w1 hw hk hj hd
      obtain ⟨⟨hL8, hM8, hH8, hv8⟩, -⟩ := hd
      clear hv8
      go_wp2_with fail
      exact freePost _ rfl ⟨⟨WritesF.refl _ _, hj⟩, upd_self.trans (upd_ne (by decide)).symm⟩
    · intro V L H w1 hw hj hd hap hdead
      obtain ⟨⟨hL0, hM0, hH0, hv0⟩, ⟨hL1, hM1, hH1, hv1⟩, ⟨hL2, hM2, hH2, hv2⟩, ⟨hL3, hM3, hH3, hv3⟩, ⟨hL4, hM4, hH4, hv4⟩, ⟨hL5, hM5, hH5, a9, c9, hv5, ho5_0⟩, ⟨hL6, hM6, hH6, hv6, a9_6, c9_6, hz6⟩, ⟨hL7, hM7, hH7, hv7, a9_7, c9_7, hz7⟩, ⟨hL8, hM8, hH8, hv8⟩, ⟨hL10, hM10, hH10, hst10_⟩, ⟨hL11, hM11, hH11, hv11⟩, -⟩ := hd
      have hv6' := hv6.trans hv5
      have hv7' := hv7 _ _ hv6'
      have hv8' := hv8 _ _ hv6'
      have hv11' := hv11.trans hv8'
      obtain ⟨vlt10, vb10⟩ := hst10_ _ _ hv7'
      obtain ⟨hLe10, hHe10, wo10, hva10, -⟩ := hdead 10 9 (by decide) rfl
      rw [← hLe10] at hva10
      clear hLe10 hHe10
      rw [hv0, hv1, hv2, hv3, hv4, hv5, hv6', hv7', hv8', hva10, hv11']
      clear hv0 hv1 hv2 hv3 hv4 hv5 hv6' hv7' hv8' hva10 hv11' hv6 hv7 hv8 hv11
      have HBN := Lib.hid (HB.out.trans ((fa_noneK hw).mono HB.out.size))
      have HO5 := Lib.hid ho5_0
      have hcl := pblk_cell (j := 1) (v := .slice a9 (symNode g t.fNodes i).fAttributes.length c9) vb10 rfl
      clear hw hj hap hdead vb10 ho5_0
      go_wp2
      go_ret
      refine ⟨?_, HBN.out⟩
      first | exact ⟨a9, c9, rfl, HO5.out⟩ | exact ⟨a9, ⟨c9, rfl⟩, HO5.out⟩ | exact ⟨a9, rfl, HO5.out⟩

set_option maxHeartbeats 6400000 in
set_option maxRecDepth 100000 in
theorem spec_AttributeOf {lo hi : Nat} {a0 a1 a2 : Option Addr} {c0_0 c0_1 c1_0 : Nat} (g : DGrammar) (okg : g.ok) (hszg : g.sz ≤ 1048576) (t : DTree) (okt : t.ok) (hszt : t.sz ≤ 1048576) (x : DInstance) (okx : x.ok) (_ : x.sz ≤ 1048576) (w : World) (hhi : hi ≤ w.heap.size) (hs0 : Sl lo hi w 2 g.fSymbols.length (fun k => DSymbol.ct (g.fSymbols.getD k default)) a0) (hs1 : Sl lo hi w 6 g.fRules.length (fun k => DRule.ct (g.fRules.getD k default)) a1) (hs2 : Sl lo hi w 6 t.fNodes.length (fun k => DNode.ct (t.fNodes.getD k default)) a2) :
    Calls Try.prog 7 #[.agg #[.slice a0 g.fSymbols.length c0_0, .slice a1 g.fRules.length c0_1], .agg #[.slice a2 t.fNodes.length c1_0], .agg #[.int .i64 x.fNode, .string x.fName]] w fun e w' => e = .returned (.tuple #[.agg #[.string (attrOf g t.fNodes x).1.fName, .int .i64 (attrOf g t.fNodes x).1.fType, .int .i64 (attrOf g t.fNodes x).1.fMode, .bool (attrOf g t.fNodes x).1.fCircular], .bool (attrOf g t.fNodes x).2]) ∧ Below w.heap.size w w' := by
  have HZS := Lib.hid (show lsz DSymbol.sz g.fSymbols ≤ 1048576 by unfold DGrammar.sz at hszg; omega)
  have hn : t.fNodes.length ≤ 1048576 := by unfold DTree.sz lsz at hszt; omega
  have HID := Lib.hid (idxI_ok (p := fun y : DNode => y.fId == x.fNode) hn)
  have HB := Lib.hid (((((Below.refl w.heap.size w).alloc (Nat.le_refl _) (.cells #[.slice a0 g.fSymbols.length c0_0, .slice a1 g.fRules.length c0_1] 41)).alloc (by simp) (.cells #[.slice a2 t.fNodes.length c1_0] 45)).alloc (by simp <;> omega) (.cells #[.int .i64 x.fNode, .string x.fName] 47)).alloc (by simp <;> omega) (.cells #[.string ⟨#[]⟩, .int .i64 0, .int .i64 0, .bool false] 35))
  have HG0 := Lib.hid (show ((((w.alloc (.cells #[.slice a0 g.fSymbols.length c0_0, .slice a1 g.fRules.length c0_1] 41)).alloc (.cells #[.slice a2 t.fNodes.length c1_0] 45)).alloc (.cells #[.int .i64 x.fNode, .string x.fName] 47)).alloc (.cells #[.string ⟨#[]⟩, .int .i64 0, .int .i64 0, .bool false] 35)).heap[w.heap.size]? = some (.cells #[.slice a0 g.fSymbols.length c0_0, .slice a1 g.fRules.length c0_1] 41) from blk_alloc (by simp <;> omega) (blk_alloc (by simp <;> omega) (blk_alloc (by simp) (blk_new rfl))))
  have HT0 := Lib.hid (show ((((w.alloc (.cells #[.slice a0 g.fSymbols.length c0_0, .slice a1 g.fRules.length c0_1] 41)).alloc (.cells #[.slice a2 t.fNodes.length c1_0] 45)).alloc (.cells #[.int .i64 x.fNode, .string x.fName] 47)).alloc (.cells #[.string ⟨#[]⟩, .int .i64 0, .int .i64 0, .bool false] 35)).heap[w.heap.size + 1]? = some (.cells #[.slice a2 t.fNodes.length c1_0] 45) from blk_alloc (by simp <;> omega) (blk_alloc (by simp) (blk_new (by simp))))
  have HX0 := Lib.hid (show ((((w.alloc (.cells #[.slice a0 g.fSymbols.length c0_0, .slice a1 g.fRules.length c0_1] 41)).alloc (.cells #[.slice a2 t.fNodes.length c1_0] 45)).alloc (.cells #[.int .i64 x.fNode, .string x.fName] 47)).alloc (.cells #[.string ⟨#[]⟩, .int .i64 0, .int .i64 0, .bool false] 35)).heap[w.heap.size + 2]? = some (.cells #[.int .i64 x.fNode, .string x.fName] 47) from blk_alloc (by simp) (blk_new (by simp)))
  have HA0 := Lib.hid (show ((((w.alloc (.cells #[.slice a0 g.fSymbols.length c0_0, .slice a1 g.fRules.length c0_1] 41)).alloc (.cells #[.slice a2 t.fNodes.length c1_0] 45)).alloc (.cells #[.int .i64 x.fNode, .string x.fName] 47)).alloc (.cells #[.string ⟨#[]⟩, .int .i64 0, .int .i64 0, .bool false] 35)).heap[w.heap.size + 3]? = some (.cells #[.string ⟨#[]⟩, .int .i64 0, .int .i64 0, .bool false] 35) from blk_new (by simp))
  have HSZ := Lib.hid (show ((((w.alloc (.cells #[.slice a0 g.fSymbols.length c0_0, .slice a1 g.fRules.length c0_1] 41)).alloc (.cells #[.slice a2 t.fNodes.length c1_0] 45)).alloc (.cells #[.int .i64 x.fNode, .string x.fName] 47)).alloc (.cells #[.string ⟨#[]⟩, .int .i64 0, .int .i64 0, .bool false] 35)).heap.size = w.heap.size + 4 by simp)
  have HS0 := Lib.hid (hs0.later HB.out hhi)
  have HS1 := Lib.hid (hs1.later HB.out hhi)
  have HS2 := Lib.hid (hs2.later HB.out hhi)
  have HHI := Lib.hid hhi
  have HNI := Lib.hid (fun (W : World) (h : hi ≤ W.heap.size) s2 => spec_NodeIndex (lo := lo) (hi := hi) (a0 := a2) (c0_0 := c1_0) t okt hszt x.fNode okx.1 W h s2)
  have HSN := Lib.hid (fun (i : Int) (hi0 : okI i) (W : World) (h : hi ≤ W.heap.size) s0 s1 s2 => spec_SymbolOfNode (lo := lo) (hi := hi) (a0 := a0) (a1 := a1) (a2 := a2) (c0_0 := c0_0) (c0_1 := c0_1) (c1_0 := c1_0) g okg hszg t okt hszt i hi0 W h s0 s1 s2)
  have HNS := Lib.hid (sym_len HZS.out (symOf g t.fNodes (nodeIndex t.fNodes x.fNode)))
  clear hs0 hs1 hs2 okg okt okx hszg hszt
  have hno := @attrOf_no g t.fNodes x
  have hyes := @attrOf_yes g t.fNodes x
  have HIX := Lib.hid (show nodeIndex t.fNodes x.fNode = idxI (fun y : DNode => y.fId == x.fNode) t.fNodes from rfl)
  rw [← HIX.out] at HID
  clear HIX
  have hid := HID.out.1
  unfold okI at hid
  generalize nodeIndex t.fNodes x.fNode = ix at *
  have HNO := Lib.hid hno
  have HYES := Lib.hid hyes
  clear hno hyes
  have e0 : ((((w.alloc (.cells #[.slice a0 g.fSymbols.length c0_0, .slice a1 g.fRules.length c0_1] 41)).alloc (.cells #[.slice a2 t.fNodes.length c1_0] 45)).alloc (.cells #[.int .i64 x.fNode, .string x.fName] 47)).alloc (.cells #[.string ⟨#[]⟩, .int .i64 0, .int .i64 0, .bool false] 35)).cell? ⟨w.heap.size + 1, 0, none⟩ = some (.slice a2 t.fNodes.length c1_0) := by go_simp
  have e1 : ((((w.alloc (.cells #[.slice a0 g.fSymbols.length c0_0, .slice a1 g.fRules.length c0_1] 41)).alloc (.cells #[.slice a2 t.fNodes.length c1_0] 45)).alloc (.cells #[.int .i64 x.fNode, .string x.fName] 47)).alloc (.cells #[.string ⟨#[]⟩, .int .i64 0, .int .i64 0, .bool false] 35)).cell? ⟨w.heap.size + 2, 0, none⟩ = some (.int .i64 x.fNode) := by go_simp
  go_enter Try.func7, Try.ntmps7
  go_wp2_with fail
  refine (HNI.out _ (Nat.le_trans HHI.out HB.out.size) HS2.out).mono ?_
  rintro e w1 ⟨rfl, hb1⟩
  have HB1 := Lib.hid hb1
  have HB4 := Lib.hid (HB.out.trans (hb1.mono HB.out.size))
  have hszw : w.heap.size + 4 ≤ w1.heap.size := by have := hb1.size; rw [HSZ.out] at this; exact this
  have HG1 := Lib.hid ((hb1.block w.heap.size (by have := HSZ.out; omega)).trans HG0.out)
  have HT1 := Lib.hid ((hb1.block (w.heap.size + 1) (by have := HSZ.out; omega)).trans HT0.out)
  have HX1 := Lib.hid ((hb1.block (w.heap.size + 2) (by have := HSZ.out; omega)).trans HX0.out)
  have HA1 := Lib.hid ((hb1.block (w.heap.size + 3) (by have := HSZ.out; omega)).trans HA0.out)
  have HS0' := Lib.hid (HS0.out.later hb1 (Nat.le_trans HHI.out HB.out.size))
  have HS1' := Lib.hid (HS1.out.later hb1 (Nat.le_trans HHI.out HB.out.size))
  have HS2' := Lib.hid (HS2.out.later hb1 (Nat.le_trans HHI.out HB.out.size))
  have HLT := Lib.hid (show w.heap.size + 3 < w1.heap.size by omega)
  clear e0 e1 hb1 HG0 HT0 HX0 HA0 HS0 HS1 HS2 HB HSZ
  have HSZ := Lib.hid hszw
  by_cases hneg : ix < 0
  · have fin := Lib.hid (HNO.out (by omega))
    have hd : decide (ix < 0) = true := decide_eq_true hneg
    clear HNO HYES
    go_wp2_with (first | (refine wpList_buildTo rfl 35 _ rfl (some 15) rfl #[.string ⟨#[]⟩, .int .i64 0, .int .i64 0, .bool false] (by kernel_rfl) ?_) | (refine wpList_store_rowTo rfl 35 (.tmp 6) (.tmp 15) rfl rfl (w.heap.size + 3) #[.string ⟨#[]⟩, .int .i64 0, .int .i64 0, .bool false] rfl rfl 35 _ HA1.out (by kernel_rfl) rfl (by kernel_rfl) ?_))
    refine bodyPost_ret (v := .tuple #[.agg #[.string ⟨#[]⟩, .int .i64 0, .int .i64 0, .bool false], .bool false]) (results_cell_tmp Try.results7 _ _ (w.heap.size + 3) 35 #[.string ⟨#[]⟩, .int .i64 0, .int .i64 0, .bool false] (0, 0) _ rfl (setRow_heap _ _ _ _ _ _ HA1.out) Try.underlying35 rfl (by kernel_rfl)) rfl ⟨?_, pile_setRow HB4.out (by omega) _⟩
    exact ret_find fin.out rfl
  have hd : decide (ix < 0) = false := decide_eq_false hneg
  have fin := Lib.hid (HYES.out (by omega))
  have HOK := Lib.hid HID.out.1
  clear HNO HYES hid
  go_wp2_with fail
  refine wp_region_freeK [([], .none, []), ([], .none, []), ([], .none, []), ([], .none, []), ([], .none, []), ([4], .none, []), ([3, 5], .none, []), ([1, 2, 6], .none, []), ([0, 7], .none, []), ([8], .none, []), ([9], .none, []), ([9], .none, []), ([], .none, []), ([12, 10], .new 12, []), ([11], .none, [])] [0, 1, 2, 3, 4, 5, 6, 7, 8, 9, 10, 11, 13, 14] [] (fun _ => False) (fun _ => True) (fun _ => 0) (fun jq9 V L H wx => match jq9 with | 0 => V 0 = .agg #[.slice a0 g.fSymbols.length c0_0, .slice a1 g.fRules.length c0_1] | 1 => V 1 = .agg #[.slice a0 g.fSymbols.length c0_0, .slice a1 g.fRules.length c0_1] | 2 => V 2 = .agg #[.slice a2 t.fNodes.length c1_0] | 3 => V 3 = .agg #[.slice a2 t.fNodes.length c1_0] | 4 => V 4 = .pointer (some ⟨w.heap.size + 2, 0, none⟩) | 5 => V 5 = .int .i64 x.fNode | 6 => V 6 = .int .i64 ix | 7 => V 7 = .string (symOf g t.fNodes ix) | 8 => ∃ a9 c9, V 8 = .tuple #[.agg #[.string (symS g.fSymbols (symOf g t.fNodes ix)).fName, .slice a9 (symS g.fSymbols (symOf g t.fNodes ix)).fAttributes.length c9], .bool (symB g.fSymbols (symOf g t.fNodes ix))] ∧ Own wx (fun y => L ≤ y ∧ y < H) (.sl 4 (symS g.fSymbols (symOf g t.fNodes ix)).fAttributes.length (fun k => DAttribute.ct ((symS g.fSymbols (symOf g t.fNodes ix)).fAttributes.getD k default))) (.slice a9 (symS g.fSymbols (symOf g t.fNodes ix)).fAttributes.length c9) | 9 => V 9 = V 8 ∧ ∃ a9_9 c9_9, V 9 = .tuple #[.agg #[.string (symS g.fSymbols (symOf g t.fNodes ix)).fName, .slice a9_9 (symS g.fSymbols (symOf g t.fNodes ix)).fAttributes.length c9_9], .bool (symB g.fSymbols (symOf g t.fNodes ix))] | 10 => (∀ x0 x1, V 9 = .tuple #[x0, x1] → V 10 = x0) ∧ ∃ a9_10 c9_10, V 10 = .agg #[.string (symS g.fSymbols (symOf g t.fNodes ix)).fName, .slice a9_10 (symS g.fSymbols (symOf g t.fNodes ix)).fAttributes.length c9_10] | 11 => (∀ x0 x1, V 9 = .tuple #[x0, x1] → V 11 = x1) | 12 => V 12 = .pointer (some ⟨L, 0, none⟩) ∧ L < H ∧ wx.heap[L]? = some (.cells #[.string ⟨#[]⟩, .slice none 0 0] 59) | 13 => ∀ x0 x1, V 10 = .agg #[x0, x1] → L < H ∧ wx.heap[L]? = some (.cells #[x0, x1] 59) | 14 => V 14 = V 11 | _ => True) (by kernel_rfl) (by kernel_rfl) ?obs (fun _ h => h.elim) trivial (fun _ _ _ _ _ => trivial) ?loc ?lasts ?walk
  case obs =>
    trivial
  case loc =>
    intro k V V' L H wx h0 h1 hG
    match k with
    | 0 =>
      try dsimp only at hG ⊢
      rw [← h0]
      exact hG
    | 1 =>
      try dsimp only at hG ⊢
      rw [← h0]
      exact hG
    | 2 =>
      try dsimp only at hG ⊢
      rw [← h0]
      exact hG
    | 3 =>
      try dsimp only at hG ⊢
      rw [← h0]
      exact hG
    | 4 =>
      try dsimp only at hG ⊢
      rw [← h0]
      exact hG
    | 5 =>
      try dsimp only at hG ⊢
      rw [← h0]
      exact hG
    | 6 =>
      try dsimp only at hG ⊢
      rw [← h0]
      exact hG
    | 7 =>
      try dsimp only at hG ⊢
      rw [← h0]
      exact hG
    | 8 =>
      try dsimp only at hG ⊢
      rw [← h0]
      exact hG
    | 9 =>
      have e8 := h1 8 (by decide)
      try dsimp only at hG ⊢
      rw [← h0, ← e8]
      exact hG
    | 10 =>
      have e9 := h1 9 (by decide)
      try dsimp only at hG ⊢
      rw [← h0, ← e9]
      exact hG
    | 11 =>
      have e9 := h1 9 (by decide)
      try dsimp only at hG ⊢
      rw [← h0, ← e9]
      exact hG
    | 12 =>
      try dsimp only at hG ⊢
      rw [← h0]
      exact hG
    | 13 =>
      have e10 := h1 10 (by decide)
      try dsimp only at hG ⊢
      rw [← e10]
      exact hG
    | 14 =>
      have e11 := h1 11 (by decide)
      try dsimp only at hG ⊢
      rw [← h0, ← e11]
      exact hG
    | n + 15 => trivial
  case lasts =>
    intro i hi V L H wx wy hB hH hk
    match i, hi with
    | 0, _ => exact fun h => h
    | 1, _ => exact fun h => h
    | 2, _ => exact fun h => h
    | 3, _ => exact fun h => h
    | 4, _ => exact fun h => h
    | 5, _ => exact fun h => h
    | 6, _ => exact fun h => h
    | 7, _ => exact fun h => h
    | 8, _ => exact fun ⟨a9, c9, hv, ho0⟩ => ⟨a9, c9, hv, ho0.kept (hk.sub fun x hx => .inr (.inl hx))⟩
    | 9, _ => exact fun h => h
    | 10, _ => exact fun h => h
    | 11, _ => exact fun h => h
    | 12, _ => exact fun ⟨hv, hl, hc⟩ => ⟨hv, hl, (hk.2 L (.inr (.inl ⟨Nat.le_refl _, hl⟩)) (Nat.lt_of_lt_of_le hl hH)).trans hc⟩
    | 13, _ => exact fun h x0 x1 hv => ⟨(h x0 x1 hv).1, (hk.2 L (.inr (.inl ⟨Nat.le_refl _, (h x0 x1 hv).1⟩)) (Nat.lt_of_lt_of_le (h x0 x1 hv).1 hH)).trans (h x0 x1 hv).2⟩
    | 14, _ => exact fun h => h
    | n + 15, hn => exact absurd hn (by simp)
  case walk =>
    simp (maxSteps := 4000000) only [freeK, effK, Nat.reduceAdd, Act.put, List.setIfInBounds_toArray, List.set_cons_succ, List.set_cons_zero]
    refine ⟨?_, ?_, ?_, ?_, ?_, ?_, ?_, ?_, ?_, ?_, ?_, ?_, ?_, ?_, ?_, ?_⟩
    · intro V L H wq hw hk hj hd
      clear hd
      have g0 : wq.cell? ⟨w.heap.size, 0, none⟩ = some (.slice a0 g.fSymbols.length c0_0) := (hk.cell (p := ⟨w.heap.size, 0, none⟩) ⟨(show w.heap.size < w1.heap.size by have := HSZ.out; have := HHI.out; omega), fun h => h, trivial⟩ (show w.heap.size < w1.heap.size by have := HSZ.out; have := HHI.out; omega)).trans (pblk_cell HG1.out rfl)
      have g1 : wq.cell? ⟨w.heap.size, 1, none⟩ = some (.slice a1 g.fRules.length c0_1) := (hk.cell (p := ⟨w.heap.size, 1, none⟩) ⟨(show w.heap.size < w1.heap.size by have := HSZ.out; have := HHI.out; omega), fun h => h, trivial⟩ (show w.heap.size < w1.heap.size by have := HSZ.out; have := HHI.out; omega)).trans (pblk_cell HG1.out rfl)
      go_wp2_with fail
      exact freePost _ rfl ⟨⟨WritesF.refl _ _, hj⟩, upd_self⟩
    · intro V L H wq hw hk hj hd
      clear hd
      have g0 : wq.cell? ⟨w.heap.size, 0, none⟩ = some (.slice a0 g.fSymbols.length c0_0) := (hk.cell (p := ⟨w.heap.size, 0, none⟩) ⟨(show w.heap.size < w1.heap.size by have := HSZ.out; have := HHI.out; omega), fun h => h, trivial⟩ (show w.heap.size < w1.heap.size by have := HSZ.out; have := HHI.out; omega)).trans (pblk_cell HG1.out rfl)
      have g1 : wq.cell? ⟨w.heap.size, 1, none⟩ = some (.slice a1 g.fRules.length c0_1) := (hk.cell (p := ⟨w.heap.size, 1, none⟩) ⟨(show w.heap.size < w1.heap.size by have := HSZ.out; have := HHI.out; omega), fun h => h, trivial⟩ (show w.heap.size < w1.heap.size by have := HSZ.out; have := HHI.out; omega)).trans (pblk_cell HG1.out rfl)
      go_wp2_with fail
      exact freePost _ rfl ⟨⟨WritesF.refl _ _, hj⟩, upd_self⟩
    · intro V L H wq hw hk hj hd
      clear hd
      have t0 : wq.cell? ⟨w.heap.size + 1, 0, none⟩ = some (.slice a2 t.fNodes.length c1_0) := (hk.cell (p := ⟨w.heap.size + 1, 0, none⟩) ⟨(show w.heap.size + 1 < w1.heap.size by have := HSZ.out; have := HHI.out; omega), fun h => h, trivial⟩ (show w.heap.size + 1 < w1.heap.size by have := HSZ.out; have := HHI.out; omega)).trans (pblk_cell HT1.out rfl)
      go_wp2_with fail
      exact freePost _ rfl ⟨⟨WritesF.refl _ _, hj⟩, upd_self⟩
    · intro V L H wq hw hk hj hd
      clear hd
      have t0 : wq.cell? ⟨w.heap.size + 1, 0, none⟩ = some (.slice a2 t.fNodes.length c1_0) := (hk.cell (p := ⟨w.heap.size + 1, 0, none⟩) ⟨(show w.heap.size + 1 < w1.heap.size by have := HSZ.out; have := HHI.out; omega), fun h => h, trivial⟩ (show w.heap.size + 1 < w1.heap.size by have := HSZ.out; have := HHI.out; omega)).trans (pblk_cell HT1.out rfl)
      go_wp2_with fail
      exact freePost _ rfl ⟨⟨WritesF.refl _ _, hj⟩, upd_self⟩
    · intro V L H wq hw hk hj hd
      clear hd
      go_wp2_with fail
      exact freePost _ rfl ⟨⟨WritesF.refl _ _, hj⟩, upd_self⟩
    · intro V L H wq hw hk hj hd
      obtain ⟨⟨hL4, hM4, hH4, hv4⟩, -⟩ := hd
      rw [hv4]
      have HV4 := Lib.hid hv4
      clear hv4
      have x0 : wq.cell? ⟨w.heap.size + 2, 0, none⟩ = some (.int .i64 x.fNode) := (hk.cell (p := ⟨w.heap.size + 2, 0, none⟩) ⟨(show w.heap.size + 2 < w1.heap.size by have := HSZ.out; have := HHI.out; omega), fun h => h, trivial⟩ (show w.heap.size + 2 < w1.heap.size by have := HSZ.out; have := HHI.out; omega)).trans (pblk_cell HX1.out rfl)
      go_wp2_with fail
      exact freePost _ rfl ⟨⟨WritesF.refl _ _, hj⟩, upd_self⟩
    · intro V L H wq hw hk hj hd
      obtain ⟨⟨hL3, hM3, hH3, hv3⟩, ⟨hL5, hM5, hH5, hv5⟩, -⟩ := hd
      rw [hv3, hv5]
      have HV3 := Lib.hid hv3
      have HV5 := Lib.hid hv5
      clear hv3 hv5
      have HL2 := Lib.hid (sl_kept' HS2'.out hk (fun b h1 h2 => ⟨by have := HSZ.out; have := HHI.out; omega, fun h => h, trivial⟩) (by have := HSZ.out; have := HHI.out; omega))
      go_wp2_with fail
      refine (HNI.out wq (Nat.le_trans (by have := HSZ.out; have := HHI.out; omega) hk.1) HL2.out).mono ?_
      rintro e w2 ⟨rfl, hb2⟩
      go_wp2_with fail
      exact freePost _ rfl ⟨⟨(WritesF.refl _ _).later hb2, trivial⟩, upd_self⟩
    · intro V L H wq hw hk hj hd
      obtain ⟨⟨hL1, hM1, hH1, hv1⟩, ⟨hL2, hM2, hH2, hv2⟩, ⟨hL6, hM6, hH6, hv6⟩, -⟩ := hd
      rw [hv1, hv2, hv6]
      have HV1 := Lib.hid hv1
      have HV2 := Lib.hid hv2
      have HV6 := Lib.hid hv6
      clear hv1 hv2 hv6
      have HL0 := Lib.hid (sl_kept' HS0'.out hk (fun b h1 h2 => ⟨by have := HSZ.out; have := HHI.out; omega, fun h => h, trivial⟩) (by have := HSZ.out; have := HHI.out; omega))
      have HL1 := Lib.hid (sl_kept' HS1'.out hk (fun b h1 h2 => ⟨by have := HSZ.out; have := HHI.out; omega, fun h => h, trivial⟩) (by have := HSZ.out; have := HHI.out; omega))
      have HL2 := Lib.hid (sl_kept' HS2'.out hk (fun b h1 h2 => ⟨by have := HSZ.out; have := HHI.out; omega, fun h => h, trivial⟩) (by have := HSZ.out; have := HHI.out; omega))
      go_wp2_with fail
      refine (HSN.out ix HOK.out wq (Nat.le_trans (by have := HSZ.out; have := HHI.out; omega) hk.1) HL0.out HL1.out HL2.out).mono ?_
      rintro e w2 ⟨rfl, hb2⟩
      go_wp2_with fail
      exact freePost _ rfl ⟨⟨(WritesF.refl _ _).later hb2, trivial⟩, upd_self⟩
    · intro V L H wq hw hk hj hd
      obtain ⟨⟨hL0, hM0, hH0, hv0⟩, ⟨hL7, hM7, hH7, hv7⟩, -⟩ := hd
      rw [hv0, hv7]
      have HV0 := Lib.hid hv0
      have HV7 := Lib.hid hv7
      clear hv0 hv7
      have HL0 := Lib.hid (sl_kept' HS0'.out hk (fun b h1 h2 => ⟨by have := HSZ.out; have := HHI.out; omega, fun h => h, trivial⟩) (by have := HSZ.out; have := HHI.out; omega))
      go_wp2_with fail
      refine (spec_FindSymbolO (c0 := c0_0) (c1 := c0_1) (a1 := a1) (n1 := g.fRules.length) g.fSymbols HZS.out (symOf g t.fNodes ix) wq (Nat.le_trans (by have := HSZ.out; have := HHI.out; omega) hk.1) HL0.out).mono ?_
      rintro e w2 ⟨⟨a9, c9, rfl, ho⟩, hb2⟩
      go_wp2_with fail
      exact freePost _ rfl ⟨⟨(WritesF.refl _ _).later hb2, trivial⟩, Exists.intro a9 (Exists.intro c9 (And.intro (upd_self) (ho)))⟩
    · intro V L H wq hw hk hj hd
      obtain ⟨⟨hL8, hM8, hH8, a9, c9, hv8, ho8_0⟩, -⟩ := hd
      rw [hv8]
      have HV8 := Lib.hid hv8
      clear hv8
      go_wp2_with fail
      exact freePost _ rfl ⟨⟨WritesF.refl _ _, hj⟩, And.intro (upd_self.trans (HV8.out.symm.trans (upd_ne (by decide)).symm)) ⟨_, _, upd_self⟩⟩
    · intro V L H wq hw hk hj hd
      obtain ⟨⟨hL9, hM9, hH9, hv9, a9_9, c9_9, hz9⟩, -⟩ := hd
      clear hv9
      rw [hz9]
      have HV9 := Lib.hid hz9
      clear hz9
      go_wp2_with fail
      exact freePost _ rfl ⟨⟨WritesF.refl _ _, hj⟩, And.intro (fun x0 x1 h => by cases (HV9.out.symm.trans ((upd_ne (by decide)).symm.trans h)); exact upd_self) ⟨_, _, upd_self⟩⟩
    · intro V L H wq hw hk hj hd
      obtain ⟨⟨hL9, hM9, hH9, hv9, a9_9, c9_9, hz9⟩, -⟩ := hd
      clear hv9
      rw [hz9]
      have HV9 := Lib.hid hz9
      clear hz9
      go_wp2_with fail
      exact freePost _ rfl ⟨⟨WritesF.refl _ _, hj⟩, fun x0 x1 h => by cases (HV9.out.symm.trans ((upd_ne (by decide)).symm.trans h)); exact upd_self⟩
    · intro V L H wq hw hk hj hd
      clear hd
      go_wp2_with fail
      refine freePost _ rfl ⟨⟨(WritesF.refl _ _).later ((Below.refl _ _).alloc (Nat.le_refl _) _), trivial⟩, upd_self, by simp, blk_new rfl⟩
    · intro V L H wq hw hk hj hd
      obtain ⟨⟨hL12, hM12, hH12, hv12, hlt12, hc12⟩, ⟨hL10, hM10, hH10, hv10, a9_10, c9_10, hz10⟩, -⟩ := hd
      clear hv10
      rw [hv12, hz10]
      have HV12 := Lib.hid hv12
      have HV10 := Lib.hid hz10
      clear hv12 hz10
      have hc_0 := pblk_cell (j := 0) (v := .string ⟨#[]⟩) hc12 rfl
      have hf_0 := pblk_frozen (j := 0) hc12
      have hc_1 := pblk_cell (j := 1) (v := .slice none 0 0) hc12 rfl
      have hf_1 := pblk_frozen (j := 1) hc12
      have HBLK := Lib.hid hc12
      clear hc12
      go_wp2_with fail
      refine freePost undef rfl ⟨(Touches.put (L := L 12) (H := H 12) (Touches.put (L := L 12) (H := H 12) Touches.refl (p := ⟨L 12, 0, none⟩) ⟨Nat.le_refl _, hlt12⟩ _) (p := ⟨L 12, 1, none⟩) ⟨Nat.le_refl _, hlt12⟩ _), fun x0 x1 h => ?_⟩
      cases (HV10.out.symm.trans ((upd_ne (by decide)).symm.trans h))
      exact ⟨hlt12, (pblk_put (pblk_put HBLK.out rfl) rfl)⟩
    · intro V L H wq hw hk hj hd
      obtain ⟨⟨hL11, hM11, hH11, hv11⟩, -⟩ := hd
      clear hv11
      go_wp2_with fail
      exact freePost _ rfl ⟨⟨WritesF.refl _ _, hj⟩, upd_self.trans (upd_ne (by decide)).symm⟩
    · intro V L H wq hw hj hd hap hdead
      obtain ⟨⟨hL0, hM0, hH0, hv0⟩, ⟨hL1, hM1, hH1, hv1⟩, ⟨hL2, hM2, hH2, hv2⟩, ⟨hL3, hM3, hH3, hv3⟩, ⟨hL4, hM4, hH4, hv4⟩, ⟨hL5, hM5, hH5, hv5⟩, ⟨hL6, hM6, hH6, hv6⟩, ⟨hL7, hM7, hH7, hv7⟩, ⟨hL8, hM8, hH8, a9, c9, hv8, ho8_0⟩, ⟨hL9, hM9, hH9, hv9, a9_9, c9_9, hz9⟩, ⟨hL10, hM10, hH10, hv10, a9_10, c9_10, hz10⟩, ⟨hL11, hM11, hH11, hv11⟩, ⟨hL13, hM13, hH13, hst13_⟩, ⟨hL14, hM14, hH14, hv14⟩, -⟩ := hd
      have hv9' := hv9.trans hv8
      have hv10' := hv10 _ _ hv9'
      have hv11' := hv11 _ _ hv9'
      have hv14' := hv14.trans hv11'
      obtain ⟨vlt13, vb13⟩ := hst13_ _ _ hv10'
      obtain ⟨hLe13, hHe13, wo13, hva13, -⟩ := hdead 13 12 (by decide) rfl
      rw [← hLe13] at hva13
      clear hLe13 hHe13
      rw [hv0, hv1, hv2, hv3, hv4, hv5, hv6, hv7, hv8, hv9', hv10', hv11', hva13, hv14']
      clear hv0 hv1 hv2 hv3 hv4 hv5 hv6 hv7 hv8 hv9' hv10' hv11' hva13 hv14' hv9 hv10 hv11 hv14
      have hbq := fa_noneK hw
      have HBQ := Lib.hid hbq
      have HO := Lib.hid (show Sl 0 wq.heap.size wq 4 (symS g.fSymbols (symOf g t.fNodes ix)).fAttributes.length (fun k => DAttribute.ct ((symS g.fSymbols (symOf g t.fNodes ix)).fAttributes.getD k default)) a9 from Sl.of (ho8_0.lies fun y hy => ⟨Nat.zero_le _, by have := hy.2; omega⟩))
      have HAQ := Lib.hid ((hbq.block (w.heap.size + 3) HLT.out).trans HA1.out)
      have hx1 : wq.cell? ⟨w.heap.size + 2, 1, none⟩ = some (.string x.fName) := (hbq.cell (p := ⟨w.heap.size + 2, 1, none⟩) (by have := HSZ.out; show w.heap.size + 2 < _; omega)).trans (pblk_cell HX1.out rfl)
      have hcl0 := pblk_cell (j := 0) (v := .string (symS g.fSymbols (symOf g t.fNodes ix)).fName) vb13 rfl
      have hcl1 := pblk_cell (j := 1) (v := .slice a9 (symS g.fSymbols (symOf g t.fNodes ix)).fAttributes.length c9) vb13 rfl
      have HLQ := Lib.hid (show w.heap.size + 3 < wq.heap.size from Nat.lt_of_lt_of_le HLT.out hbq.size)
      clear hw hj hap hdead vb13 ho8_0 hbq
      go_wp2_with fail
      refine (spec_FindAttributeL (c0_0 := c9) (symS g.fSymbols (symOf g t.fNodes ix)) HNS.out x.fName wq (Nat.le_refl _) HO.out).mono ?_
      rintro e w3 ⟨rfl, hb3⟩
      have HA3 := Lib.hid ((hb3.block (w.heap.size + 3) HLQ.out).trans HAQ.out)
      have HB3 := Lib.hid (HB4.out.trans ((HBQ.out.trans (hb3.mono HBQ.out.size)).mono HB4.out.size))
      clear hb3 hx1 hcl0 hcl1
      generalize hfa : (findAttr (symS g.fSymbols (symOf g t.fNodes ix)) x.fName) = fa at *
      have HFA := Lib.hid hfa
      clear hfa
      go_wp2_with (refine wpList_store_rowTo rfl 35 (.tmp 6) (.tmp 32) rfl rfl (w.heap.size + 3) _ rfl rfl 35 _ HA3.out (by kernel_rfl) rfl (by simp [Value.oneCell']) ?_)
      refine bodyPost_ret (v := .tuple #[.agg #[.string fa.1.fName, .int .i64 fa.1.fType, .int .i64 fa.1.fMode, .bool fa.1.fCircular], .bool fa.2]) (results_cell_tmp Try.results7 _ _ (w.heap.size + 3) 35 _ (0, 0) _ rfl (setRow_heap _ _ _ _ _ _ HA3.out) Try.underlying35 rfl (by kernel_rfl)) rfl ⟨?_, pile_setRow HB3.out (by omega) _⟩
      exact ret_find (fin.out.trans (by rw [← HFA.out]; rfl)) rfl

set_option maxHeartbeats 6400000 in
set_option maxRecDepth 100000 in
theorem impl_AttributeOf {lo hi : Nat} {a0 a1 a2 : Option Addr} {c0_0 c0_1 c1_0 : Nat} (g : DGrammar) (okg : g.ok) (hszg : g.sz ≤ 1048576) (t : DTree) (okt : t.ok) (hszt : t.sz ≤ 1048576) (x : DInstance) (okx : x.ok) (_ : x.sz ≤ 1048576) (w : World) (hhi : hi ≤ w.heap.size) (hs0 : Sl lo hi w 2 g.fSymbols.length (fun k => DSymbol.ct (g.fSymbols.getD k default)) a0) (hs1 : Sl lo hi w 6 g.fRules.length (fun k => DRule.ct (g.fRules.getD k default)) a1) (hs2 : Sl lo hi w 6 t.fNodes.length (fun k => DNode.ct (t.fNodes.getD k default)) a2) :
    Calls Try.prog 11 #[.agg #[.slice a0 g.fSymbols.length c0_0, .slice a1 g.fRules.length c0_1], .agg #[.slice a2 t.fNodes.length c1_0], .agg #[.int .i64 x.fNode, .string x.fName]] w fun e w' => e = .returned (.tuple #[.agg #[.string (attrOf g t.fNodes x).1.fName, .int .i64 (attrOf g t.fNodes x).1.fType, .int .i64 (attrOf g t.fNodes x).1.fMode, .bool (attrOf g t.fNodes x).1.fCircular], .bool (attrOf g t.fNodes x).2]) ∧ Below w.heap.size w w' := by
  have HZS := Lib.hid (show lsz DSymbol.sz g.fSymbols ≤ 1048576 by unfold DGrammar.sz at hszg; omega)
  have hn : t.fNodes.length ≤ 1048576 := by unfold DTree.sz lsz at hszt; omega
  have HID := Lib.hid (idxI_ok (p := fun y : DNode => y.fId == x.fNode) hn)
  have HB := Lib.hid (((((Below.refl w.heap.size w).alloc (Nat.le_refl _) (.cells #[.slice a0 g.fSymbols.length c0_0, .slice a1 g.fRules.length c0_1] 41)).alloc (by simp) (.cells #[.slice a2 t.fNodes.length c1_0] 45)).alloc (by simp <;> omega) (.cells #[.int .i64 x.fNode, .string x.fName] 47)).alloc (by simp <;> omega) (.cells #[.string ⟨#[]⟩, .int .i64 0, .int .i64 0, .bool false] 35))
  have HG0 := Lib.hid (show ((((w.alloc (.cells #[.slice a0 g.fSymbols.length c0_0, .slice a1 g.fRules.length c0_1] 41)).alloc (.cells #[.slice a2 t.fNodes.length c1_0] 45)).alloc (.cells #[.int .i64 x.fNode, .string x.fName] 47)).alloc (.cells #[.string ⟨#[]⟩, .int .i64 0, .int .i64 0, .bool false] 35)).heap[w.heap.size]? = some (.cells #[.slice a0 g.fSymbols.length c0_0, .slice a1 g.fRules.length c0_1] 41) from blk_alloc (by simp <;> omega) (blk_alloc (by simp <;> omega) (blk_alloc (by simp) (blk_new rfl))))
  have HT0 := Lib.hid (show ((((w.alloc (.cells #[.slice a0 g.fSymbols.length c0_0, .slice a1 g.fRules.length c0_1] 41)).alloc (.cells #[.slice a2 t.fNodes.length c1_0] 45)).alloc (.cells #[.int .i64 x.fNode, .string x.fName] 47)).alloc (.cells #[.string ⟨#[]⟩, .int .i64 0, .int .i64 0, .bool false] 35)).heap[w.heap.size + 1]? = some (.cells #[.slice a2 t.fNodes.length c1_0] 45) from blk_alloc (by simp <;> omega) (blk_alloc (by simp) (blk_new (by simp))))
  have HX0 := Lib.hid (show ((((w.alloc (.cells #[.slice a0 g.fSymbols.length c0_0, .slice a1 g.fRules.length c0_1] 41)).alloc (.cells #[.slice a2 t.fNodes.length c1_0] 45)).alloc (.cells #[.int .i64 x.fNode, .string x.fName] 47)).alloc (.cells #[.string ⟨#[]⟩, .int .i64 0, .int .i64 0, .bool false] 35)).heap[w.heap.size + 2]? = some (.cells #[.int .i64 x.fNode, .string x.fName] 47) from blk_alloc (by simp) (blk_new (by simp)))
  have HA0 := Lib.hid (show ((((w.alloc (.cells #[.slice a0 g.fSymbols.length c0_0, .slice a1 g.fRules.length c0_1] 41)).alloc (.cells #[.slice a2 t.fNodes.length c1_0] 45)).alloc (.cells #[.int .i64 x.fNode, .string x.fName] 47)).alloc (.cells #[.string ⟨#[]⟩, .int .i64 0, .int .i64 0, .bool false] 35)).heap[w.heap.size + 3]? = some (.cells #[.string ⟨#[]⟩, .int .i64 0, .int .i64 0, .bool false] 35) from blk_new (by simp))
  have HSZ := Lib.hid (show ((((w.alloc (.cells #[.slice a0 g.fSymbols.length c0_0, .slice a1 g.fRules.length c0_1] 41)).alloc (.cells #[.slice a2 t.fNodes.length c1_0] 45)).alloc (.cells #[.int .i64 x.fNode, .string x.fName] 47)).alloc (.cells #[.string ⟨#[]⟩, .int .i64 0, .int .i64 0, .bool false] 35)).heap.size = w.heap.size + 4 by simp)
  have HS0 := Lib.hid (hs0.later HB.out hhi)
  have HS1 := Lib.hid (hs1.later HB.out hhi)
  have HS2 := Lib.hid (hs2.later HB.out hhi)
  have HHI := Lib.hid hhi
  have HNI := Lib.hid (fun (W : World) (h : hi ≤ W.heap.size) s2 => impl_NodeIndex (lo := lo) (hi := hi) (a0 := a2) (c0_0 := c1_0) t okt hszt x.fNode okx.1 W h s2)
  have HSN := Lib.hid (fun (i : Int) (hi0 : okI i) (W : World) (h : hi ≤ W.heap.size) s0 s1 s2 => impl_attributesOfNode (lo := lo) (hi := hi) (a0 := a0) (a1 := a1) (a2 := a2) (c0_0 := c0_0) (c0_1 := c0_1) (c1_0 := c1_0) g okg hszg t okt hszt i hi0 W h s0 s1 s2)
  have HNS := Lib.hid (sym_len HZS.out (symOf g t.fNodes (nodeIndex t.fNodes x.fNode)))
  clear hs0 hs1 hs2 okg okt okx hszg hszt
  have hno := @attrOf_no g t.fNodes x
  have hyes := @attrOf_yes g t.fNodes x
  have HIX := Lib.hid (show nodeIndex t.fNodes x.fNode = idxI (fun y : DNode => y.fId == x.fNode) t.fNodes from rfl)
  rw [← HIX.out] at HID
  clear HIX
  have hid := HID.out.1
  unfold okI at hid
  generalize nodeIndex t.fNodes x.fNode = ix at *
  have HNO := Lib.hid hno
  have HYES := Lib.hid hyes
  clear hno hyes
  have e0 : ((((w.alloc (.cells #[.slice a0 g.fSymbols.length c0_0, .slice a1 g.fRules.length c0_1] 41)).alloc (.cells #[.slice a2 t.fNodes.length c1_0] 45)).alloc (.cells #[.int .i64 x.fNode, .string x.fName] 47)).alloc (.cells #[.string ⟨#[]⟩, .int .i64 0, .int .i64 0, .bool false] 35)).cell? ⟨w.heap.size + 1, 0, none⟩ = some (.slice a2 t.fNodes.length c1_0) := by go_simp
  have e1 : ((((w.alloc (.cells #[.slice a0 g.fSymbols.length c0_0, .slice a1 g.fRules.length c0_1] 41)).alloc (.cells #[.slice a2 t.fNodes.length c1_0] 45)).alloc (.cells #[.int .i64 x.fNode, .string x.fName] 47)).alloc (.cells #[.string ⟨#[]⟩, .int .i64 0, .int .i64 0, .bool false] 35)).cell? ⟨w.heap.size + 2, 0, none⟩ = some (.int .i64 x.fNode) := by go_simp
  go_enter Try.func11, Try.ntmps11
  go_wp2_with fail
  refine (HNI.out _ (Nat.le_trans HHI.out HB.out.size) HS2.out).mono ?_
  rintro e w1 ⟨rfl, hb1⟩
  have HB1 := Lib.hid hb1
  have HB4 := Lib.hid (HB.out.trans (hb1.mono HB.out.size))
  have hszw : w.heap.size + 4 ≤ w1.heap.size := by have := hb1.size; rw [HSZ.out] at this; exact this
  have HG1 := Lib.hid ((hb1.block w.heap.size (by have := HSZ.out; omega)).trans HG0.out)
  have HT1 := Lib.hid ((hb1.block (w.heap.size + 1) (by have := HSZ.out; omega)).trans HT0.out)
  have HX1 := Lib.hid ((hb1.block (w.heap.size + 2) (by have := HSZ.out; omega)).trans HX0.out)
  have HA1 := Lib.hid ((hb1.block (w.heap.size + 3) (by have := HSZ.out; omega)).trans HA0.out)
  have HS0' := Lib.hid (HS0.out.later hb1 (Nat.le_trans HHI.out HB.out.size))
  have HS1' := Lib.hid (HS1.out.later hb1 (Nat.le_trans HHI.out HB.out.size))
  have HS2' := Lib.hid (HS2.out.later hb1 (Nat.le_trans HHI.out HB.out.size))
  have HLT := Lib.hid (show w.heap.size + 3 < w1.heap.size by omega)
  clear e0 e1 hb1 HG0 HT0 HX0 HA0 HS0 HS1 HS2 HB HSZ
  have HSZ := Lib.hid hszw
  by_cases hneg : ix < 0
  · have fin := Lib.hid (HNO.out (by omega))
    have hd : decide (ix < 0) = true := decide_eq_true hneg
    clear HNO HYES
    go_wp2_with (first | (refine wpList_buildTo rfl 35 _ rfl (some 15) rfl #[.string ⟨#[]⟩, .int .i64 0, .int .i64 0, .bool false] (by kernel_rfl) ?_) | (refine wpList_store_rowTo rfl 35 (.tmp 6) (.tmp 15) rfl rfl (w.heap.size + 3) #[.string ⟨#[]⟩, .int .i64 0, .int .i64 0, .bool false] rfl rfl 35 _ HA1.out (by kernel_rfl) rfl (by kernel_rfl) ?_))
    refine bodyPost_ret (v := .tuple #[.agg #[.string ⟨#[]⟩, .int .i64 0, .int .i64 0, .bool false], .bool false]) (results_cell_tmp Try.results11 _ _ (w.heap.size + 3) 35 #[.string ⟨#[]⟩, .int .i64 0, .int .i64 0, .bool false] (0, 0) _ rfl (setRow_heap _ _ _ _ _ _ HA1.out) Try.underlying35 rfl (by kernel_rfl)) rfl ⟨?_, pile_setRow HB4.out (by omega) _⟩
    exact ret_find fin.out rfl
  have hd : decide (ix < 0) = false := decide_eq_false hneg
  have fin := Lib.hid (HYES.out (by omega))
  have HOK := Lib.hid HID.out.1
  clear HNO HYES hid
  go_wp2_with fail
  refine wp_region_freeK [([], .none, []), ([], .none, []), ([], .none, []), ([0, 1, 2], .none, []), ([3], .none, []), ([], .none, []), ([5], .none, []), ([3, 4, 6], .none, []), ([7], .none, []), ([7], .none, []), ([8], .old, []), ([9], .none, [10])] [0, 1, 2, 3, 4, 5, 6, 7, 8, 9, 10, 11] [10] (fun _ => False) (fun _ => True) (fun jq9 => match jq9 with | 10 => (w.heap.size + 3) | _ => 0) (fun jq9 V L H wx => match jq9 with | 0 => V 0 = .agg #[.slice a0 g.fSymbols.length c0_0, .slice a1 g.fRules.length c0_1] | 1 => V 1 = .agg #[.slice a2 t.fNodes.length c1_0] | 2 => V 2 = .int .i64 ix | 3 => ∃ a9 c9, V 3 = .slice a9 (symNode g t.fNodes ix).fAttributes.length c9 ∧ Sl lo hi wx 4 (symNode g t.fNodes ix).fAttributes.length (fun k => DAttribute.ct ((symNode g t.fNodes ix).fAttributes.getD k default)) a9 | 4 => ∃ p4 q4, V 4 = .agg #[.string ⟨#[]⟩, .slice p4 (symNode g t.fNodes ix).fAttributes.length q4] ∧ V 3 = .slice p4 (symNode g t.fNodes ix).fAttributes.length q4 | 5 => V 5 = .pointer (some ⟨w.heap.size + 2, 1, none⟩) | 6 => V 6 = .string x.fName | 7 => V 7 = .tuple #[.agg #[.string (findAttr (symNode g t.fNodes ix) x.fName).1.fName, .int .i64 (findAttr (symNode g t.fNodes ix) x.fName).1.fType, .int .i64 (findAttr (symNode g t.fNodes ix) x.fName).1.fMode, .bool (findAttr (symNode g t.fNodes ix) x.fName).1.fCircular], .bool (findAttr (symNode g t.fNodes ix) x.fName).2] | 8 => (∀ x0 x1, V 7 = .tuple #[x0, x1] → V 8 = x0) ∧ V 8 = .agg #[.string (findAttr (symNode g t.fNodes ix) x.fName).1.fName, .int .i64 (findAttr (symNode g t.fNodes ix) x.fName).1.fType, .int .i64 (findAttr (symNode g t.fNodes ix) x.fName).1.fMode, .bool (findAttr (symNode g t.fNodes ix) x.fName).1.fCircular] | 9 => (∀ x0 x1, V 7 = .tuple #[x0, x1] → V 9 = x1) | 10 => ∀ x0 x1 x2 x3, V 8 = .agg #[x0, x1, x2, x3] → wx.heap[(w.heap.size + 3)]? = some (.cells #[x0, x1, x2, x3] 35) | 11 => V 11 = V 9 | _ => True) (by kernel_rfl) (by kernel_rfl) ?obs (fun _ h => h.elim) trivial (fun _ _ _ _ _ => trivial) ?loc ?lasts ?walk
  case obs =>
    exact (And.intro (And.intro HLT.out (fun h => h)) (And.intro (trivial) (trivial)))
  case loc =>
    intro k V V' L H wx h0 h1 hG
    match k with
    | 0 =>
      try dsimp only at hG ⊢
      rw [← h0]
      exact hG
    | 1 =>
      try dsimp only at hG ⊢
      rw [← h0]
      exact hG
    | 2 =>
      try dsimp only at hG ⊢
      rw [← h0]
      exact hG
    | 3 =>
      try dsimp only at hG ⊢
      rw [← h0]
      exact hG
    | 4 =>
      have e3 := h1 3 (by decide)
      try dsimp only at hG ⊢
      rw [← h0, ← e3]
      exact hG
    | 5 =>
      try dsimp only at hG ⊢
      rw [← h0]
      exact hG
    | 6 =>
      try dsimp only at hG ⊢
      rw [← h0]
      exact hG
    | 7 =>
      try dsimp only at hG ⊢
      rw [← h0]
      exact hG
    | 8 =>
      have e7 := h1 7 (by decide)
      try dsimp only at hG ⊢
      rw [← h0, ← e7]
      exact hG
    | 9 =>
      have e7 := h1 7 (by decide)
      try dsimp only at hG ⊢
      rw [← h0, ← e7]
      exact hG
    | 10 =>
      have e8 := h1 8 (by decide)
      try dsimp only at hG ⊢
      rw [← e8]
      exact hG
    | 11 =>
      have e9 := h1 9 (by decide)
      try dsimp only at hG ⊢
      rw [← h0, ← e9]
      exact hG
    | n + 12 => trivial
  case lasts =>
    intro i hi V L H wx wy hB hH hk
    match i, hi with
    | 0, _ => exact fun h => h
    | 1, _ => exact fun h => h
    | 2, _ => exact fun h => h
    | 3, _ => exact fun ⟨a9, c9, hv, ho0⟩ => ⟨a9, c9, hv, sl_kept' ho0 hk (fun b h1 h2 => .inl ⟨by have := HSZ.out; have := HHI.out; omega, fun h => h, ⟨by have := HSZ.out; have := HHI.out; show b ≠ w.heap.size + 3; omega, trivial⟩⟩) (Nat.le_trans (by have := HSZ.out; have := HHI.out; omega) hB)⟩
    | 4, _ => exact fun ⟨p4, q4, hv, ho0⟩ => ⟨p4, q4, hv, ho0⟩
    | 5, _ => exact fun h => h
    | 6, _ => exact fun h => h
    | 7, _ => exact fun h => h
    | 8, _ => exact fun h => h
    | 9, _ => exact fun h => h
    | 10, _ => exact fun h x0 x1 x2 x3 hv => (hk.2 ((w.heap.size + 3)) (.inr (.inr ⟨rfl, rfl⟩)) (Nat.lt_of_lt_of_le HLT.out hB)).trans (h x0 x1 x2 x3 hv)
    | 11, _ => exact fun h => h
    | n + 12, hn => exact absurd hn (by simp)
  case walk =>
    simp (maxSteps := 4000000) only [freeK, effK, Nat.reduceAdd, Act.put, List.setIfInBounds_toArray, List.set_cons_succ, List.set_cons_zero]
    refine ⟨?_, ?_, ?_, ?_, ?_, ?_, ?_, ?_, ?_, ?_, ?_, ?_, ?_⟩
    · intro V L H wq hw hk hj hd
      clear hd
      have g0 : wq.cell? ⟨w.heap.size, 0, none⟩ = some (.slice a0 g.fSymbols.length c0_0) := (hk.cell (p := ⟨w.heap.size, 0, none⟩) ⟨(show w.heap.size < w1.heap.size by have := HSZ.out; have := HHI.out; omega), fun h => h, trivial⟩ (show w.heap.size < w1.heap.size by have := HSZ.out; have := HHI.out; omega)).trans (pblk_cell HG1.out rfl)
      have g1 : wq.cell? ⟨w.heap.size, 1, none⟩ = some (.slice a1 g.fRules.length c0_1) := (hk.cell (p := ⟨w.heap.size, 1, none⟩) ⟨(show w.heap.size < w1.heap.size by have := HSZ.out; have := HHI.out; omega), fun h => h, trivial⟩ (show w.heap.size < w1.heap.size by have := HSZ.out; have := HHI.out; omega)).trans (pblk_cell HG1.out rfl)
      go_wp2_with fail
      exact freePost _ rfl ⟨⟨WritesF.refl _ _, hj⟩, upd_self⟩
    · intro V L H wq hw hk hj hd
      clear hd
      have t0 : wq.cell? ⟨w.heap.size + 1, 0, none⟩ = some (.slice a2 t.fNodes.length c1_0) := (hk.cell (p := ⟨w.heap.size + 1, 0, none⟩) ⟨(show w.heap.size + 1 < w1.heap.size by have := HSZ.out; have := HHI.out; omega), fun h => h, trivial⟩ (show w.heap.size + 1 < w1.heap.size by have := HSZ.out; have := HHI.out; omega)).trans (pblk_cell HT1.out rfl)
      go_wp2_with fail
      exact freePost _ rfl ⟨⟨WritesF.refl _ _, hj⟩, upd_self⟩
    · intro V L H wq hw hk hj hd
      clear hd
      go_wp2_with fail
      exact freePost _ rfl ⟨⟨WritesF.refl _ _, hj⟩, upd_self⟩
    · intro V L H wq hw hk hj hd
      obtain ⟨⟨hL0, hM0, hH0, hv0⟩, ⟨hL1, hM1, hH1, hv1⟩, ⟨hL2, hM2, hH2, hv2⟩, -⟩ := hd
      rw [hv0, hv1, hv2]
      have HV0 := Lib.hid hv0
      have HV1 := Lib.hid hv1
      have HV2 := Lib.hid hv2
      clear hv0 hv1 hv2
      have HL0 := Lib.hid (sl_kept' HS0'.out hk (fun b h1 h2 => ⟨by have := HSZ.out; have := HHI.out; omega, fun h => h, trivial⟩) (by have := HSZ.out; have := HHI.out; omega))
      have HL1 := Lib.hid (sl_kept' HS1'.out hk (fun b h1 h2 => ⟨by have := HSZ.out; have := HHI.out; omega, fun h => h, trivial⟩) (by have := HSZ.out; have := HHI.out; omega))
      have HL2 := Lib.hid (sl_kept' HS2'.out hk (fun b h1 h2 => ⟨by have := HSZ.out; have := HHI.out; omega, fun h => h, trivial⟩) (by have := HSZ.out; have := HHI.out; omega))
      go_wp2_with fail
      refine (HSN.out ix HOK.out wq (Nat.le_trans (by have := HSZ.out; have := HHI.out; omega) hk.1) HL0.out HL1.out HL2.out).mono ?_
      rintro e w2 ⟨⟨a9, c9, rfl, ho⟩, hb2⟩
      go_wp2_with fail
      exact freePost _ rfl ⟨⟨(WritesF.refl _ _).later hb2, trivial⟩, Exists.intro a9 (Exists.intro c9 (And.intro (upd_self) (ho)))⟩
    · intro V L H wq hw hk hj hd
      obtain ⟨⟨hL3, hM3, hH3, a9, c9, hv3, ho3_0⟩, -⟩ := hd
      rw [hv3]
      have HV3 := Lib.hid hv3
      clear hv3
      go_wp2_with fail
      exact freePost _ rfl ⟨⟨WritesF.refl _ _, hj⟩, Exists.intro a9 (Exists.intro c9 (And.intro (upd_self) ((upd_ne (by decide)).trans HV3.out)))⟩
    · intro V L H wq hw hk hj hd
      clear hd
      go_wp2_with fail
      exact freePost _ rfl ⟨⟨WritesF.refl _ _, hj⟩, upd_self⟩
    · intro V L H wq hw hk hj hd
      obtain ⟨⟨hL5, hM5, hH5, hv5⟩, -⟩ := hd
      rw [hv5]
      have HV5 := Lib.hid hv5
      clear hv5
      have x1 : wq.cell? ⟨w.heap.size + 2, 1, none⟩ = some (.string x.fName) := (hk.cell (p := ⟨w.heap.size + 2, 1, none⟩) ⟨(show w.heap.size + 2 < w1.heap.size by have := HSZ.out; have := HHI.out; omega), fun h => h, trivial⟩ (show w.heap.size + 2 < w1.heap.size by have := HSZ.out; have := HHI.out; omega)).trans (pblk_cell HX1.out rfl)
      go_wp2_with fail
      exact freePost _ rfl ⟨⟨WritesF.refl _ _, hj⟩, upd_self⟩
    · intro V L H wq hw hk hj hd
      obtain ⟨⟨hL3, hM3, hH3, a9, c9, hv3, ho3_0⟩, ⟨hL4, hM4, hH4, p4, q4, hv4, ho4_0⟩, ⟨hL6, hM6, hH6, hv6⟩, -⟩ := hd
      rw [hv3, hv4, hv6]
      have HV3 := Lib.hid hv3
      have HV4 := Lib.hid hv4
      have HV6 := Lib.hid hv6
      clear hv3 hv4 hv6
      have HL9 := Lib.hid (show Sl lo hi wq 4 (symNode g t.fNodes ix).fAttributes.length (fun k => DAttribute.ct ((symNode g t.fNodes ix).fAttributes.getD k default)) p4 from by have h := ho4_0.symm.trans HV3.out; simp only [Value.slice.injEq, true_and] at h; rw [h.1]; exact ho3_0)
      go_wp2_with fail
      refine (impl_FindAttributeL (c0_0 := q4) ⟨⟨#[]⟩, (symNode g t.fNodes ix).fAttributes⟩ HNS.out x.fName wq (Nat.le_trans (by have := HSZ.out; have := HHI.out; omega) hk.1) HL9.out).mono ?_
      rintro e w2 ⟨rfl, hb2⟩
      go_wp2_with fail
      exact freePost _ rfl ⟨⟨(WritesF.refl _ _).later hb2, trivial⟩, upd_self⟩
    · intro V L H wq hw hk hj hd
      obtain ⟨⟨hL7, hM7, hH7, hv7⟩, -⟩ := hd
      rw [hv7]
      have HV7 := Lib.hid hv7
      clear hv7
      go_wp2_with fail
      exact freePost _ rfl ⟨⟨WritesF.refl _ _, hj⟩, And.intro (fun x0 x1 h => by cases (HV7.out.symm.trans ((upd_ne (by decide)).symm.trans h)); exact upd_self) upd_self⟩
    · intro V L H wq hw hk hj hd
      obtain ⟨⟨hL7, hM7, hH7, hv7⟩, -⟩ := hd
      rw [hv7]
      have HV7 := Lib.hid hv7
      clear hv7
      go_wp2_with fail
      exact freePost _ rfl ⟨⟨WritesF.refl _ _, hj⟩, fun x0 x1 h => by cases (HV7.out.symm.trans ((upd_ne (by decide)).symm.trans h)); exact upd_self⟩
    · intro V L H wq hw hk hj hd
      obtain ⟨⟨hL8, hM8, hH8, hv8, hz8⟩, -⟩ := hd
      clear hv8
      rw [hz8]
      have HV8 := Lib.hid hz8
      clear hz8
      have hblk : wq.heap[(w.heap.size + 3)]? = some (.cells #[.string ⟨#[]⟩, .int .i64 0, .int .i64 0, .bool false] 35) := (hk.2 (w.heap.size + 3) ⟨HLT.out, fun h => h, trivial⟩ HLT.out).trans HA1.out
      have hc_0 := pblk_cell (j := 0) (v := .string ⟨#[]⟩) hblk rfl
      have hf_0 := pblk_frozen (j := 0) hblk
      have hc_1 := pblk_cell (j := 1) (v := .int .i64 0) hblk rfl
      have hf_1 := pblk_frozen (j := 1) hblk
      have hc_2 := pblk_cell (j := 2) (v := .int .i64 0) hblk rfl
      have hf_2 := pblk_frozen (j := 2) hblk
      have hc_3 := pblk_cell (j := 3) (v := .bool false) hblk rfl
      have hf_3 := pblk_frozen (j := 3) hblk
      have HBLK := Lib.hid hblk
      clear hblk
      go_wp2_with fail
      refine freePost undef rfl ⟨(Touches.put (L := (w.heap.size + 3)) (H := (w.heap.size + 3) + 1) (Touches.put (L := (w.heap.size + 3)) (H := (w.heap.size + 3) + 1) (Touches.put (L := (w.heap.size + 3)) (H := (w.heap.size + 3) + 1) (Touches.put (L := (w.heap.size + 3)) (H := (w.heap.size + 3) + 1) Touches.refl (p := ⟨(w.heap.size + 3), 0, none⟩) ⟨Nat.le_refl _, (Nat.lt_succ_self _)⟩ _) (p := ⟨(w.heap.size + 3), 1, none⟩) ⟨Nat.le_refl _, (Nat.lt_succ_self _)⟩ _) (p := ⟨(w.heap.size + 3), 2, none⟩) ⟨Nat.le_refl _, (Nat.lt_succ_self _)⟩ _) (p := ⟨(w.heap.size + 3), 3, none⟩) ⟨Nat.le_refl _, (Nat.lt_succ_self _)⟩ _), fun x0 x1 x2 x3 h => ?_⟩
      cases (HV8.out.symm.trans ((upd_ne (by decide)).symm.trans h))
      exact (pblk_put (pblk_put (pblk_put (pblk_put HBLK.out rfl) rfl) rfl) rfl)
    · intro V L H wq hw hk hj hd
      obtain ⟨⟨hL9, hM9, hH9, hv9⟩, -⟩ := hd
      clear hv9
      go_wp2_with fail
      exact freePost _ rfl ⟨⟨WritesF.refl _ _, hj⟩, upd_self.trans (upd_ne (by decide)).symm⟩
    · intro V L H wq hw hj hd hap hdead
      obtain ⟨⟨hL0, hM0, hH0, hv0⟩, ⟨hL1, hM1, hH1, hv1⟩, ⟨hL2, hM2, hH2, hv2⟩, ⟨hL3, hM3, hH3, a9, c9, hv3, ho3_0⟩, ⟨hL4, hM4, hH4, p4, q4, hv4, ho4_0⟩, ⟨hL5, hM5, hH5, hv5⟩, ⟨hL6, hM6, hH6, hv6⟩, ⟨hL7, hM7, hH7, hv7⟩, ⟨hL8, hM8, hH8, hv8, hz8⟩, ⟨hL9, hM9, hH9, hv9⟩, ⟨hL10, hM10, hH10, hst10_⟩, ⟨hL11, hM11, hH11, hv11⟩, -⟩ := hd
      have hv8' := hv8 _ _ hv7
      have hv9' := hv9 _ _ hv7
      have hv11' := hv11.trans hv9'
      have pb10 := hst10_ _ _ _ _ hv8'
      rw [hv0, hv1, hv2, hv3, hv4, hv5, hv6, hv7, hv8', hv9', hv11']
      clear hv0 hv1 hv2 hv3 hv4 hv5 hv6 hv7 hv8' hv9' hv11' hv8 hv9 hv11
      have HBW := Lib.hid (show WritesF (fun y => y = w.heap.size + 3) w1 wq from hw.sub (fun y hy => hy.elim (fun h => h.elim) (fun h => by
        by_cases e : y = w.heap.size + 3
        · exact e
        · exact absurd (show y ≠ w.heap.size + 3 ∧ True from ⟨e, trivial⟩) h)))
      have HP := Lib.hid pb10
      clear pb10 hw hj hap hdead
      go_wp2
      refine bodyPost_ret (v := .tuple #[.agg #[.string (findAttr (symNode g t.fNodes ix) x.fName).1.fName, .int .i64 (findAttr (symNode g t.fNodes ix) x.fName).1.fType, .int .i64 (findAttr (symNode g t.fNodes ix) x.fName).1.fMode, .bool (findAttr (symNode g t.fNodes ix) x.fName).1.fCircular], .bool (findAttr (symNode g t.fNodes ix) x.fName).2]) (results_cell_tmp Try.results11 _ _ (w.heap.size + 3) 35 _ (0, 0) _ rfl HP.out Try.underlying35 rfl (by kernel_rfl)) rfl ⟨ret_find fin.out rfl, ?_⟩
      exact HB4.out.trans ((HBW.out.below (fun z h => by show w.heap.size ≤ z; have : z = w.heap.size + 3 := h; omega) HB4.out.size))
end Go.Proofs.Ytnkhjkdocaobpaa
