/-
  A list of numbers that came in.
  EvalLocal of the program.
  EvalLocal of the model.
-/
import Derived.Test.YthpnghbhfbiljaaTInt
import Derived.Test.YthpnghbhfbiljaaSceneAll
namespace Go.Proofs.Ythpnghbhfbiljaa
open Go.ChangeShapes Go.WideShapes Go.ChangeAt Go.RowKit Go.Deep

theorem arg_intS {H : Type} {enc : TypeId × Value → H} {W : World} {v : Value} {d : DataW H} {p : List MemPlace} {a0 : Option Addr} {len cap : Nat} (hv : v = .slice a0 len cap) (h : DataW.Trod enc Try.prog W 0 (fun _ => true) true 26 v d p) :
    ∃ (l : List Int) (a : Option Addr) (cap : Nat), v = .slice a l.length cap ∧ okL okI l ∧ Sl 0 W.heap.size W 1 l.length (fun k => ictI (l.getD k default)) a := by
  subst hv
  obtain ⟨fuel, hf⟩ := h
  obtain ⟨x, hx, hl, hj⟩ := opens_slice Try.underlying26 (e := 3) (n := 1) (by kernel_rfl) (by decide) fuel (fun m' _ => opens_int Try.underlying3 m') _ _ hf
  obtain ⟨u0, hu0, hl0⟩ := hj 0 (by decide)
  obtain ⟨a, c, rfl, hs⟩ := lies_sl hl0
  exact ⟨x, a, c, Option.some.inj hu0, hx, hs⟩
end Go.Proofs.Ythpnghbhfbiljaa

namespace Go.Proofs.Ythpnghbhfbiljaa
open Go.ChangeShapes Go.WideShapes Go.ChangeAt Go.RowKit Go.Deep

/-- What EvalLocal says. -/
noncomputable def evLocal (x : DExpr) (sl : List DSlot) (lit : Int) (ids : List Int) : Int := if validX x = true then evX lit ids sl x else 0
theorem valid_inv {x : DExpr} (h : validX x = true) : invX x = false := by
  unfold validX at h
  simp at h
  exact h.2

set_option maxHeartbeats 3200000 in
set_option maxRecDepth 100000 in
theorem impl_EvalLocal {hi c0_0 c1_0 c3_0 : Nat} {a6 sa ai : Option Addr} (x : DExpr) (okx : x.ok) (hsz : x.sz ≤ 1048576) (sl : List DSlot) (_ : okL DSlot.ok sl) (hl : lsz DSlot.sz sl ≤ 1048576) (lit : Int) (_ : okI lit) (ids : List Int) (_ : okL okI ids) (hid : lsz (fun _ => 0) ids ≤ 1048576) (w : World) (hhi : hi ≤ w.heap.size) (hs6 : Sf 0 hi w 7 x.fArgs.length (ctE x.fArgs) a6) (hs : Sf 0 hi w 3 sl.length (fun k => DSlot.ct (sl.getD k default)) sa) (hi1 : Sf 0 hi w 1 ids.length (fun k => ictI (ids.getD k default)) ai) :
    Calls Try.prog 11 #[.agg #[.int .i64 x.fKind, .int .i64 x.fN, .int .i64 x.fPos, .int .i64 x.fType, .string x.fSymbol, .string x.fName, .slice a6 x.fArgs.length c0_0], .slice sa sl.length c1_0, .int .i64 lit, .slice ai ids.length c3_0] w fun e w' => e = .returned (.int .i64 (evLocal x sl lit ids)) ∧ Below w.heap.size w w' := by
  have hn : ids.length ≤ 1048576 := by have := lsz_zero ids; omega
  have HB0 := Lib.hid (((Below.refl w.heap.size w).alloc (Nat.le_refl _) (.cells #[.int .i64 x.fKind, .int .i64 x.fN, .int .i64 x.fPos, .int .i64 x.fType, .string x.fSymbol, .string x.fName, .slice a6 x.fArgs.length c0_0] 32)).alloc (by simp) (.cells #[.slice sa sl.length c1_0] 34))
  have HV := Lib.hid (impl_IsValidExpr (c0_0 := c0_0) x okx hsz ((w.alloc (.cells #[.int .i64 x.fKind, .int .i64 x.fN, .int .i64 x.fPos, .int .i64 x.fType, .string x.fSymbol, .string x.fName, .slice a6 x.fArgs.length c0_0] 32)).alloc (.cells #[.slice sa sl.length c1_0] 34)) (Nat.le_trans hhi HB0.out.size) (hs6.later HB0.out hhi))
  have HX0 := Lib.hid (show ((w.alloc (.cells #[.int .i64 x.fKind, .int .i64 x.fN, .int .i64 x.fPos, .int .i64 x.fType, .string x.fSymbol, .string x.fName, .slice a6 x.fArgs.length c0_0] 32)).alloc (.cells #[.slice sa sl.length c1_0] 34)).heap[w.heap.size]? = some (.cells #[.int .i64 x.fKind, .int .i64 x.fN, .int .i64 x.fPos, .int .i64 x.fType, .string x.fSymbol, .string x.fName, .slice a6 x.fArgs.length c0_0] 32) from blk_alloc (by simp) (blk_new rfl))
  have HQ0 := Lib.hid (show ((w.alloc (.cells #[.int .i64 x.fKind, .int .i64 x.fN, .int .i64 x.fPos, .int .i64 x.fType, .string x.fSymbol, .string x.fName, .slice a6 x.fArgs.length c0_0] 32)).alloc (.cells #[.slice sa sl.length c1_0] 34)).heap[w.heap.size + 1]? = some (.cells #[.slice sa sl.length c1_0] 34) from blk_new (by simp))
  have HSZ0 := Lib.hid (show ((w.alloc (.cells #[.int .i64 x.fKind, .int .i64 x.fN, .int .i64 x.fPos, .int .i64 x.fType, .string x.fSymbol, .string x.fName, .slice a6 x.fArgs.length c0_0] 32)).alloc (.cells #[.slice sa sl.length c1_0] 34)).heap.size = w.heap.size + 2 by simp)
  cases hv : validX x
  · have FIN := Lib.hid (show evLocal x sl lit ids = 0 by unfold evLocal; rw [hv]; rfl)
    rw [hv] at HV
    clear hv hs6 hs hi1 HX0 HQ0 HSZ0 hid hn
    generalize evLocal x sl lit ids = r at *
    generalize ids.length = n3 at *
    generalize sl.length = n1 at *
    go_enter Try.func11, Try.ntmps11
    go_wp2_with fail
    refine HV.out.mono ?_
    rintro e w1 ⟨rfl, hb1⟩
    have HB1 := Lib.hid (HB0.out.trans (hb1.mono HB0.out.size))
    clear hb1
    go_wp2
    go_ret
    exact ⟨ret_i FIN.out.symm, HB1.out⟩
  · have hnv := valid_inv hv
    have FIN := Lib.hid (show evLocal x sl lit ids = evT lit ids sl (termX x) by unfold evLocal evX; rw [if_pos hv])
    rw [hv] at HV
    have HT := Lib.hid (fun (W : World) (hW : Below w.heap.size w W) => impl_termOf (c6 := c0_0) x hnv hsz W (Nat.le_trans hhi hW.size) (hs6.later hW hhi))
    have HC := Lib.hid (fun (W : World) (hW : Below w.heap.size w W) (hq : W.heap[w.heap.size + 1]? = some (.cells #[.slice sa sl.length c1_0] 34)) => scene_value (cs := c1_0) (ci := c3_0) (sa := sa) (ai := ai) lit ids sl hl hn (termX x) (good_term x hnv) W (Nat.le_trans hhi hW.size) hq (hs.sl.later hW hhi) (hi1.sl.later hW hhi))
    clear hv hnv hs6 hs hi1 hid hn
    generalize evLocal x sl lit ids = r at *
    rw [← FIN.out] at HC
    obtain ⟨tT, tV, ht⟩ := (termX x).form
    rw [ht] at HT HC
    clear ht FIN
    generalize ids.length = n3 at *
    generalize sl.length = n1 at *
    go_enter Try.func11, Try.ntmps11
    go_wp2_with fail
    refine HV.out.mono ?_
    rintro e w1 ⟨rfl, hb1⟩
    have HB1 := Lib.hid (HB0.out.trans (hb1.mono HB0.out.size))
    have HX1 := Lib.hid ((hb1.block w.heap.size (by have := HSZ0.out; omega)).trans HX0.out)
    have HQ1 := Lib.hid ((hb1.block (w.heap.size + 1) (by have := HSZ0.out; omega)).trans HQ0.out)
    have HSZ1 := Lib.hid (show w.heap.size + 2 ≤ w1.heap.size from Nat.le_trans (by rw [HSZ0.out]; exact Nat.le_refl _) hb1.size)
    clear hb1 HX0 HQ0
    have q0 := fun W => (rfl : W = (W : World))
    clear q0
    have y0 := pblk_cell (w := w1) (j := 0) (v := .int .i64 x.fKind) HX1.out rfl
    have y1 := pblk_cell (w := w1) (j := 1) (v := .int .i64 x.fN) HX1.out rfl
    have y2 := pblk_cell (w := w1) (j := 2) (v := .int .i64 x.fPos) HX1.out rfl
    have y3 := pblk_cell (w := w1) (j := 3) (v := .int .i64 x.fType) HX1.out rfl
    have y4 := pblk_cell (w := w1) (j := 4) (v := .string x.fSymbol) HX1.out rfl
    have y5 := pblk_cell (w := w1) (j := 5) (v := .string x.fName) HX1.out rfl
    have y6 := pblk_cell (w := w1) (j := 6) (v := .slice a6 x.fArgs.length c0_0) HX1.out rfl
    go_wp2_with fail
    clear y0 y1 y2 y3 y4 y5 y6
    have HB2 := Lib.hid (show Below w.heap.size w (w1.alloc (.cells #[.int .i64 lit, .slice ai n3 c3_0, .func (.func 24) #[] #[.pointer (some ⟨w.heap.size + 1, 0, none⟩)], .func (.func 26) #[] #[]] 60)) from HB1.out.alloc (by have := HSZ1.out; omega) _)
    have HX2 := Lib.hid (show (w1.alloc (.cells #[.int .i64 lit, .slice ai n3 c3_0, .func (.func 24) #[] #[.pointer (some ⟨w.heap.size + 1, 0, none⟩)], .func (.func 26) #[] #[]] 60)).heap[w.heap.size]? = some (.cells #[.int .i64 x.fKind, .int .i64 x.fN, .int .i64 x.fPos, .int .i64 x.fType, .string x.fSymbol, .string x.fName, .slice a6 x.fArgs.length c0_0] 32) from blk_alloc (by have := HSZ1.out; omega) HX1.out)
    have HQ2 := Lib.hid (show (w1.alloc (.cells #[.int .i64 lit, .slice ai n3 c3_0, .func (.func 24) #[] #[.pointer (some ⟨w.heap.size + 1, 0, none⟩)], .func (.func 26) #[] #[]] 60)).heap[w.heap.size + 1]? = some (.cells #[.slice sa n1 c1_0] 34) from blk_alloc (by have := HSZ1.out; omega) HQ1.out)
    have HS2 := Lib.hid (show (w1.alloc (.cells #[.int .i64 lit, .slice ai n3 c3_0, .func (.func 24) #[] #[.pointer (some ⟨w.heap.size + 1, 0, none⟩)], .func (.func 26) #[] #[]] 60)).heap[w1.heap.size]? = some (.cells #[.int .i64 lit, .slice ai n3 c3_0, .func (.func 24) #[] #[.pointer (some ⟨w.heap.size + 1, 0, none⟩)], .func (.func 26) #[] #[]] 60) from blk_new rfl)
    have HZ2 := Lib.hid (show (w1.alloc (.cells #[.int .i64 lit, .slice ai n3 c3_0, .func (.func 24) #[] #[.pointer (some ⟨w.heap.size + 1, 0, none⟩)], .func (.func 26) #[] #[]] 60)).heap.size = w1.heap.size + 1 by simp)
    generalize (w1.alloc (.cells #[.int .i64 lit, .slice ai n3 c3_0, .func (.func 24) #[] #[.pointer (some ⟨w.heap.size + 1, 0, none⟩)], .func (.func 26) #[] #[]] 60)) = w2 at *
    generalize hbs : w1.heap.size = bs at *
    clear hbs HB1 HX1 HQ1 HB0 HSZ0
    refine wp_region_freeK [([], .none, []), ([], .none, []), ([1], .none, []), ([0, 2], .none, []), ([3], .none, [])] [0, 1, 2, 3, 4] [] (fun _ => False) (fun _ => True) (fun _ => 0) (fun jq9 V L H wx => match jq9 with | 0 => V 0 = .agg #[.int .i64 lit, .slice ai n3 c3_0, .func (.func 24) #[] #[.pointer (some ⟨w.heap.size + 1, 0, none⟩)], .func (.func 26) #[] #[]] | 1 => V 1 = .agg #[.int .i64 x.fKind, .int .i64 x.fN, .int .i64 x.fPos, .int .i64 x.fType, .string x.fSymbol, .string x.fName, .slice a6 x.fArgs.length c0_0] | 2 => V 2 = .iface tT tV | 3 => V 3 = .int .i64 r | 4 => V 4 = .int .i64 r | _ => True) (by kernel_rfl) (by kernel_rfl) ?obs (fun _ h => h.elim) trivial (fun _ _ _ _ _ => trivial) ?loc ?lasts ?walk
    case obs =>
      trivial
    case loc =>
      intro k V V' L H wx h0 h1 hG
      match k with
      | 0 =>
        try dsimp only at hG ⊢
        rw [← h0]
        exact hG
      | 1 =>
        try dsimp only at hG ⊢
        rw [← h0]
        exact hG
      | 2 =>
        try dsimp only at hG ⊢
        rw [← h0]
        exact hG
      | 3 =>
        try dsimp only at hG ⊢
        rw [← h0]
        exact hG
      | 4 =>
        try dsimp only at hG ⊢
        rw [← h0]
        exact hG
      | n + 5 => trivial
    case lasts =>
      intro i hi V L H wx wy hB hH hk
      match i, hi with
      | 0, _ => exact fun h => h
      | 1, _ => exact fun h => h
      | 2, _ => exact fun h => h
      | 3, _ => exact fun h => h
      | 4, _ => exact fun h => h
      | n + 5, hn => exact absurd hn (by simp)
    case walk =>
      simp (maxSteps := 4000000) only [freeK, Nat.reduceAdd, Act.put, List.setIfInBounds_toArray, List.set_cons_succ, List.set_cons_zero]
      refine ⟨?_, ?_, ?_, ?_, ?_, ?_⟩
      · intro V L H wq hw hk hj hd
        clear hd
        have s0 : wq.cell? ⟨bs, 0, none⟩ = some (.int .i64 lit) := (hk.cell (p := ⟨bs, 0, none⟩) ⟨(show bs < w2.heap.size by have := HZ2.out; omega), fun h => h, trivial⟩ (show bs < w2.heap.size by have := HZ2.out; omega)).trans (pblk_cell HS2.out rfl)
        have s1 : wq.cell? ⟨bs, 1, none⟩ = some (.slice ai n3 c3_0) := (hk.cell (p := ⟨bs, 1, none⟩) ⟨(show bs < w2.heap.size by have := HZ2.out; omega), fun h => h, trivial⟩ (show bs < w2.heap.size by have := HZ2.out; omega)).trans (pblk_cell HS2.out rfl)
        have s2 : wq.cell? ⟨bs, 2, none⟩ = some (.func (.func 24) #[] #[.pointer (some ⟨w.heap.size + 1, 0, none⟩)]) := (hk.cell (p := ⟨bs, 2, none⟩) ⟨(show bs < w2.heap.size by have := HZ2.out; omega), fun h => h, trivial⟩ (show bs < w2.heap.size by have := HZ2.out; omega)).trans (pblk_cell HS2.out rfl)
        have s3 : wq.cell? ⟨bs, 3, none⟩ = some (.func (.func 26) #[] #[]) := (hk.cell (p := ⟨bs, 3, none⟩) ⟨(show bs < w2.heap.size by have := HZ2.out; omega), fun h => h, trivial⟩ (show bs < w2.heap.size by have := HZ2.out; omega)).trans (pblk_cell HS2.out rfl)
        go_wp2_with fail
        exact freePost _ rfl ⟨⟨WritesF.refl _ _, hj⟩, upd_self⟩
      · intro V L H wq hw hk hj hd
        clear hd
        have y0 : wq.cell? ⟨w.heap.size, 0, none⟩ = some (.int .i64 x.fKind) := (hk.cell (p := ⟨w.heap.size, 0, none⟩) ⟨(show w.heap.size < w2.heap.size by have := HZ2.out; have := HSZ1.out; omega), fun h => h, trivial⟩ (show w.heap.size < w2.heap.size by have := HZ2.out; have := HSZ1.out; omega)).trans (pblk_cell HX2.out rfl)
        have y1 : wq.cell? ⟨w.heap.size, 1, none⟩ = some (.int .i64 x.fN) := (hk.cell (p := ⟨w.heap.size, 1, none⟩) ⟨(show w.heap.size < w2.heap.size by have := HZ2.out; have := HSZ1.out; omega), fun h => h, trivial⟩ (show w.heap.size < w2.heap.size by have := HZ2.out; have := HSZ1.out; omega)).trans (pblk_cell HX2.out rfl)
        have y2 : wq.cell? ⟨w.heap.size, 2, none⟩ = some (.int .i64 x.fPos) := (hk.cell (p := ⟨w.heap.size, 2, none⟩) ⟨(show w.heap.size < w2.heap.size by have := HZ2.out; have := HSZ1.out; omega), fun h => h, trivial⟩ (show w.heap.size < w2.heap.size by have := HZ2.out; have := HSZ1.out; omega)).trans (pblk_cell HX2.out rfl)
        have y3 : wq.cell? ⟨w.heap.size, 3, none⟩ = some (.int .i64 x.fType) := (hk.cell (p := ⟨w.heap.size, 3, none⟩) ⟨(show w.heap.size < w2.heap.size by have := HZ2.out; have := HSZ1.out; omega), fun h => h, trivial⟩ (show w.heap.size < w2.heap.size by have := HZ2.out; have := HSZ1.out; omega)).trans (pblk_cell HX2.out rfl)
        have y4 : wq.cell? ⟨w.heap.size, 4, none⟩ = some (.string x.fSymbol) := (hk.cell (p := ⟨w.heap.size, 4, none⟩) ⟨(show w.heap.size < w2.heap.size by have := HZ2.out; have := HSZ1.out; omega), fun h => h, trivial⟩ (show w.heap.size < w2.heap.size by have := HZ2.out; have := HSZ1.out; omega)).trans (pblk_cell HX2.out rfl)
        have y5 : wq.cell? ⟨w.heap.size, 5, none⟩ = some (.string x.fName) := (hk.cell (p := ⟨w.heap.size, 5, none⟩) ⟨(show w.heap.size < w2.heap.size by have := HZ2.out; have := HSZ1.out; omega), fun h => h, trivial⟩ (show w.heap.size < w2.heap.size by have := HZ2.out; have := HSZ1.out; omega)).trans (pblk_cell HX2.out rfl)
        have y6 : wq.cell? ⟨w.heap.size, 6, none⟩ = some (.slice a6 x.fArgs.length c0_0) := (hk.cell (p := ⟨w.heap.size, 6, none⟩) ⟨(show w.heap.size < w2.heap.size by have := HZ2.out; have := HSZ1.out; omega), fun h => h, trivial⟩ (show w.heap.size < w2.heap.size by have := HZ2.out; have := HSZ1.out; omega)).trans (pblk_cell HX2.out rfl)
        go_wp2_with fail
        exact freePost _ rfl ⟨⟨WritesF.refl _ _, hj⟩, upd_self⟩
      · intro V L H wq hw hk hj hd
        obtain ⟨⟨hL1, hM1, hH1, hv1⟩, -⟩ := hd
        rw [hv1]
        have HV1 := Lib.hid hv1
        clear hv1
        go_wp2_with fail
        refine (HT.out wq (show Below w.heap.size w wq from HB2.out.trans ((fa_noneK hw).mono HB2.out.size))).mono ?_
        rintro e w3 ⟨rfl, hb2⟩
        go_wp2_with fail
        exact freePost _ rfl ⟨⟨(WritesF.refl _ _).later hb2, trivial⟩, upd_self⟩
      · intro V L H wq hw hk hj hd
        obtain ⟨⟨hL0, hM0, hH0, hv0⟩, ⟨hL2, hM2, hH2, hv2⟩, -⟩ := hd
        rw [hv0, hv2]
        have HV0 := Lib.hid hv0
        have HV2 := Lib.hid hv2
        clear hv0 hv2
        go_wp2_with fail
        refine (HC.out wq (show Below w.heap.size w wq from HB2.out.trans ((fa_noneK hw).mono HB2.out.size)) ((hk.2 (w.heap.size + 1) ⟨(show w.heap.size + 1 < w2.heap.size by have := HZ2.out; have := HSZ1.out; omega), fun h => h, trivial⟩ (show w.heap.size + 1 < w2.heap.size by have := HZ2.out; have := HSZ1.out; omega)).trans HQ2.out)).mono ?_
        rintro e w3 ⟨rfl, hb2⟩
        go_wp2_with fail
        exact freePost _ rfl ⟨⟨(WritesF.refl _ _).later hb2, trivial⟩, upd_self⟩
      · intro V L H wq hw hk hj hd
        obtain ⟨⟨hL3, hM3, hH3, hv3⟩, -⟩ := hd
        rw [hv3]
        have HV3 := Lib.hid hv3
        clear hv3
        go_wp2_with fail
        exact freePost _ rfl ⟨⟨WritesF.refl _ _, hj⟩, upd_self⟩
      · intro V L H wq hw hj hd hap hdead
        obtain ⟨⟨hL0, hM0, hH0, hv0⟩, ⟨hL1, hM1, hH1, hv1⟩, ⟨hL2, hM2, hH2, hv2⟩, ⟨hL3, hM3, hH3, hv3⟩, ⟨hL4, hM4, hH4, hv4⟩, -⟩ := hd
        rw [hv0, hv1, hv2, hv3, hv4]
        clear hv0 hv1 hv2 hv3 hv4
        have HBN := Lib.hid (HB2.out.trans ((fa_noneK hw).mono HB2.out.size))
        clear hw hj hap hdead
        go_wp2
        go_ret
        exact ⟨rfl, HBN.out⟩
end Go.Proofs.Ythpnghbhfbiljaa

namespace Go.Proofs.Ythpnghbhfbiljaa
open Go.ChangeShapes Go.WideShapes Go.ChangeAt Go.RowKit Go.Deep

section
variable (lit : Int) (ids : List Int) (sl : List DSlot)
theorem evX_1 {x : DExpr} (h : x.fKind = 1) : evX lit ids sl x = x.fN := by unfold evX; rw [termX_eq, combT_1 (show (nodeOfX x 0).fKind = 1 from h)]; rfl
theorem evX_2 {x : DExpr} (h : x.fKind = 2) : evX lit ids sl x = lit := by unfold evX; rw [termX_eq, combT_2 (show (nodeOfX x 0).fKind = 2 from h)]; rfl
theorem evX_3 {x : DExpr} (h : x.fKind = 3) : evX lit ids sl x = slotValue sl ⟨x.fPos, x.fName⟩ := by unfold evX; rw [termX_eq, combT_3 (show (nodeOfX x 0).fKind = 3 from h)]; rfl
theorem evX_4 {x : DExpr} (h : x.fKind = 4) (hn : x.fArgs.length = 2) : evX lit ids sl x = apl x.fN (evX lit ids sl (x.fArgs.getD 0 default)) (evX lit ids sl (x.fArgs.getD 1 default)) := by unfold evX; rw [termX_eq, combT_4 (show (nodeOfX x 0).fKind = 4 from h), termX_at (by omega), termX_at (by omega)]; rfl
theorem evX_5 {x : DExpr} (h : x.fKind = 5) (hn : x.fArgs.length = 3) : evX lit ids sl x = if evX lit ids sl (x.fArgs.getD 0 default) = 0 then evX lit ids sl (x.fArgs.getD 2 default) else evX lit ids sl (x.fArgs.getD 1 default) := by unfold evX; rw [termX_eq, combT_5 (show (nodeOfX x 0).fKind = 5 from h), termX_at (by omega), termX_at (by omega), termX_at (by omega)]; rfl
theorem evX_6 {x : DExpr} (h : x.fKind = 6) : evX lit ids sl x = if x.fPos < (ids.length : Int) then ids.getD x.fPos.toNat default else 0 := by unfold evX; rw [termX_eq, combT_6 (show (nodeOfX x 0).fKind = 6 from h)]; rfl
theorem evX_7 {x : DExpr} (h : x.fKind = 7) : evX lit ids sl x = 0 := by unfold evX; rw [termX_eq, combT_7 (show (nodeOfX x 0).fKind = 7 from h)]; rfl
theorem evX_8 {x : DExpr} (h : x.fKind = 8) : evX lit ids sl x = 0 := by unfold evX; rw [termX_eq, combT_8 (show (nodeOfX x 0).fKind = 8 from h)]; rfl
end

/-- The contract of l19Eval at x. -/
def SpecEval (lit : Int) (ids : List Int) (sl : List DSlot) (x : DExpr) : Prop := invX x = false → ∀ ⦃lo hi c6 cs ci : Nat⦄ ⦃a6 sa ai : Option Addr⦄ (_hsz : x.sz ≤ 1048576) (w : World) (_hhi : hi ≤ w.heap.size) (_hs6 : Sl lo hi w 7 x.fArgs.length (ctE x.fArgs) a6) (_hs : Sl lo hi w 3 sl.length (fun k => DSlot.ct (sl.getD k default)) sa) (_hi1 : Sl lo hi w 1 ids.length (fun k => ictI (ids.getD k default)) ai),
  Calls Try.prog 20 #[.agg #[.int .i64 x.fKind, .int .i64 x.fN, .int .i64 x.fPos, .int .i64 x.fType, .string x.fSymbol, .string x.fName, .slice a6 x.fArgs.length c6], .slice sa sl.length cs, .int .i64 lit, .slice ai ids.length ci] w fun e w' => e = .returned (.int .i64 (evX lit ids sl x)) ∧ Below w.heap.size w w'

set_option maxHeartbeats 3200000 in
set_option maxRecDepth 100000 in
theorem specEval_1 (lit : Int) (ids : List Int) (_ : ids.length ≤ 1048576) (sl : List DSlot) (_ : lsz DSlot.sz sl ≤ 1048576) (x : DExpr) (hk : x.fKind = 1) : SpecEval lit ids sl x := by
  intro _ lo hi c6 cs ci a6 sa ai hsz w hhi hs6 hs hi1
  rw [evX_1 lit ids sl hk]
  rw [hk]
  clear hsz hs6 hs hi1 hk
  go_enter Try.func20, Try.ntmps20
  go_wp2
  go_ret
  exact ⟨rfl, (Below.refl _ _).alloc (Nat.le_refl _) _⟩

set_option maxHeartbeats 3200000 in
set_option maxRecDepth 100000 in
theorem specEval_2 (lit : Int) (ids : List Int) (_ : ids.length ≤ 1048576) (sl : List DSlot) (_ : lsz DSlot.sz sl ≤ 1048576) (x : DExpr) (hk : x.fKind = 2) : SpecEval lit ids sl x := by
  intro _ lo hi c6 cs ci a6 sa ai hsz w hhi hs6 hs hi1
  rw [evX_2 lit ids sl hk]
  rw [hk]
  clear hsz hs6 hs hi1 hk
  go_enter Try.func20, Try.ntmps20
  go_wp2
  go_ret
  exact ⟨rfl, (Below.refl _ _).alloc (Nat.le_refl _) _⟩

set_option maxHeartbeats 3200000 in
set_option maxRecDepth 100000 in
theorem specEval_7 (lit : Int) (ids : List Int) (_ : ids.length ≤ 1048576) (sl : List DSlot) (_ : lsz DSlot.sz sl ≤ 1048576) (x : DExpr) (hk : x.fKind = 7) : SpecEval lit ids sl x := by
  intro _ lo hi c6 cs ci a6 sa ai hsz w hhi hs6 hs hi1
  rw [evX_7 lit ids sl hk]
  rw [hk]
  clear hsz hs6 hs hi1 hk
  go_enter Try.func20, Try.ntmps20
  go_wp2
  go_ret
  exact ⟨rfl, (Below.refl _ _).alloc (Nat.le_refl _) _⟩

set_option maxHeartbeats 3200000 in
set_option maxRecDepth 100000 in
theorem specEval_8 (lit : Int) (ids : List Int) (_ : ids.length ≤ 1048576) (sl : List DSlot) (_ : lsz DSlot.sz sl ≤ 1048576) (x : DExpr) (hk : x.fKind = 8) : SpecEval lit ids sl x := by
  intro _ lo hi c6 cs ci a6 sa ai hsz w hhi hs6 hs hi1
  rw [evX_8 lit ids sl hk]
  rw [hk]
  clear hsz hs6 hs hi1 hk
  go_enter Try.func20, Try.ntmps20
  go_wp2
  go_ret
  exact ⟨rfl, (Below.refl _ _).alloc (Nat.le_refl _) _⟩

set_option maxHeartbeats 3200000 in
set_option maxRecDepth 100000 in
theorem specEval_3 (lit : Int) (ids : List Int) (_ : ids.length ≤ 1048576) (sl : List DSlot) (hl : lsz DSlot.sz sl ≤ 1048576) (x : DExpr) (hk : x.fKind = 3) : SpecEval lit ids sl x := by
  intro _ lo hi c6 cs ci a6 sa ai hsz w hhi hs6 hs hi1
  have HW0 := Lib.hid ((Below.refl w.heap.size w).alloc (Nat.le_refl _) (.cells #[.int .i64 3, .int .i64 x.fN, .int .i64 x.fPos, .int .i64 x.fType, .string x.fSymbol, .string x.fName, .slice a6 x.fArgs.length c6] 32))
  have HC := Lib.hid (spec_SlotValue_of (c0_0 := cs) sl hl ⟨x.fPos, x.fName⟩ (w.alloc (.cells #[.int .i64 3, .int .i64 x.fN, .int .i64 x.fPos, .int .i64 x.fType, .string x.fSymbol, .string x.fName, .slice a6 x.fArgs.length c6] 32)) (Nat.le_trans hhi HW0.out.size) (hs.later HW0.out hhi))
  dsimp only at HC
  rw [evX_3 lit ids sl hk]
  rw [hk]
  clear hsz hs6 hs hi1 hk
  generalize slotValue sl ⟨x.fPos, x.fName⟩ = r at *
  go_enter Try.func20, Try.ntmps20
  go_wp2_with fail
  refine HC.out.mono ?_
  rintro e w1 ⟨rfl, hb1⟩
  have HB1 := Lib.hid (HW0.out.trans (hb1.mono HW0.out.size))
  clear hb1
  go_wp2
  go_ret
  exact ⟨rfl, HB1.out⟩

set_option maxHeartbeats 3200000 in
set_option maxRecDepth 100000 in
theorem specEval_6 (lit : Int) (ids : List Int) (hids : ids.length ≤ 1048576) (sl : List DSlot) (_ : lsz DSlot.sz sl ≤ 1048576) (x : DExpr) (hk : x.fKind = 6) (h0 : 0 ≤ x.fPos) : SpecEval lit ids sl x := by
  intro _ lo hi c6 cs ci a6 sa ai hsz w hhi hs6 hs hi1
  have HW0 := Lib.hid ((Below.refl w.heap.size w).alloc (Nat.le_refl _) (.cells #[.int .i64 6, .int .i64 x.fN, .int .i64 x.fPos, .int .i64 x.fType, .string x.fSymbol, .string x.fName, .slice a6 x.fArgs.length c6] 32))
  rw [evX_6 lit ids sl hk]
  rw [hk]
  clear hs6 hs hsz hk
  by_cases hlt : x.fPos < (ids.length : Int)
  · rw [if_pos hlt]
    obtain ⟨k, hkp⟩ : ∃ k : Nat, x.fPos = (k : Int) := ⟨x.fPos.toNat, by omega⟩
    have hki : k < ids.length := by omega
    have HI := Lib.hid (fun W => (by have h := spec_l1In x.fPos 0 (ids.length - 1) W; rw [inR_yes h0 (by omega)] at h; exact h))
    have HX := Lib.hid ((hi1.later HW0.out hhi).at k hki)
    clear hi1 h0
    obtain ⟨b, off, rfl, _, _, hc⟩ := HX.out
    have hx := open_Int hc
    rw [Nat.mul_one] at hx
    rw [hkp] at hlt HI hx ⊢
    rw [Int.toNat_natCast]
    clear hc HX hkp HW0
    generalize ids.getD k default = z at *
    generalize ids.length = n at *
    generalize x.fArgs.length = m at *
    go_enter Try.func20, Try.ntmps20
    go_wp2_with fail
    refine (HI.out _).mono ?_
    rintro e w1 ⟨rfl, rfl⟩
    go_wp2
    go_ret
    exact ⟨rfl, (Below.refl _ _).alloc (Nat.le_refl _) _⟩
  · rw [if_neg hlt]
    have HI := Lib.hid (fun W => (by have h := spec_l1In x.fPos 0 (ids.length - 1) W; rw [inR_no (by omega)] at h; exact h))
    clear hi1 h0 hlt
    generalize ids.length = n at *
    generalize x.fArgs.length = m at *
    go_enter Try.func20, Try.ntmps20
    go_wp2_with fail
    refine (HI.out _).mono ?_
    rintro e w1 ⟨rfl, rfl⟩
    go_wp2
    go_ret
    exact ⟨rfl, (Below.refl _ _).alloc (Nat.le_refl _) _⟩

set_option maxHeartbeats 3200000 in
set_option maxRecDepth 100000 in
theorem specEval_4 (lit : Int) (ids : List Int) (_ : ids.length ≤ 1048576) (sl : List DSlot) (_ : lsz DSlot.sz sl ≤ 1048576) (x : DExpr) (hk : x.fKind = 4) (ih : ∀ a ∈ x.fArgs, SpecEval lit ids sl a) (hv : ∀ a ∈ x.fArgs, invX a = false) (hna : x.fArgs.length = 2) : SpecEval lit ids sl x := by
  intro _ lo hi c6 cs ci a6 sa ai hsz w hhi hs6 hs hi1
  have HZ := Lib.hid hsz
  have IH := Lib.hid ih
  have HV := Lib.hid hv
  have HW0 := Lib.hid ((Below.refl w.heap.size w).alloc (Nat.le_refl _) (.cells #[.int .i64 4, .int .i64 x.fN, .int .i64 x.fPos, .int .i64 x.fType, .string x.fSymbol, .string x.fName, .slice a6 x.fArgs.length c6] 32))
  have HX0 := Lib.hid (show (w.alloc (.cells #[.int .i64 4, .int .i64 x.fN, .int .i64 x.fPos, .int .i64 x.fType, .string x.fSymbol, .string x.fName, .slice a6 x.fArgs.length c6] 32)).heap[w.heap.size]? = some (.cells #[.int .i64 4, .int .i64 x.fN, .int .i64 x.fPos, .int .i64 x.fType, .string x.fSymbol, .string x.fName, .slice a6 x.fArgs.length c6] 32) from blk_new rfl)
  have HSZ := Lib.hid (show (w.alloc (.cells #[.int .i64 4, .int .i64 x.fN, .int .i64 x.fPos, .int .i64 x.fType, .string x.fSymbol, .string x.fName, .slice a6 x.fArgs.length c6] 32)).heap.size = w.heap.size + 1 by simp)
  have HL := Lib.hid (fun (W : World) (hW : Below w.heap.size w W) => (show Sl lo hi W 3 sl.length (fun k => DSlot.ct (sl.getD k default)) sa ∧ Sl lo hi W 1 ids.length (fun k => ictI (ids.getD k default)) ai from ⟨hs.later hW hhi, hi1.later hW hhi⟩))
  have HHI := Lib.hid hhi
  have hszx := HZ.out
  rw [DExpr.sz_eq] at hszx
  have FIN := Lib.hid (evX_4 lit ids sl hk hna)
  have hsl := hs6.later HW0.out hhi
  have HNL := Lib.hid hna
  clear hsz ih hv hs6 hs hi1 hna
  rw [hk]
  clear hk
  obtain ⟨rb, ro, rfl, _, hrb, _⟩ := hsl.at 0 (by rw [HNL.out]; decide)
  have HAT := Lib.hid (show ∀ k, k < x.fArgs.length → _ from fun k hk => by
    obtain ⟨b', o', e', _, _, hc⟩ := hsl.at k hk
    simp only [Option.some.injEq, Addr.mk.injEq, and_true] at e'
    obtain ⟨rfl, rfl⟩ := e'
    exact hc)
  have HRB := Lib.hid (show rb < (w.alloc (.cells #[.int .i64 4, .int .i64 x.fN, .int .i64 x.fPos, .int .i64 x.fType, .string x.fSymbol, .string x.fName, .slice (some ⟨rb, ro, none⟩) x.fArgs.length c6] 32)).heap.size from Nat.lt_of_lt_of_le hrb (Nat.le_trans hhi HW0.out.size))
  clear hrb
  have hk0 : 0 < x.fArgs.length := by rw [HNL.out]; decide
  have ha0 := HAT.out 0 hk0
  rw [ctE_at hk0] at ha0
  obtain ⟨a0_, c0_, A00, A01, A02, A03, A04, A05, A06, S0_⟩ := DExpr.open ha0
  have Z0 := szle_at (f := DExpr.sz) x.fArgs 0 hk0
  have HM0 := Lib.hid (fun (W : World) (hW : Below (w.alloc (.cells #[.int .i64 4, .int .i64 x.fN, .int .i64 x.fPos, .int .i64 x.fType, .string x.fSymbol, .string x.fName, .slice (some ⟨rb, ro, none⟩) x.fArgs.length c6] 32)).heap.size (w.alloc (.cells #[.int .i64 4, .int .i64 x.fN, .int .i64 x.fPos, .int .i64 x.fType, .string x.fSymbol, .string x.fName, .slice (some ⟨rb, ro, none⟩) x.fArgs.length c6] 32)) W) => IH.out _ (getD_mem hk0) (HV.out _ (getD_mem hk0)) (c6 := c0_) (cs := cs) (ci := ci) (by omega) W (Nat.le_trans (Nat.le_trans HHI.out HW0.out.size) hW.size) (S0_.later (hW.mono (Nat.le_trans HHI.out HW0.out.size)) (Nat.le_refl _)) (HL.out W (HW0.out.trans (hW.mono HW0.out.size))).1 (HL.out W (HW0.out.trans (hW.mono HW0.out.size))).2)
  have hk1 : 1 < x.fArgs.length := by rw [HNL.out]; decide
  have ha1 := HAT.out 1 hk1
  rw [ctE_at hk1] at ha1
  obtain ⟨a1_, c1_, A10, A11, A12, A13, A14, A15, A16, S1_⟩ := DExpr.open ha1
  have Z1 := szle_at (f := DExpr.sz) x.fArgs 1 hk1
  have HM1 := Lib.hid (fun (W : World) (hW : Below (w.alloc (.cells #[.int .i64 4, .int .i64 x.fN, .int .i64 x.fPos, .int .i64 x.fType, .string x.fSymbol, .string x.fName, .slice (some ⟨rb, ro, none⟩) x.fArgs.length c6] 32)).heap.size (w.alloc (.cells #[.int .i64 4, .int .i64 x.fN, .int .i64 x.fPos, .int .i64 x.fType, .string x.fSymbol, .string x.fName, .slice (some ⟨rb, ro, none⟩) x.fArgs.length c6] 32)) W) => IH.out _ (getD_mem hk1) (HV.out _ (getD_mem hk1)) (c6 := c1_) (cs := cs) (ci := ci) (by omega) W (Nat.le_trans (Nat.le_trans HHI.out HW0.out.size) hW.size) (S1_.later (hW.mono (Nat.le_trans HHI.out HW0.out.size)) (Nat.le_refl _)) (HL.out W (HW0.out.trans (hW.mono HW0.out.size))).1 (HL.out W (HW0.out.trans (hW.mono HW0.out.size))).2)
  clear hsl HAT IH HV HL
  have C00 := Lib.hid (show (w.alloc (.cells #[.int .i64 4, .int .i64 x.fN, .int .i64 x.fPos, .int .i64 x.fType, .string x.fSymbol, .string x.fName, .slice (some ⟨rb, ro, none⟩) x.fArgs.length c6] 32)).cell? ⟨rb, ro, none⟩ = some (.int .i64 (x.fArgs.getD 0 default).fKind) from A00)
  have C01 := Lib.hid (show (w.alloc (.cells #[.int .i64 4, .int .i64 x.fN, .int .i64 x.fPos, .int .i64 x.fType, .string x.fSymbol, .string x.fName, .slice (some ⟨rb, ro, none⟩) x.fArgs.length c6] 32)).cell? ⟨rb, ro + 1, none⟩ = some (.int .i64 (x.fArgs.getD 0 default).fN) from A01)
  have C02 := Lib.hid (show (w.alloc (.cells #[.int .i64 4, .int .i64 x.fN, .int .i64 x.fPos, .int .i64 x.fType, .string x.fSymbol, .string x.fName, .slice (some ⟨rb, ro, none⟩) x.fArgs.length c6] 32)).cell? ⟨rb, ro + 2, none⟩ = some (.int .i64 (x.fArgs.getD 0 default).fPos) from A02)
  have C03 := Lib.hid (show (w.alloc (.cells #[.int .i64 4, .int .i64 x.fN, .int .i64 x.fPos, .int .i64 x.fType, .string x.fSymbol, .string x.fName, .slice (some ⟨rb, ro, none⟩) x.fArgs.length c6] 32)).cell? ⟨rb, ro + 3, none⟩ = some (.int .i64 (x.fArgs.getD 0 default).fType) from A03)
  have C04 := Lib.hid (show (w.alloc (.cells #[.int .i64 4, .int .i64 x.fN, .int .i64 x.fPos, .int .i64 x.fType, .string x.fSymbol, .string x.fName, .slice (some ⟨rb, ro, none⟩) x.fArgs.length c6] 32)).cell? ⟨rb, ro + 4, none⟩ = some (.string (x.fArgs.getD 0 default).fSymbol) from A04)
  have C05 := Lib.hid (show (w.alloc (.cells #[.int .i64 4, .int .i64 x.fN, .int .i64 x.fPos, .int .i64 x.fType, .string x.fSymbol, .string x.fName, .slice (some ⟨rb, ro, none⟩) x.fArgs.length c6] 32)).cell? ⟨rb, ro + 5, none⟩ = some (.string (x.fArgs.getD 0 default).fName) from A05)
  have C06 := Lib.hid (show (w.alloc (.cells #[.int .i64 4, .int .i64 x.fN, .int .i64 x.fPos, .int .i64 x.fType, .string x.fSymbol, .string x.fName, .slice (some ⟨rb, ro, none⟩) x.fArgs.length c6] 32)).cell? ⟨rb, ro + 6, none⟩ = some (.slice a0_ (x.fArgs.getD 0 default).fArgs.length c0_) from A06)
  clear ha0 A00 A01 A02 A03 A04 A05 A06 S0_ Z0 hk0
  generalize x.fArgs.getD 0 default = y0 at *
  generalize evX lit ids sl y0 = z0 at *
  have C10 := Lib.hid (show (w.alloc (.cells #[.int .i64 4, .int .i64 x.fN, .int .i64 x.fPos, .int .i64 x.fType, .string x.fSymbol, .string x.fName, .slice (some ⟨rb, ro, none⟩) x.fArgs.length c6] 32)).cell? ⟨rb, ro + 7, none⟩ = some (.int .i64 (x.fArgs.getD 1 default).fKind) from A10)
  have C11 := Lib.hid (show (w.alloc (.cells #[.int .i64 4, .int .i64 x.fN, .int .i64 x.fPos, .int .i64 x.fType, .string x.fSymbol, .string x.fName, .slice (some ⟨rb, ro, none⟩) x.fArgs.length c6] 32)).cell? ⟨rb, ro + 8, none⟩ = some (.int .i64 (x.fArgs.getD 1 default).fN) from A11)
  have C12 := Lib.hid (show (w.alloc (.cells #[.int .i64 4, .int .i64 x.fN, .int .i64 x.fPos, .int .i64 x.fType, .string x.fSymbol, .string x.fName, .slice (some ⟨rb, ro, none⟩) x.fArgs.length c6] 32)).cell? ⟨rb, ro + 9, none⟩ = some (.int .i64 (x.fArgs.getD 1 default).fPos) from A12)
  have C13 := Lib.hid (show (w.alloc (.cells #[.int .i64 4, .int .i64 x.fN, .int .i64 x.fPos, .int .i64 x.fType, .string x.fSymbol, .string x.fName, .slice (some ⟨rb, ro, none⟩) x.fArgs.length c6] 32)).cell? ⟨rb, ro + 10, none⟩ = some (.int .i64 (x.fArgs.getD 1 default).fType) from A13)
  have C14 := Lib.hid (show (w.alloc (.cells #[.int .i64 4, .int .i64 x.fN, .int .i64 x.fPos, .int .i64 x.fType, .string x.fSymbol, .string x.fName, .slice (some ⟨rb, ro, none⟩) x.fArgs.length c6] 32)).cell? ⟨rb, ro + 11, none⟩ = some (.string (x.fArgs.getD 1 default).fSymbol) from A14)
  have C15 := Lib.hid (show (w.alloc (.cells #[.int .i64 4, .int .i64 x.fN, .int .i64 x.fPos, .int .i64 x.fType, .string x.fSymbol, .string x.fName, .slice (some ⟨rb, ro, none⟩) x.fArgs.length c6] 32)).cell? ⟨rb, ro + 12, none⟩ = some (.string (x.fArgs.getD 1 default).fName) from A15)
  have C16 := Lib.hid (show (w.alloc (.cells #[.int .i64 4, .int .i64 x.fN, .int .i64 x.fPos, .int .i64 x.fType, .string x.fSymbol, .string x.fName, .slice (some ⟨rb, ro, none⟩) x.fArgs.length c6] 32)).cell? ⟨rb, ro + 13, none⟩ = some (.slice a1_ (x.fArgs.getD 1 default).fArgs.length c1_) from A16)
  clear ha1 A10 A11 A12 A13 A14 A15 A16 S1_ Z1 hk1
  generalize x.fArgs.getD 1 default = y1 at *
  generalize evX lit ids sl y1 = z1 at *
  clear hszx HZ
  rw [FIN.out]
  clear FIN
  generalize ids.length = ni at *
  generalize sl.length = ns at *
  rw [HNL.out] at HW0 HX0 HSZ HRB HM0 HM1 C00 C01 C02 C03 C04 C05 C06 C10 C11 C12 C13 C14 C15 C16 ⊢
  generalize hza : apl x.fN z0 z1 = za
  have HA := Lib.hid (fun W => (by have h := spec_ApplyOp x.fN z0 z1 W; rw [hza] at h; exact h))
  clear hza HNL
  go_enter Try.func20, Try.ntmps20
  go_wp2_with fail
  generalize (w.alloc (.cells #[.int .i64 4, .int .i64 x.fN, .int .i64 x.fPos, .int .i64 x.fType, .string x.fSymbol, .string x.fName, .slice (some ⟨rb, ro, none⟩) 2 c6] 32)) = w0 at *
  refine wp_region_freeK [([], .none, []), ([0], .none, []), ([], .none, []), ([2], .none, []), ([3], .none, []), ([4], .none, []), ([], .none, []), ([], .none, []), ([], .none, []), ([5, 6, 7, 8], .none, []), ([], .none, []), ([10], .none, []), ([11], .none, []), ([12], .none, []), ([], .none, []), ([], .none, []), ([], .none, []), ([13, 14, 15, 16], .none, []), ([1, 9, 17], .none, []), ([18], .none, [])] [0, 1, 2, 3, 4, 5, 6, 7, 8, 9, 10, 11, 12, 13, 14, 15, 16, 17, 18, 19] [] (fun _ => False) (fun _ => True) (fun _ => 0) (fun jq9 V L H wx => match jq9 with | 0 => V 0 = .pointer (some ⟨w.heap.size, 1, none⟩) | 1 => V 1 = .int .i64 x.fN | 2 => V 2 = .pointer (some ⟨w.heap.size, 6, none⟩) | 3 => V 3 = .slice (some ⟨rb, ro, none⟩) 2 c6 | 4 => V 4 = .pointer (some ⟨rb, ro, none⟩) | 5 => V 5 = .agg #[.int .i64 y0.fKind, .int .i64 y0.fN, .int .i64 y0.fPos, .int .i64 y0.fType, .string y0.fSymbol, .string y0.fName, .slice a0_ y0.fArgs.length c0_] | 6 => V 6 = .slice sa ns cs | 7 => V 7 = .int .i64 lit | 8 => V 8 = .slice ai ni ci | 9 => V 9 = .int .i64 z0 | 10 => V 10 = .pointer (some ⟨w.heap.size, 6, none⟩) | 11 => V 11 = .slice (some ⟨rb, ro, none⟩) 2 c6 | 12 => V 12 = .pointer (some ⟨rb, ro + 7, none⟩) | 13 => V 13 = .agg #[.int .i64 y1.fKind, .int .i64 y1.fN, .int .i64 y1.fPos, .int .i64 y1.fType, .string y1.fSymbol, .string y1.fName, .slice a1_ y1.fArgs.length c1_] | 14 => V 14 = .slice sa ns cs | 15 => V 15 = .int .i64 lit | 16 => V 16 = .slice ai ni ci | 17 => V 17 = .int .i64 z1 | 18 => V 18 = .int .i64 za | 19 => V 19 = .int .i64 za | _ => True) (by kernel_rfl) (by kernel_rfl) ?obs (fun _ h => h.elim) trivial (fun _ _ _ _ _ => trivial) ?loc ?lasts ?walk
  case obs =>
    trivial
  case loc =>
    intro k V V' L H wx h0 h1 hG
    match k with
    | 0 =>
      try dsimp only at hG ⊢
      rw [← h0]
      exact hG
    | 1 =>
      try dsimp only at hG ⊢
      rw [← h0]
      exact hG
    | 2 =>
      try dsimp only at hG ⊢
      rw [← h0]
      exact hG
    | 3 =>
      try dsimp only at hG ⊢
      rw [← h0]
      exact hG
    | 4 =>
      try dsimp only at hG ⊢
      rw [← h0]
      exact hG
    | 5 =>
      try dsimp only at hG ⊢
      rw [← h0]
      exact hG
    | 6 =>
      try dsimp only at hG ⊢
      rw [← h0]
      exact hG
    | 7 =>
      try dsimp only at hG ⊢
      rw [← h0]
      exact hG
    | 8 =>
      try dsimp only at hG ⊢
      rw [← h0]
      exact hG
    | 9 =>
      try dsimp only at hG ⊢
      rw [← h0]
      exact hG
    | 10 =>
      try dsimp only at hG ⊢
      rw [← h0]
      exact hG
    | 11 =>
      try dsimp only at hG ⊢
      rw [← h0]
      exact hG
    | 12 =>
      try dsimp only at hG ⊢
      rw [← h0]
      exact hG
    | 13 =>
      try dsimp only at hG ⊢
      rw [← h0]
      exact hG
    | 14 =>
      try dsimp only at hG ⊢
      rw [← h0]
      exact hG
    | 15 =>
      try dsimp only at hG ⊢
      rw [← h0]
      exact hG
    | 16 =>
      try dsimp only at hG ⊢
      rw [← h0]
      exact hG
    | 17 =>
      try dsimp only at hG ⊢
      rw [← h0]
      exact hG
    | 18 =>
      try dsimp only at hG ⊢
      rw [← h0]
      exact hG
    | 19 =>
      try dsimp only at hG ⊢
      rw [← h0]
      exact hG
    | n + 20 => trivial
  case lasts =>
    intro i hi V L H wx wy hB hH hk
    match i, hi with
    | 0, _ => exact fun h => h
    | 1, _ => exact fun h => h
    | 2, _ => exact fun h => h
    | 3, _ => exact fun h => h
    | 4, _ => exact fun h => h
    | 5, _ => exact fun h => h
    | 6, _ => exact fun h => h
    | 7, _ => exact fun h => h
    | 8, _ => exact fun h => h
    | 9, _ => exact fun h => h
    | 10, _ => exact fun h => h
    | 11, _ => exact fun h => h
    | 12, _ => exact fun h => h
    | 13, _ => exact fun h => h
    | 14, _ => exact fun h => h
    | 15, _ => exact fun h => h
    | 16, _ => exact fun h => h
    | 17, _ => exact fun h => h
    | 18, _ => exact fun h => h
    | 19, _ => exact fun h => h
    | n + 20, hn => exact absurd hn (by simp)
  case walk =>
    simp (maxSteps := 4000000) only [freeK, Nat.reduceAdd, Act.put, List.setIfInBounds_toArray, List.set_cons_succ, List.set_cons_zero]
    refine ⟨?_, ?_, ?_, ?_, ?_, ?_, ?_, ?_, ?_, ?_, ?_, ?_, ?_, ?_, ?_, ?_, ?_, ?_, ?_, ?_, ?_⟩
    · intro V L H wq hw hk hj hd
      clear hd
      go_wp2_with fail
      exact freePost _ rfl ⟨⟨WritesF.refl _ _, hj⟩, upd_self⟩
    · intro V L H wq hw hk hj hd
      obtain ⟨⟨hL0, hM0, hH0, hv0⟩, -⟩ := hd
      rw [hv0]
      have HV0 := Lib.hid hv0
      clear hv0
      have p1 : wq.cell? ⟨w.heap.size, 1, none⟩ = some (.int .i64 x.fN) := (hk.cell (p := ⟨w.heap.size, 1, none⟩) ⟨(show w.heap.size < w0.heap.size by have := HSZ.out; omega), fun h => h, trivial⟩ (show w.heap.size < w0.heap.size by have := HSZ.out; omega)).trans (pblk_cell HX0.out rfl)
      go_wp2_with fail
      exact freePost _ rfl ⟨⟨WritesF.refl _ _, hj⟩, upd_self⟩
    · intro V L H wq hw hk hj hd
      clear hd
      go_wp2_with fail
      exact freePost _ rfl ⟨⟨WritesF.refl _ _, hj⟩, upd_self⟩
    · intro V L H wq hw hk hj hd
      obtain ⟨⟨hL2, hM2, hH2, hv2⟩, -⟩ := hd
      rw [hv2]
      have HV2 := Lib.hid hv2
      clear hv2
      have p6 : wq.cell? ⟨w.heap.size, 6, none⟩ = some (.slice (some ⟨rb, ro, none⟩) 2 c6) := (hk.cell (p := ⟨w.heap.size, 6, none⟩) ⟨(show w.heap.size < w0.heap.size by have := HSZ.out; omega), fun h => h, trivial⟩ (show w.heap.size < w0.heap.size by have := HSZ.out; omega)).trans (pblk_cell HX0.out rfl)
      go_wp2_with fail
      exact freePost _ rfl ⟨⟨WritesF.refl _ _, hj⟩, upd_self⟩
    · intro V L H wq hw hk hj hd
      obtain ⟨⟨hL3, hM3, hH3, hv3⟩, -⟩ := hd
      rw [hv3]
      have HV3 := Lib.hid hv3
      clear hv3
      go_wp2_with fail
      exact freePost _ rfl ⟨⟨WritesF.refl _ _, hj⟩, upd_self⟩
    · intro V L H wq hw hk hj hd
      obtain ⟨⟨hL4, hM4, hH4, hv4⟩, -⟩ := hd
      rw [hv4]
      have HV4 := Lib.hid hv4
      clear hv4
      have q0 : wq.cell? ⟨rb, ro, none⟩ = some (.int .i64 y0.fKind) := (hk.cell (p := ⟨rb, ro, none⟩) ⟨HRB.out, fun h => h, trivial⟩ HRB.out).trans C00.out
      have q1 : wq.cell? ⟨rb, ro + 1, none⟩ = some (.int .i64 y0.fN) := (hk.cell (p := ⟨rb, ro + 1, none⟩) ⟨HRB.out, fun h => h, trivial⟩ HRB.out).trans C01.out
      have q2 : wq.cell? ⟨rb, ro + 2, none⟩ = some (.int .i64 y0.fPos) := (hk.cell (p := ⟨rb, ro + 2, none⟩) ⟨HRB.out, fun h => h, trivial⟩ HRB.out).trans C02.out
      have q3 : wq.cell? ⟨rb, ro + 3, none⟩ = some (.int .i64 y0.fType) := (hk.cell (p := ⟨rb, ro + 3, none⟩) ⟨HRB.out, fun h => h, trivial⟩ HRB.out).trans C03.out
      have q4 : wq.cell? ⟨rb, ro + 4, none⟩ = some (.string y0.fSymbol) := (hk.cell (p := ⟨rb, ro + 4, none⟩) ⟨HRB.out, fun h => h, trivial⟩ HRB.out).trans C04.out
      have q5 : wq.cell? ⟨rb, ro + 5, none⟩ = some (.string y0.fName) := (hk.cell (p := ⟨rb, ro + 5, none⟩) ⟨HRB.out, fun h => h, trivial⟩ HRB.out).trans C05.out
      have q6 : wq.cell? ⟨rb, ro + 6, none⟩ = some (.slice a0_ y0.fArgs.length c0_) := (hk.cell (p := ⟨rb, ro + 6, none⟩) ⟨HRB.out, fun h => h, trivial⟩ HRB.out).trans C06.out
      go_wp2_with fail
      exact freePost _ rfl ⟨⟨WritesF.refl _ _, hj⟩, upd_self⟩
    · intro V L H wq hw hk hj hd
      clear hd
      go_wp2_with fail
      exact freePost _ rfl ⟨⟨WritesF.refl _ _, hj⟩, upd_self⟩
    · intro V L H wq hw hk hj hd
      clear hd
      go_wp2_with fail
      exact freePost _ rfl ⟨⟨WritesF.refl _ _, hj⟩, upd_self⟩
    · intro V L H wq hw hk hj hd
      clear hd
      go_wp2_with fail
      exact freePost _ rfl ⟨⟨WritesF.refl _ _, hj⟩, upd_self⟩
    · intro V L H wq hw hk hj hd
      obtain ⟨⟨hL5, hM5, hH5, hv5⟩, ⟨hL6, hM6, hH6, hv6⟩, ⟨hL7, hM7, hH7, hv7⟩, ⟨hL8, hM8, hH8, hv8⟩, -⟩ := hd
      rw [hv5, hv6, hv7, hv8]
      have HV5 := Lib.hid hv5
      have HV6 := Lib.hid hv6
      have HV7 := Lib.hid hv7
      have HV8 := Lib.hid hv8
      clear hv5 hv6 hv7 hv8
      go_wp2_with fail
      refine (HM0.out wq ((fa_noneK hw))).mono ?_
      rintro e w2 ⟨rfl, hb2⟩
      go_wp2_with fail
      exact freePost _ rfl ⟨⟨(WritesF.refl _ _).later hb2, trivial⟩, upd_self⟩
    · intro V L H wq hw hk hj hd
      clear hd
      go_wp2_with fail
      exact freePost _ rfl ⟨⟨WritesF.refl _ _, hj⟩, upd_self⟩
    · intro V L H wq hw hk hj hd
      obtain ⟨⟨hL10, hM10, hH10, hv10⟩, -⟩ := hd
      rw [hv10]
      have HV10 := Lib.hid hv10
      clear hv10
      have p6 : wq.cell? ⟨w.heap.size, 6, none⟩ = some (.slice (some ⟨rb, ro, none⟩) 2 c6) := (hk.cell (p := ⟨w.heap.size, 6, none⟩) ⟨(show w.heap.size < w0.heap.size by have := HSZ.out; omega), fun h => h, trivial⟩ (show w.heap.size < w0.heap.size by have := HSZ.out; omega)).trans (pblk_cell HX0.out rfl)
      go_wp2_with fail
      exact freePost _ rfl ⟨⟨WritesF.refl _ _, hj⟩, upd_self⟩
    · intro V L H wq hw hk hj hd
      obtain ⟨⟨hL11, hM11, hH11, hv11⟩, -⟩ := hd
      rw [hv11]
      have HV11 := Lib.hid hv11
      clear hv11
      go_wp2_with fail
      exact freePost _ rfl ⟨⟨WritesF.refl _ _, hj⟩, upd_self⟩
    · intro V L H wq hw hk hj hd
      obtain ⟨⟨hL12, hM12, hH12, hv12⟩, -⟩ := hd
      rw [hv12]
      have HV12 := Lib.hid hv12
      clear hv12
      have q0 : wq.cell? ⟨rb, ro + 7, none⟩ = some (.int .i64 y1.fKind) := (hk.cell (p := ⟨rb, ro + 7, none⟩) ⟨HRB.out, fun h => h, trivial⟩ HRB.out).trans C10.out
      have q1 : wq.cell? ⟨rb, ro + 8, none⟩ = some (.int .i64 y1.fN) := (hk.cell (p := ⟨rb, ro + 8, none⟩) ⟨HRB.out, fun h => h, trivial⟩ HRB.out).trans C11.out
      have q2 : wq.cell? ⟨rb, ro + 9, none⟩ = some (.int .i64 y1.fPos) := (hk.cell (p := ⟨rb, ro + 9, none⟩) ⟨HRB.out, fun h => h, trivial⟩ HRB.out).trans C12.out
      have q3 : wq.cell? ⟨rb, ro + 10, none⟩ = some (.int .i64 y1.fType) := (hk.cell (p := ⟨rb, ro + 10, none⟩) ⟨HRB.out, fun h => h, trivial⟩ HRB.out).trans C13.out
      have q4 : wq.cell? ⟨rb, ro + 11, none⟩ = some (.string y1.fSymbol) := (hk.cell (p := ⟨rb, ro + 11, none⟩) ⟨HRB.out, fun h => h, trivial⟩ HRB.out).trans C14.out
      have q5 : wq.cell? ⟨rb, ro + 12, none⟩ = some (.string y1.fName) := (hk.cell (p := ⟨rb, ro + 12, none⟩) ⟨HRB.out, fun h => h, trivial⟩ HRB.out).trans C15.out
      have q6 : wq.cell? ⟨rb, ro + 13, none⟩ = some (.slice a1_ y1.fArgs.length c1_) := (hk.cell (p := ⟨rb, ro + 13, none⟩) ⟨HRB.out, fun h => h, trivial⟩ HRB.out).trans C16.out
      go_wp2_with fail
      exact freePost _ rfl ⟨⟨WritesF.refl _ _, hj⟩, upd_self⟩
    · intro V L H wq hw hk hj hd
      clear hd
      go_wp2_with fail
      exact freePost _ rfl ⟨⟨WritesF.refl _ _, hj⟩, upd_self⟩
    · intro V L H wq hw hk hj hd
      clear hd
      go_wp2_with fail
      exact freePost _ rfl ⟨⟨WritesF.refl _ _, hj⟩, upd_self⟩
    · intro V L H wq hw hk hj hd
      clear hd
      go_wp2_with fail
      exact freePost _ rfl ⟨⟨WritesF.refl _ _, hj⟩, upd_self⟩
    · intro V L H wq hw hk hj hd
      obtain ⟨⟨hL13, hM13, hH13, hv13⟩, ⟨hL14, hM14, hH14, hv14⟩, ⟨hL15, hM15, hH15, hv15⟩, ⟨hL16, hM16, hH16, hv16⟩, -⟩ := hd
      rw [hv13, hv14, hv15, hv16]
      have HV13 := Lib.hid hv13
      have HV14 := Lib.hid hv14
      have HV15 := Lib.hid hv15
      have HV16 := Lib.hid hv16
      clear hv13 hv14 hv15 hv16
      go_wp2_with fail
      refine (HM1.out wq ((fa_noneK hw))).mono ?_
      rintro e w2 ⟨rfl, hb2⟩
      go_wp2_with fail
      exact freePost _ rfl ⟨⟨(WritesF.refl _ _).later hb2, trivial⟩, upd_self⟩
    · intro V L H wq hw hk hj hd
      obtain ⟨⟨hL1, hM1, hH1, hv1⟩, ⟨hL9, hM9, hH9, hv9⟩, ⟨hL17, hM17, hH17, hv17⟩, -⟩ := hd
      rw [hv1, hv9, hv17]
      have HV1 := Lib.hid hv1
      have HV9 := Lib.hid hv9
      have HV17 := Lib.hid hv17
      clear hv1 hv9 hv17
      go_wp2_with fail
      refine (HA.out wq).mono ?_
      rintro e w2 ⟨rfl, rfl⟩
      have hb2 : Below wq.heap.size wq wq := Below.refl _ _
      go_wp2_with fail
      exact freePost _ rfl ⟨⟨(WritesF.refl _ _).later hb2, trivial⟩, upd_self⟩
    · intro V L H wq hw hk hj hd
      obtain ⟨⟨hL18, hM18, hH18, hv18⟩, -⟩ := hd
      rw [hv18]
      have HV18 := Lib.hid hv18
      clear hv18
      go_wp2_with fail
      exact freePost _ rfl ⟨⟨WritesF.refl _ _, hj⟩, upd_self⟩
    · intro V L H wq hw hj hd hap hdead
      obtain ⟨⟨hL0, hM0, hH0, hv0⟩, ⟨hL1, hM1, hH1, hv1⟩, ⟨hL2, hM2, hH2, hv2⟩, ⟨hL3, hM3, hH3, hv3⟩, ⟨hL4, hM4, hH4, hv4⟩, ⟨hL5, hM5, hH5, hv5⟩, ⟨hL6, hM6, hH6, hv6⟩, ⟨hL7, hM7, hH7, hv7⟩, ⟨hL8, hM8, hH8, hv8⟩, ⟨hL9, hM9, hH9, hv9⟩, ⟨hL10, hM10, hH10, hv10⟩, ⟨hL11, hM11, hH11, hv11⟩, ⟨hL12, hM12, hH12, hv12⟩, ⟨hL13, hM13, hH13, hv13⟩, ⟨hL14, hM14, hH14, hv14⟩, ⟨hL15, hM15, hH15, hv15⟩, ⟨hL16, hM16, hH16, hv16⟩, ⟨hL17, hM17, hH17, hv17⟩, ⟨hL18, hM18, hH18, hv18⟩, ⟨hL19, hM19, hH19, hv19⟩, -⟩ := hd
      rw [hv0, hv1, hv2, hv3, hv4, hv5, hv6, hv7, hv8, hv9, hv10, hv11, hv12, hv13, hv14, hv15, hv16, hv17, hv18, hv19]
      clear hv0 hv1 hv2 hv3 hv4 hv5 hv6 hv7 hv8 hv9 hv10 hv11 hv12 hv13 hv14 hv15 hv16 hv17 hv18 hv19
      have HBN := Lib.hid (HW0.out.trans ((fa_noneK hw).mono HW0.out.size))
      clear hw hj hap hdead
      go_wp2
      go_ret
      exact ⟨rfl, HBN.out⟩

set_option maxHeartbeats 3200000 in
set_option maxRecDepth 100000 in
theorem specEval_5 (lit : Int) (ids : List Int) (_ : ids.length ≤ 1048576) (sl : List DSlot) (_ : lsz DSlot.sz sl ≤ 1048576) (x : DExpr) (hk : x.fKind = 5) (ih : ∀ a ∈ x.fArgs, SpecEval lit ids sl a) (hv : ∀ a ∈ x.fArgs, invX a = false) (hna : x.fArgs.length = 3) : SpecEval lit ids sl x := by
  intro _ lo hi c6 cs ci a6 sa ai hsz w hhi hs6 hs hi1
  have HZ := Lib.hid hsz
  have IH := Lib.hid ih
  have HV := Lib.hid hv
  have HW0 := Lib.hid ((Below.refl w.heap.size w).alloc (Nat.le_refl _) (.cells #[.int .i64 5, .int .i64 x.fN, .int .i64 x.fPos, .int .i64 x.fType, .string x.fSymbol, .string x.fName, .slice a6 x.fArgs.length c6] 32))
  have HX0 := Lib.hid (show (w.alloc (.cells #[.int .i64 5, .int .i64 x.fN, .int .i64 x.fPos, .int .i64 x.fType, .string x.fSymbol, .string x.fName, .slice a6 x.fArgs.length c6] 32)).heap[w.heap.size]? = some (.cells #[.int .i64 5, .int .i64 x.fN, .int .i64 x.fPos, .int .i64 x.fType, .string x.fSymbol, .string x.fName, .slice a6 x.fArgs.length c6] 32) from blk_new rfl)
  have HSZ := Lib.hid (show (w.alloc (.cells #[.int .i64 5, .int .i64 x.fN, .int .i64 x.fPos, .int .i64 x.fType, .string x.fSymbol, .string x.fName, .slice a6 x.fArgs.length c6] 32)).heap.size = w.heap.size + 1 by simp)
  have HL := Lib.hid (fun (W : World) (hW : Below w.heap.size w W) => (show Sl lo hi W 3 sl.length (fun k => DSlot.ct (sl.getD k default)) sa ∧ Sl lo hi W 1 ids.length (fun k => ictI (ids.getD k default)) ai from ⟨hs.later hW hhi, hi1.later hW hhi⟩))
  have HHI := Lib.hid hhi
  have hszx := HZ.out
  rw [DExpr.sz_eq] at hszx
  have FIN := Lib.hid (evX_5 lit ids sl hk hna)
  have hsl := hs6.later HW0.out hhi
  have HNL := Lib.hid hna
  clear hsz ih hv hs6 hs hi1 hna
  rw [hk]
  clear hk
  obtain ⟨rb, ro, rfl, _, hrb, _⟩ := hsl.at 0 (by rw [HNL.out]; decide)
  have HAT := Lib.hid (show ∀ k, k < x.fArgs.length → _ from fun k hk => by
    obtain ⟨b', o', e', _, _, hc⟩ := hsl.at k hk
    simp only [Option.some.injEq, Addr.mk.injEq, and_true] at e'
    obtain ⟨rfl, rfl⟩ := e'
    exact hc)
  have HRB := Lib.hid (show rb < (w.alloc (.cells #[.int .i64 5, .int .i64 x.fN, .int .i64 x.fPos, .int .i64 x.fType, .string x.fSymbol, .string x.fName, .slice (some ⟨rb, ro, none⟩) x.fArgs.length c6] 32)).heap.size from Nat.lt_of_lt_of_le hrb (Nat.le_trans hhi HW0.out.size))
  clear hrb
  have hk0 : 0 < x.fArgs.length := by rw [HNL.out]; decide
  have ha0 := HAT.out 0 hk0
  rw [ctE_at hk0] at ha0
  obtain ⟨a0_, c0_, A00, A01, A02, A03, A04, A05, A06, S0_⟩ := DExpr.open ha0
  have Z0 := szle_at (f := DExpr.sz) x.fArgs 0 hk0
  have HM0 := Lib.hid (fun (W : World) (hW : Below (w.alloc (.cells #[.int .i64 5, .int .i64 x.fN, .int .i64 x.fPos, .int .i64 x.fType, .string x.fSymbol, .string x.fName, .slice (some ⟨rb, ro, none⟩) x.fArgs.length c6] 32)).heap.size (w.alloc (.cells #[.int .i64 5, .int .i64 x.fN, .int .i64 x.fPos, .int .i64 x.fType, .string x.fSymbol, .string x.fName, .slice (some ⟨rb, ro, none⟩) x.fArgs.length c6] 32)) W) => IH.out _ (getD_mem hk0) (HV.out _ (getD_mem hk0)) (c6 := c0_) (cs := cs) (ci := ci) (by omega) W (Nat.le_trans (Nat.le_trans HHI.out HW0.out.size) hW.size) (S0_.later (hW.mono (Nat.le_trans HHI.out HW0.out.size)) (Nat.le_refl _)) (HL.out W (HW0.out.trans (hW.mono HW0.out.size))).1 (HL.out W (HW0.out.trans (hW.mono HW0.out.size))).2)
  have hk1 : 1 < x.fArgs.length := by rw [HNL.out]; decide
  have ha1 := HAT.out 1 hk1
  rw [ctE_at hk1] at ha1
  obtain ⟨a1_, c1_, A10, A11, A12, A13, A14, A15, A16, S1_⟩ := DExpr.open ha1
  have Z1 := szle_at (f := DExpr.sz) x.fArgs 1 hk1
  have HM1 := Lib.hid (fun (W : World) (hW : Below (w.alloc (.cells #[.int .i64 5, .int .i64 x.fN, .int .i64 x.fPos, .int .i64 x.fType, .string x.fSymbol, .string x.fName, .slice (some ⟨rb, ro, none⟩) x.fArgs.length c6] 32)).heap.size (w.alloc (.cells #[.int .i64 5, .int .i64 x.fN, .int .i64 x.fPos, .int .i64 x.fType, .string x.fSymbol, .string x.fName, .slice (some ⟨rb, ro, none⟩) x.fArgs.length c6] 32)) W) => IH.out _ (getD_mem hk1) (HV.out _ (getD_mem hk1)) (c6 := c1_) (cs := cs) (ci := ci) (by omega) W (Nat.le_trans (Nat.le_trans HHI.out HW0.out.size) hW.size) (S1_.later (hW.mono (Nat.le_trans HHI.out HW0.out.size)) (Nat.le_refl _)) (HL.out W (HW0.out.trans (hW.mono HW0.out.size))).1 (HL.out W (HW0.out.trans (hW.mono HW0.out.size))).2)
  have hk2 : 2 < x.fArgs.length := by rw [HNL.out]; decide
  have ha2 := HAT.out 2 hk2
  rw [ctE_at hk2] at ha2
  obtain ⟨a2_, c2_, A20, A21, A22, A23, A24, A25, A26, S2_⟩ := DExpr.open ha2
  have Z2 := szle_at (f := DExpr.sz) x.fArgs 2 hk2
  have HM2 := Lib.hid (fun (W : World) (hW : Below (w.alloc (.cells #[.int .i64 5, .int .i64 x.fN, .int .i64 x.fPos, .int .i64 x.fType, .string x.fSymbol, .string x.fName, .slice (some ⟨rb, ro, none⟩) x.fArgs.length c6] 32)).heap.size (w.alloc (.cells #[.int .i64 5, .int .i64 x.fN, .int .i64 x.fPos, .int .i64 x.fType, .string x.fSymbol, .string x.fName, .slice (some ⟨rb, ro, none⟩) x.fArgs.length c6] 32)) W) => IH.out _ (getD_mem hk2) (HV.out _ (getD_mem hk2)) (c6 := c2_) (cs := cs) (ci := ci) (by omega) W (Nat.le_trans (Nat.le_trans HHI.out HW0.out.size) hW.size) (S2_.later (hW.mono (Nat.le_trans HHI.out HW0.out.size)) (Nat.le_refl _)) (HL.out W (HW0.out.trans (hW.mono HW0.out.size))).1 (HL.out W (HW0.out.trans (hW.mono HW0.out.size))).2)
  clear hsl HAT IH HV HL
  have C00 := Lib.hid (show (w.alloc (.cells #[.int .i64 5, .int .i64 x.fN, .int .i64 x.fPos, .int .i64 x.fType, .string x.fSymbol, .string x.fName, .slice (some ⟨rb, ro, none⟩) x.fArgs.length c6] 32)).cell? ⟨rb, ro, none⟩ = some (.int .i64 (x.fArgs.getD 0 default).fKind) from A00)
  have C01 := Lib.hid (show (w.alloc (.cells #[.int .i64 5, .int .i64 x.fN, .int .i64 x.fPos, .int .i64 x.fType, .string x.fSymbol, .string x.fName, .slice (some ⟨rb, ro, none⟩) x.fArgs.length c6] 32)).cell? ⟨rb, ro + 1, none⟩ = some (.int .i64 (x.fArgs.getD 0 default).fN) from A01)
  have C02 := Lib.hid (show (w.alloc (.cells #[.int .i64 5, .int .i64 x.fN, .int .i64 x.fPos, .int .i64 x.fType, .string x.fSymbol, .string x.fName, .slice (some ⟨rb, ro, none⟩) x.fArgs.length c6] 32)).cell? ⟨rb, ro + 2, none⟩ = some (.int .i64 (x.fArgs.getD 0 default).fPos) from A02)
  have C03 := Lib.hid (show (w.alloc (.cells #[.int .i64 5, .int .i64 x.fN, .int .i64 x.fPos, .int .i64 x.fType, .string x.fSymbol, .string x.fName, .slice (some ⟨rb, ro, none⟩) x.fArgs.length c6] 32)).cell? ⟨rb, ro + 3, none⟩ = some (.int .i64 (x.fArgs.getD 0 default).fType) from A03)
  have C04 := Lib.hid (show (w.alloc (.cells #[.int .i64 5, .int .i64 x.fN, .int .i64 x.fPos, .int .i64 x.fType, .string x.fSymbol, .string x.fName, .slice (some ⟨rb, ro, none⟩) x.fArgs.length c6] 32)).cell? ⟨rb, ro + 4, none⟩ = some (.string (x.fArgs.getD 0 default).fSymbol) from A04)
  have C05 := Lib.hid (show (w.alloc (.cells #[.int .i64 5, .int .i64 x.fN, .int .i64 x.fPos, .int .i64 x.fType, .string x.fSymbol, .string x.fName, .slice (some ⟨rb, ro, none⟩) x.fArgs.length c6] 32)).cell? ⟨rb, ro + 5, none⟩ = some (.string (x.fArgs.getD 0 default).fName) from A05)
  have C06 := Lib.hid (show (w.alloc (.cells #[.int .i64 5, .int .i64 x.fN, .int .i64 x.fPos, .int .i64 x.fType, .string x.fSymbol, .string x.fName, .slice (some ⟨rb, ro, none⟩) x.fArgs.length c6] 32)).cell? ⟨rb, ro + 6, none⟩ = some (.slice a0_ (x.fArgs.getD 0 default).fArgs.length c0_) from A06)
  clear ha0 A00 A01 A02 A03 A04 A05 A06 S0_ Z0 hk0
  generalize x.fArgs.getD 0 default = y0 at *
  generalize evX lit ids sl y0 = z0 at *
  have C10 := Lib.hid (show (w.alloc (.cells #[.int .i64 5, .int .i64 x.fN, .int .i64 x.fPos, .int .i64 x.fType, .string x.fSymbol, .string x.fName, .slice (some ⟨rb, ro, none⟩) x.fArgs.length c6] 32)).cell? ⟨rb, ro + 7, none⟩ = some (.int .i64 (x.fArgs.getD 1 default).fKind) from A10)
  have C11 := Lib.hid (show (w.alloc (.cells #[.int .i64 5, .int .i64 x.fN, .int .i64 x.fPos, .int .i64 x.fType, .string x.fSymbol, .string x.fName, .slice (some ⟨rb, ro, none⟩) x.fArgs.length c6] 32)).cell? ⟨rb, ro + 8, none⟩ = some (.int .i64 (x.fArgs.getD 1 default).fN) from A11)
  have C12 := Lib.hid (show (w.alloc (.cells #[.int .i64 5, .int .i64 x.fN, .int .i64 x.fPos, .int .i64 x.fType, .string x.fSymbol, .string x.fName, .slice (some ⟨rb, ro, none⟩) x.fArgs.length c6] 32)).cell? ⟨rb, ro + 9, none⟩ = some (.int .i64 (x.fArgs.getD 1 default).fPos) from A12)
  have C13 := Lib.hid (show (w.alloc (.cells #[.int .i64 5, .int .i64 x.fN, .int .i64 x.fPos, .int .i64 x.fType, .string x.fSymbol, .string x.fName, .slice (some ⟨rb, ro, none⟩) x.fArgs.length c6] 32)).cell? ⟨rb, ro + 10, none⟩ = some (.int .i64 (x.fArgs.getD 1 default).fType) from A13)
  have C14 := Lib.hid (show (w.alloc (.cells #[.int .i64 5, .int .i64 x.fN, .int .i64 x.fPos, .int .i64 x.fType, .string x.fSymbol, .string x.fName, .slice (some ⟨rb, ro, none⟩) x.fArgs.length c6] 32)).cell? ⟨rb, ro + 11, none⟩ = some (.string (x.fArgs.getD 1 default).fSymbol) from A14)
  have C15 := Lib.hid (show (w.alloc (.cells #[.int .i64 5, .int .i64 x.fN, .int .i64 x.fPos, .int .i64 x.fType, .string x.fSymbol, .string x.fName, .slice (some ⟨rb, ro, none⟩) x.fArgs.length c6] 32)).cell? ⟨rb, ro + 12, none⟩ = some (.string (x.fArgs.getD 1 default).fName) from A15)
  have C16 := Lib.hid (show (w.alloc (.cells #[.int .i64 5, .int .i64 x.fN, .int .i64 x.fPos, .int .i64 x.fType, .string x.fSymbol, .string x.fName, .slice (some ⟨rb, ro, none⟩) x.fArgs.length c6] 32)).cell? ⟨rb, ro + 13, none⟩ = some (.slice a1_ (x.fArgs.getD 1 default).fArgs.length c1_) from A16)
  clear ha1 A10 A11 A12 A13 A14 A15 A16 S1_ Z1 hk1
  generalize x.fArgs.getD 1 default = y1 at *
  generalize evX lit ids sl y1 = z1 at *
  have C20 := Lib.hid (show (w.alloc (.cells #[.int .i64 5, .int .i64 x.fN, .int .i64 x.fPos, .int .i64 x.fType, .string x.fSymbol, .string x.fName, .slice (some ⟨rb, ro, none⟩) x.fArgs.length c6] 32)).cell? ⟨rb, ro + 14, none⟩ = some (.int .i64 (x.fArgs.getD 2 default).fKind) from A20)
  have C21 := Lib.hid (show (w.alloc (.cells #[.int .i64 5, .int .i64 x.fN, .int .i64 x.fPos, .int .i64 x.fType, .string x.fSymbol, .string x.fName, .slice (some ⟨rb, ro, none⟩) x.fArgs.length c6] 32)).cell? ⟨rb, ro + 15, none⟩ = some (.int .i64 (x.fArgs.getD 2 default).fN) from A21)
  have C22 := Lib.hid (show (w.alloc (.cells #[.int .i64 5, .int .i64 x.fN, .int .i64 x.fPos, .int .i64 x.fType, .string x.fSymbol, .string x.fName, .slice (some ⟨rb, ro, none⟩) x.fArgs.length c6] 32)).cell? ⟨rb, ro + 16, none⟩ = some (.int .i64 (x.fArgs.getD 2 default).fPos) from A22)
  have C23 := Lib.hid (show (w.alloc (.cells #[.int .i64 5, .int .i64 x.fN, .int .i64 x.fPos, .int .i64 x.fType, .string x.fSymbol, .string x.fName, .slice (some ⟨rb, ro, none⟩) x.fArgs.length c6] 32)).cell? ⟨rb, ro + 17, none⟩ = some (.int .i64 (x.fArgs.getD 2 default).fType) from A23)
  have C24 := Lib.hid (show (w.alloc (.cells #[.int .i64 5, .int .i64 x.fN, .int .i64 x.fPos, .int .i64 x.fType, .string x.fSymbol, .string x.fName, .slice (some ⟨rb, ro, none⟩) x.fArgs.length c6] 32)).cell? ⟨rb, ro + 18, none⟩ = some (.string (x.fArgs.getD 2 default).fSymbol) from A24)
  have C25 := Lib.hid (show (w.alloc (.cells #[.int .i64 5, .int .i64 x.fN, .int .i64 x.fPos, .int .i64 x.fType, .string x.fSymbol, .string x.fName, .slice (some ⟨rb, ro, none⟩) x.fArgs.length c6] 32)).cell? ⟨rb, ro + 19, none⟩ = some (.string (x.fArgs.getD 2 default).fName) from A25)
  have C26 := Lib.hid (show (w.alloc (.cells #[.int .i64 5, .int .i64 x.fN, .int .i64 x.fPos, .int .i64 x.fType, .string x.fSymbol, .string x.fName, .slice (some ⟨rb, ro, none⟩) x.fArgs.length c6] 32)).cell? ⟨rb, ro + 20, none⟩ = some (.slice a2_ (x.fArgs.getD 2 default).fArgs.length c2_) from A26)
  clear ha2 A20 A21 A22 A23 A24 A25 A26 S2_ Z2 hk2
  generalize x.fArgs.getD 2 default = y2 at *
  generalize evX lit ids sl y2 = z2 at *
  clear hszx HZ
  rw [FIN.out]
  clear FIN
  generalize ids.length = ni at *
  generalize sl.length = ns at *
  rw [HNL.out] at HW0 HX0 HSZ HRB HM0 HM1 HM2 C00 C01 C02 C03 C04 C05 C06 C10 C11 C12 C13 C14 C15 C16 C20 C21 C22 C23 C24 C25 C26 ⊢
  clear HNL
  have q0 := C00.out
  have q1 := C01.out
  have q2 := C02.out
  have q3 := C03.out
  have q4 := C04.out
  have q5 := C05.out
  have q6 := C06.out
  clear C00 C01 C02 C03 C04 C05 C06
  by_cases hz : z0 = 0
  · rw [if_pos hz]
    subst hz
    go_enter Try.func20, Try.ntmps20
    go_wp2_with fail
    refine (HM0.out _ (Below.refl _ _)).mono ?_
    rintro e w1 ⟨rfl, hb1⟩
    have HBB := Lib.hid hb1
    have HB1 := Lib.hid (HW0.out.trans (hb1.mono HW0.out.size))
    clear hb1 q0 q1 q2 q3 q4 q5 q6
    have p6 : w1.cell? ⟨w.heap.size, 6, none⟩ = some (.slice (some ⟨rb, ro, none⟩) 3 c6) := (HBB.out.cell (p := ⟨w.heap.size, 6, none⟩) (by show w.heap.size < _; rw [HSZ.out]; omega)).trans (pblk_cell HX0.out rfl)
    have r0 : w1.cell? ⟨rb, ro + 14, none⟩ = some (.int .i64 y2.fKind) := (HBB.out.cell (p := ⟨rb, ro + 14, none⟩) HRB.out).trans C20.out
    have r1 : w1.cell? ⟨rb, ro + 15, none⟩ = some (.int .i64 y2.fN) := (HBB.out.cell (p := ⟨rb, ro + 15, none⟩) HRB.out).trans C21.out
    have r2 : w1.cell? ⟨rb, ro + 16, none⟩ = some (.int .i64 y2.fPos) := (HBB.out.cell (p := ⟨rb, ro + 16, none⟩) HRB.out).trans C22.out
    have r3 : w1.cell? ⟨rb, ro + 17, none⟩ = some (.int .i64 y2.fType) := (HBB.out.cell (p := ⟨rb, ro + 17, none⟩) HRB.out).trans C23.out
    have r4 : w1.cell? ⟨rb, ro + 18, none⟩ = some (.string y2.fSymbol) := (HBB.out.cell (p := ⟨rb, ro + 18, none⟩) HRB.out).trans C24.out
    have r5 : w1.cell? ⟨rb, ro + 19, none⟩ = some (.string y2.fName) := (HBB.out.cell (p := ⟨rb, ro + 19, none⟩) HRB.out).trans C25.out
    have r6 : w1.cell? ⟨rb, ro + 20, none⟩ = some (.slice a2_ y2.fArgs.length c2_) := (HBB.out.cell (p := ⟨rb, ro + 20, none⟩) HRB.out).trans C26.out
    go_wp2_with fail
    refine (HM2.out w1 HBB.out).mono ?_
    rintro e w2 ⟨rfl, hb2⟩
    have HBN := Lib.hid (HB1.out.trans (hb2.mono HB1.out.size))
    clear hb2
    go_wp2
    go_ret
    exact ⟨rfl, HBN.out⟩

  · rw [if_neg hz]
    have hzn : (z0 == 0) = false := beq_eq_false_iff_ne.2 hz
    clear hz
    go_enter Try.func20, Try.ntmps20
    go_wp2_with fail
    refine (HM0.out _ (Below.refl _ _)).mono ?_
    rintro e w1 ⟨rfl, hb1⟩
    have HBB := Lib.hid hb1
    have HB1 := Lib.hid (HW0.out.trans (hb1.mono HW0.out.size))
    clear hb1 q0 q1 q2 q3 q4 q5 q6
    have p6 : w1.cell? ⟨w.heap.size, 6, none⟩ = some (.slice (some ⟨rb, ro, none⟩) 3 c6) := (HBB.out.cell (p := ⟨w.heap.size, 6, none⟩) (by show w.heap.size < _; rw [HSZ.out]; omega)).trans (pblk_cell HX0.out rfl)
    have r0 : w1.cell? ⟨rb, ro + 7, none⟩ = some (.int .i64 y1.fKind) := (HBB.out.cell (p := ⟨rb, ro + 7, none⟩) HRB.out).trans C10.out
    have r1 : w1.cell? ⟨rb, ro + 8, none⟩ = some (.int .i64 y1.fN) := (HBB.out.cell (p := ⟨rb, ro + 8, none⟩) HRB.out).trans C11.out
    have r2 : w1.cell? ⟨rb, ro + 9, none⟩ = some (.int .i64 y1.fPos) := (HBB.out.cell (p := ⟨rb, ro + 9, none⟩) HRB.out).trans C12.out
    have r3 : w1.cell? ⟨rb, ro + 10, none⟩ = some (.int .i64 y1.fType) := (HBB.out.cell (p := ⟨rb, ro + 10, none⟩) HRB.out).trans C13.out
    have r4 : w1.cell? ⟨rb, ro + 11, none⟩ = some (.string y1.fSymbol) := (HBB.out.cell (p := ⟨rb, ro + 11, none⟩) HRB.out).trans C14.out
    have r5 : w1.cell? ⟨rb, ro + 12, none⟩ = some (.string y1.fName) := (HBB.out.cell (p := ⟨rb, ro + 12, none⟩) HRB.out).trans C15.out
    have r6 : w1.cell? ⟨rb, ro + 13, none⟩ = some (.slice a1_ y1.fArgs.length c1_) := (HBB.out.cell (p := ⟨rb, ro + 13, none⟩) HRB.out).trans C16.out
    go_wp2_with fail
    refine (HM1.out w1 HBB.out).mono ?_
    rintro e w2 ⟨rfl, hb2⟩
    have HBN := Lib.hid (HB1.out.trans (hb2.mono HB1.out.size))
    clear hb2
    go_wp2
    go_ret
    exact ⟨rfl, HBN.out⟩


theorem specEval_step (lit : Int) (ids : List Int) (hids : ids.length ≤ 1048576) (sl : List DSlot) (hl : lsz DSlot.sz sl ≤ 1048576) (x : DExpr) (ih : ∀ a ∈ x.fArgs, SpecEval lit ids sl a) : SpecEval lit ids sl x := by
  intro hv
  obtain ⟨h0, ha⟩ := node_args hv
  obtain ⟨hk, hb, ho⟩ := inv_valid h0
  have hna : x.fArgs.length = argsOf x.fKind := hb.1
  rcases kinds hk with h | h | h | h | h | h | h | h
  · exact specEval_1 lit ids hids sl hl x h hv
  · exact specEval_2 lit ids hids sl hl x h hv
  · exact specEval_3 lit ids hids sl hl x h hv
  · exact specEval_4 lit ids hids sl hl x h ih ha (by rw [hna, show x.fKind = 4 from h]; rfl) hv
  · exact specEval_5 lit ids hids sl hl x h ih ha (by rw [hna, show x.fKind = 5 from h]; rfl) hv
  · refine specEval_6 lit ids hids sl hl x h ?_ hv
    rw [okN_6 h] at ho
    have := inR_iff.1 ho
    exact this.1
  · exact specEval_7 lit ids hids sl hl x h hv
  · exact specEval_8 lit ids hids sl hl x h hv
theorem spec_l19Eval (lit : Int) (ids : List Int) (hids : ids.length ≤ 1048576) (sl : List DSlot) (hl : lsz DSlot.sz sl ≤ 1048576) (x : DExpr) : SpecEval lit ids sl x := DExpr.ind (P := SpecEval lit ids sl) (fun x ih => specEval_step lit ids hids sl hl x ih) x

set_option maxHeartbeats 3200000 in
set_option maxRecDepth 100000 in
theorem spec_EvalLocal {lo hi c0_0 c1_0 c3_0 : Nat} {a6 sa ai : Option Addr} (x : DExpr) (okx : x.ok) (hsz : x.sz ≤ 1048576) (sl : List DSlot) (_ : okL DSlot.ok sl) (hl : lsz DSlot.sz sl ≤ 1048576) (lit : Int) (_ : okI lit) (ids : List Int) (_ : okL okI ids) (hid : lsz (fun _ => 0) ids ≤ 1048576) (w : World) (hhi : hi ≤ w.heap.size) (hs6 : Sl lo hi w 7 x.fArgs.length (ctE x.fArgs) a6) (hs : Sl lo hi w 3 sl.length (fun k => DSlot.ct (sl.getD k default)) sa) (hi1 : Sl lo hi w 1 ids.length (fun k => ictI (ids.getD k default)) ai) :
    Calls Try.prog 7 #[.agg #[.int .i64 x.fKind, .int .i64 x.fN, .int .i64 x.fPos, .int .i64 x.fType, .string x.fSymbol, .string x.fName, .slice a6 x.fArgs.length c0_0], .slice sa sl.length c1_0, .int .i64 lit, .slice ai ids.length c3_0] w fun e w' => e = .returned (.int .i64 (evLocal x sl lit ids)) ∧ Below w.heap.size w w' := by
  have hn : ids.length ≤ 1048576 := by have := lsz_zero ids; omega
  have HB0 := Lib.hid ((Below.refl w.heap.size w).alloc (Nat.le_refl _) (.cells #[.int .i64 x.fKind, .int .i64 x.fN, .int .i64 x.fPos, .int .i64 x.fType, .string x.fSymbol, .string x.fName, .slice a6 x.fArgs.length c0_0] 32))
  have HX0 := Lib.hid (show (w.alloc (.cells #[.int .i64 x.fKind, .int .i64 x.fN, .int .i64 x.fPos, .int .i64 x.fType, .string x.fSymbol, .string x.fName, .slice a6 x.fArgs.length c0_0] 32)).heap[w.heap.size]? = some (.cells #[.int .i64 x.fKind, .int .i64 x.fN, .int .i64 x.fPos, .int .i64 x.fType, .string x.fSymbol, .string x.fName, .slice a6 x.fArgs.length c0_0] 32) from blk_new rfl)
  have HSZ := Lib.hid (show (w.alloc (.cells #[.int .i64 x.fKind, .int .i64 x.fN, .int .i64 x.fPos, .int .i64 x.fType, .string x.fSymbol, .string x.fName, .slice a6 x.fArgs.length c0_0] 32)).heap.size = w.heap.size + 1 by simp)
  have HV := Lib.hid (spec_IsValidExpr (c0_0 := c0_0) x okx hsz (w.alloc (.cells #[.int .i64 x.fKind, .int .i64 x.fN, .int .i64 x.fPos, .int .i64 x.fType, .string x.fSymbol, .string x.fName, .slice a6 x.fArgs.length c0_0] 32)) (Nat.le_trans hhi HB0.out.size) (hs6.later HB0.out hhi))
  cases hv : validX x
  · have FIN := Lib.hid (show evLocal x sl lit ids = 0 by unfold evLocal; rw [hv]; rfl)
    rw [hv] at HV
    clear hv hs6 hs hi1 hid hn HX0 HSZ
    generalize evLocal x sl lit ids = r at *
    generalize ids.length = n3 at *
    generalize sl.length = n1 at *
    go_enter Try.func7, Try.ntmps7
    go_wp2_with fail
    refine HV.out.mono ?_
    rintro e w1 ⟨rfl, hb1⟩
    have HB1 := Lib.hid (HB0.out.trans (hb1.mono HB0.out.size))
    clear hb1
    go_wp2
    go_ret
    exact ⟨ret_i FIN.out.symm, HB1.out⟩
  · have FIN := Lib.hid (show evLocal x sl lit ids = evX lit ids sl x by unfold evLocal; rw [if_pos hv])
    have HC := Lib.hid (fun (W : World) (hW : Below w.heap.size w W) => spec_l19Eval lit ids hn sl hl x (valid_inv hv) (c6 := c0_0) (cs := c1_0) (ci := c3_0) hsz W (Nat.le_trans hhi hW.size) (hs6.later hW hhi) (hs.later hW hhi) (hi1.later hW hhi))
    rw [hv] at HV
    clear hv hs6 hs hi1 hid hn
    rw [FIN.out]
    clear FIN
    generalize evX lit ids sl x = r at *
    generalize ids.length = n3 at *
    generalize sl.length = n1 at *
    go_enter Try.func7, Try.ntmps7
    go_wp2_with fail
    refine HV.out.mono ?_
    rintro e w1 ⟨rfl, hb1⟩
    have HB1 := Lib.hid (HB0.out.trans (hb1.mono HB0.out.size))
    have HX1 := Lib.hid ((hb1.block w.heap.size (by rw [HSZ.out]; omega)).trans HX0.out)
    clear hb1
    have y0 := pblk_cell (w := w1) (j := 0) (v := .int .i64 x.fKind) HX1.out rfl
    have y1 := pblk_cell (w := w1) (j := 1) (v := .int .i64 x.fN) HX1.out rfl
    have y2 := pblk_cell (w := w1) (j := 2) (v := .int .i64 x.fPos) HX1.out rfl
    have y3 := pblk_cell (w := w1) (j := 3) (v := .int .i64 x.fType) HX1.out rfl
    have y4 := pblk_cell (w := w1) (j := 4) (v := .string x.fSymbol) HX1.out rfl
    have y5 := pblk_cell (w := w1) (j := 5) (v := .string x.fName) HX1.out rfl
    have y6 := pblk_cell (w := w1) (j := 6) (v := .slice a6 x.fArgs.length c0_0) HX1.out rfl
    go_wp2_with fail
    refine (HC.out w1 HB1.out).mono ?_
    rintro e w2 ⟨rfl, hb2⟩
    have HBN := Lib.hid (HB1.out.trans (hb2.mono HB1.out.size))
    clear hb2
    go_wp2
    go_ret
    exact ⟨rfl, HBN.out⟩
end Go.Proofs.Ythpnghbhfbiljaa
