/-
  AttributeUses of the model: l4Uses.
-/
import Derived.Test.YtoockfmkcjomhaaUsesO
import Derived.Test.YtoockfmkcjomhaaPut
namespace Go.Proofs.Ytoockfmkcjomhaa
open Go.ChangeShapes Go.WideShapes Go.ChangeAt Go.RowKit Go.Deep

/-- The contract of l4Uses at an expression. -/
def SpecUses (x : DExpr) : Prop := ∀ ⦃lo hi c6 B g c : Nat⦄ ⦃a6 : Option Addr⦄ (_hsz : x.sz ≤ 1048576) (l : List DOccurrence) (_hl : l.length + (occE x).length ≤ 4194304) (w : World) (_hhi : hi ≤ w.heap.size) (_hs6 : Sl lo hi w 7 x.fArgs.length (ctE x.fArgs) a6) (_hown : w.ownsRow B 47 2 (.slice (some ⟨g, 0, none⟩) (l).length c) (l).length ((l).flatMap valsocc)),
  Calls Try.prog 14 #[.agg #[.int .i64 x.fKind, .int .i64 x.fN, .int .i64 x.fPos, .int .i64 x.fType, .string x.fSymbol, .string x.fName, .slice a6 x.fArgs.length c6], .slice (some ⟨g, 0, none⟩) l.length c] w fun e w' => ∃ g' c', e = .returned (.slice (some ⟨g', 0, none⟩) (putAll ltO l (occE x)).length c') ∧ w'.ownsRow B 47 2 (.slice (some ⟨g', 0, none⟩) ((putAll ltO l (occE x))).length c') ((putAll ltO l (occE x))).length (((putAll ltO l (occE x))).flatMap valsocc) ∧ Below w.heap.size w w'
theorem getD_memU {α : Type} {d : α} (xs : List α) (j : Nat) (hj : j < xs.length) : xs.getD j d ∈ xs := by
  rw [List.getD_eq_getElem?_getD, List.getElem?_eq_getElem hj]; exact List.getElem_mem hj
theorem take_flat {xs : List DExpr} {k : Nat} (hk : k < xs.length) : (xs.take (k + 1)).flatMap occE = (xs.take k).flatMap occE ++ occE (xs.getD k default) := by
  rw [List.take_succ_eq_append_getElem hk, List.flatMap_append, List.flatMap_singleton, List.getD_eq_getElem?_getD, List.getElem?_eq_getElem hk, Option.getD_some]
theorem take_flat_le {xs : List DExpr} {k : Nat} (hk : k < xs.length) : ((xs.take k).flatMap occE).length + (occE (xs.getD k default)).length ≤ (xs.flatMap occE).length := by
  have h : (xs.take (k + 1)).flatMap occE ++ (xs.drop (k + 1)).flatMap occE = xs.flatMap occE := by rw [← List.flatMap_append, List.take_append_drop]
  rw [← h, List.length_append, take_flat hk, List.length_append]
  omega

set_option maxHeartbeats 16000000 in
set_option maxRecDepth 100000 in
theorem specUses_step (x : DExpr) (ih : ∀ a ∈ x.fArgs, SpecUses a) : SpecUses x := by
  intro lo hi c6 B g c a6 hsz l hl w hhi hs6 hown
  have hBg := hown.lt g rfl
  have hln : l.length + (occOf (nodeOfX x 0)).length + (x.fArgs.flatMap occE).length ≤ 4194304 := by rw [occE_eq, List.length_append] at hl; omega
  have HLN := Lib.hid hln
  have HFIN := Lib.hid (show (putAll ltO l (occE x)) = (putAll ltO l (occOf (nodeOfX x 0) ++ (x.fArgs.take x.fArgs.length).flatMap occE)) by rw [occE_eq, List.take_length])
  have hszx := hsz
  rw [DExpr.sz_eq] at hszx
  have hnl : x.fArgs.length ≤ 1048576 := by unfold lsz at hszx; omega
  have HIH := Lib.hid (fun k (hk : k < x.fArgs.length) => ih (x.fArgs.getD k default) (getD_memU x.fArgs k hk))
  have HZA := Lib.hid (fun k (hk : k < x.fArgs.length) => (by have h := szle_at (f := DExpr.sz) x.fArgs k hk; omega : (x.fArgs.getD k default).sz ≤ 1048576))
  have HS := Lib.hid hs6
  have HHI := Lib.hid hhi
  have HO := Lib.hid hown
  clear ih hs6 hhi hown hsz hl hszx hln
  by_cases hk3 : x.fKind = 3
  · rw [hk3]
    have HB := Lib.hid ((Below.refl w.heap.size w).alloc (Nat.le_refl _) (.cells #[.int .i64 3, .int .i64 x.fN, .int .i64 x.fPos, .int .i64 x.fType, .string x.fSymbol, .string x.fName, .slice a6 x.fArgs.length c6] 30))
    have HX := Lib.hid (show (w.alloc (.cells #[.int .i64 3, .int .i64 x.fN, .int .i64 x.fPos, .int .i64 x.fType, .string x.fSymbol, .string x.fName, .slice a6 x.fArgs.length c6] 30)).heap[w.heap.size]? = some (.cells #[.int .i64 3, .int .i64 x.fN, .int .i64 x.fPos, .int .i64 x.fType, .string x.fSymbol, .string x.fName, .slice a6 x.fArgs.length c6] 30) from blk_new rfl)
    have HSZ := Lib.hid (show (w.alloc (.cells #[.int .i64 3, .int .i64 x.fN, .int .i64 x.fPos, .int .i64 x.fType, .string x.fSymbol, .string x.fName, .slice a6 x.fArgs.length c6] 30)).heap.size = w.heap.size + 1 by simp)
    have HOC := Lib.hid (show (putAll ltO l (occOf (nodeOfX x 0) ++ (x.fArgs.take 0).flatMap occE)) = putL ltO ⟨x.fPos, x.fName⟩ l by rw [List.take_zero, List.flatMap_nil, List.append_nil]; unfold occOf; rw [if_pos (show (nodeOfX x 0).fKind = 3 from hk3)]; rfl)
    have HPT := Lib.hid (spec_l4Put l (by have := HLN.out; omega) ⟨x.fPos, x.fName⟩ (w.alloc (.cells #[.int .i64 3, .int .i64 x.fN, .int .i64 x.fPos, .int .i64 x.fType, .string x.fSymbol, .string x.fName, .slice a6 x.fArgs.length c6] 30)) (ownsRow_below HO.out HB.out))
    rw [← HOC.out] at HPT
    clear HOC hk3
    dsimp only at HPT
    go_enter Try.func14, Try.ntmps14
    go_wp2_with fail
    refine HPT.out.mono ?_
    rintro e w1 ⟨g1, c1, rfl, ho1, hb1⟩
    have HO1 := Lib.hid ho1
    have HBX := Lib.hid (HB.out.trans (hb1.mono HB.out.size))
    have HXL := Lib.hid (show w.heap.size < w1.heap.size from Nat.lt_of_lt_of_le (by have := HSZ.out; omega) hb1.size)
    have HP6 := Lib.hid (show w1.cell? ⟨w.heap.size, 6, none⟩ = some (.slice a6 x.fArgs.length c6) from (hb1.cell (p := ⟨w.heap.size, 6, none⟩) (show w.heap.size < (w.alloc (.cells #[.int .i64 3, .int .i64 x.fN, .int .i64 x.fPos, .int .i64 x.fType, .string x.fSymbol, .string x.fName, .slice a6 x.fArgs.length c6] 30)).heap.size by have := HSZ.out; omega)).trans (pblk_cell HX.out rfl))
    clear ho1 hb1 HPT
    go_wp2
    go_loopw [1, 5] (fun v i wr => ∃ k g' c' : Nat, k ≤ x.fArgs.length ∧ i = .int .i64 (k : Int) ∧ v = .slice (some ⟨g', 0, none⟩) (putAll ltO l (occOf (nodeOfX x 0) ++ (x.fArgs.take k).flatMap occE)).length c' ∧ wr.ownsRow B 47 2 (.slice (some ⟨g', 0, none⟩) ((putAll ltO l (occOf (nodeOfX x 0) ++ (x.fArgs.take k).flatMap occE))).length c') ((putAll ltO l (occOf (nodeOfX x 0) ++ (x.fArgs.take k).flatMap occE))).length (((putAll ltO l (occOf (nodeOfX x 0) ++ (x.fArgs.take k).flatMap occE))).flatMap valsocc) ∧ Below w1.heap.size w1 wr) (fun _ i _ => x.fArgs.length - (intOf i).toNat)
    case atStart => exact ⟨0, g1, c1, Nat.zero_le _, rfl, by simp, HO1.out, Below.refl _ _⟩
    case round =>
      obtain ⟨k, g', c', hk, rfl, rfl, ho, hbl⟩ := hrel
      have HOK := Lib.hid ho
      have HBL := Lib.hid hbl
      have HBW := Lib.hid (HBX.out.trans (hbl.mono HBX.out.size))
      have p6 : wr.cell? ⟨w.heap.size, 6, none⟩ = some (.slice a6 x.fArgs.length c6) := (hbl.cell (p := ⟨w.heap.size, 6, none⟩) HXL.out).trans HP6.out
      clear ho hbl
      by_cases hlt : k < x.fArgs.length
      · obtain ⟨rb, ro, rfl, _, hrb, hc⟩ := (HS.out.later HBW.out HHI.out).at k hlt
        rw [ctE_at hlt] at hc
        obtain ⟨a9, c9, q0, q1, q2, q3, q4, q5, q6, hs9⟩ := DExpr.open hc
        have hle := take_flat_le hlt
        have hlen := putAll_len (lt := ltO) (occOf (nodeOfX x 0) ++ (x.fArgs.take k).flatMap occE) l
        rw [List.length_append] at hlen
        have HC := Lib.hid (HIH.out k hlt (c6 := c9) (HZA.out k hlt) (putAll ltO l (occOf (nodeOfX x 0) ++ (x.fArgs.take k).flatMap occE)) (by have := HLN.out; omega) wr (Nat.le_trans HHI.out HBW.out.size) hs9 HOK.out)
        have HNX := Lib.hid (show putAll ltO (putAll ltO l (occOf (nodeOfX x 0) ++ (x.fArgs.take k).flatMap occE)) (occE (x.fArgs.getD k default)) = (putAll ltO l (occOf (nodeOfX x 0) ++ (x.fArgs.take (k + 1)).flatMap occE)) by rw [take_flat hlt, ← List.append_assoc]; exact (putAll_append _ _ _).symm)
        clear hc hs9 hle hlen HZA HIH HLN
        rw [HNX.out] at HC
        clear HNX
        generalize x.fArgs.getD k default = y at *
        generalize (putAll ltO l (occOf (nodeOfX x 0) ++ (x.fArgs.take k).flatMap occE)) = lk at *
        go_wp2_with fail
        refine HC.out.mono ?_
        rintro e w2 ⟨g2, c2, rfl, ho2, hb2⟩
        have HO2 := Lib.hid ho2
        have HB2 := Lib.hid (HBL.out.trans (hb2.mono HBL.out.size))
        clear ho2 hb2
        go_wp2
        go_roundw
        case rel => exact ⟨k + 1, g2, c2, by omega, by go_num, rfl, HO2.out, HB2.out⟩
        case measure => simp [intOf]; omega
      · obtain rfl : k = x.fArgs.length := by omega
        rw [← HFIN.out] at HOK ⊢
        go_wp2
        go_ret
        exact ⟨g', c', rfl, HOK.out, HBW.out⟩
  · skip
    have HB := Lib.hid ((Below.refl w.heap.size w).alloc (Nat.le_refl _) (.cells #[.int .i64 x.fKind, .int .i64 x.fN, .int .i64 x.fPos, .int .i64 x.fType, .string x.fSymbol, .string x.fName, .slice a6 x.fArgs.length c6] 30))
    have HX := Lib.hid (show (w.alloc (.cells #[.int .i64 x.fKind, .int .i64 x.fN, .int .i64 x.fPos, .int .i64 x.fType, .string x.fSymbol, .string x.fName, .slice a6 x.fArgs.length c6] 30)).heap[w.heap.size]? = some (.cells #[.int .i64 x.fKind, .int .i64 x.fN, .int .i64 x.fPos, .int .i64 x.fType, .string x.fSymbol, .string x.fName, .slice a6 x.fArgs.length c6] 30) from blk_new rfl)
    have HSZ := Lib.hid (show (w.alloc (.cells #[.int .i64 x.fKind, .int .i64 x.fN, .int .i64 x.fPos, .int .i64 x.fType, .string x.fSymbol, .string x.fName, .slice a6 x.fArgs.length c6] 30)).heap.size = w.heap.size + 1 by simp)
    have HOC := Lib.hid (show (putAll ltO l (occOf (nodeOfX x 0) ++ (x.fArgs.take 0).flatMap occE)) = l by rw [List.take_zero, List.flatMap_nil, List.append_nil]; unfold occOf; rw [if_neg (show ¬ (nodeOfX x 0).fKind = 3 from hk3)]; rfl)
    have hkb : (x.fKind == 3) = false := beq_eq_false_iff_ne.2 hk3
    have HO1 := Lib.hid (ownsRow_below HO.out HB.out)
    go_enter Try.func14, Try.ntmps14
    go_wp2
    have HBX := Lib.hid HB.out
    have HXL := Lib.hid (show w.heap.size < (w.alloc (.cells #[.int .i64 x.fKind, .int .i64 x.fN, .int .i64 x.fPos, .int .i64 x.fType, .string x.fSymbol, .string x.fName, .slice a6 x.fArgs.length c6] 30)).heap.size by have := HSZ.out; omega)
    have HP6 := Lib.hid (show (w.alloc (.cells #[.int .i64 x.fKind, .int .i64 x.fN, .int .i64 x.fPos, .int .i64 x.fType, .string x.fSymbol, .string x.fName, .slice a6 x.fArgs.length c6] 30)).cell? ⟨w.heap.size, 6, none⟩ = some (.slice a6 x.fArgs.length c6) from pblk_cell HX.out rfl)
    generalize w.alloc (.cells #[.int .i64 x.fKind, .int .i64 x.fN, .int .i64 x.fPos, .int .i64 x.fType, .string x.fSymbol, .string x.fName, .slice a6 x.fArgs.length c6] 30) = w1 at *
    go_loopw [1, 5] (fun v i wr => ∃ k g' c' : Nat, k ≤ x.fArgs.length ∧ i = .int .i64 (k : Int) ∧ v = .slice (some ⟨g', 0, none⟩) (putAll ltO l (occOf (nodeOfX x 0) ++ (x.fArgs.take k).flatMap occE)).length c' ∧ wr.ownsRow B 47 2 (.slice (some ⟨g', 0, none⟩) ((putAll ltO l (occOf (nodeOfX x 0) ++ (x.fArgs.take k).flatMap occE))).length c') ((putAll ltO l (occOf (nodeOfX x 0) ++ (x.fArgs.take k).flatMap occE))).length (((putAll ltO l (occOf (nodeOfX x 0) ++ (x.fArgs.take k).flatMap occE))).flatMap valsocc) ∧ Below w1.heap.size w1 wr) (fun _ i _ => x.fArgs.length - (intOf i).toNat)
    case atStart => exact ⟨0, g, c, Nat.zero_le _, rfl, by rw [HOC.out], by rw [HOC.out]; exact HO1.out, Below.refl _ _⟩
    case round =>
      obtain ⟨k, g', c', hk, rfl, rfl, ho, hbl⟩ := hrel
      have HOK := Lib.hid ho
      have HBL := Lib.hid hbl
      have HBW := Lib.hid (HBX.out.trans (hbl.mono HBX.out.size))
      have p6 : wr.cell? ⟨w.heap.size, 6, none⟩ = some (.slice a6 x.fArgs.length c6) := (hbl.cell (p := ⟨w.heap.size, 6, none⟩) HXL.out).trans HP6.out
      clear ho hbl
      by_cases hlt : k < x.fArgs.length
      · obtain ⟨rb, ro, rfl, _, hrb, hc⟩ := (HS.out.later HBW.out HHI.out).at k hlt
        rw [ctE_at hlt] at hc
        obtain ⟨a9, c9, q0, q1, q2, q3, q4, q5, q6, hs9⟩ := DExpr.open hc
        have hle := take_flat_le hlt
        have hlen := putAll_len (lt := ltO) (occOf (nodeOfX x 0) ++ (x.fArgs.take k).flatMap occE) l
        rw [List.length_append] at hlen
        have HC := Lib.hid (HIH.out k hlt (c6 := c9) (HZA.out k hlt) (putAll ltO l (occOf (nodeOfX x 0) ++ (x.fArgs.take k).flatMap occE)) (by have := HLN.out; omega) wr (Nat.le_trans HHI.out HBW.out.size) hs9 HOK.out)
        have HNX := Lib.hid (show putAll ltO (putAll ltO l (occOf (nodeOfX x 0) ++ (x.fArgs.take k).flatMap occE)) (occE (x.fArgs.getD k default)) = (putAll ltO l (occOf (nodeOfX x 0) ++ (x.fArgs.take (k + 1)).flatMap occE)) by rw [take_flat hlt, ← List.append_assoc]; exact (putAll_append _ _ _).symm)
        clear hc hs9 hle hlen HZA HIH HLN
        rw [HNX.out] at HC
        clear HNX
        generalize x.fArgs.getD k default = y at *
        generalize (putAll ltO l (occOf (nodeOfX x 0) ++ (x.fArgs.take k).flatMap occE)) = lk at *
        go_wp2_with fail
        refine HC.out.mono ?_
        rintro e w2 ⟨g2, c2, rfl, ho2, hb2⟩
        have HO2 := Lib.hid ho2
        have HB2 := Lib.hid (HBL.out.trans (hb2.mono HBL.out.size))
        clear ho2 hb2
        go_wp2
        go_roundw
        case rel => exact ⟨k + 1, g2, c2, by omega, by go_num, rfl, HO2.out, HB2.out⟩
        case measure => simp [intOf]; omega
      · obtain rfl : k = x.fArgs.length := by omega
        rw [← HFIN.out] at HOK ⊢
        go_wp2
        go_ret
        exact ⟨g', c', rfl, HOK.out, HBW.out⟩
theorem spec_l4Uses (x : DExpr) : SpecUses x := DExpr.ind (P := SpecUses) (fun x ih => specUses_step x ih) x
end Go.Proofs.Ytoockfmkcjomhaa
