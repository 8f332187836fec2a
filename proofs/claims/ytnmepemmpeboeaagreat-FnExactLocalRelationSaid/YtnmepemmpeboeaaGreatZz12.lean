/-
  The rows of a fold: a row cut at a place, what stands behind the place, an append of such a part to nothing, in a round too.
  l4Put of the model.
  AttributeUses of the model: l4Uses.
  slices.Compact over a row of occurrences of the call's own.
-/
import Derived.Test.YtnmepemmpeboeaaGreatZz11
import Derived.Test.YtnmepemmpeboeaaGreatZz4
import Derived.Test.YtnmepemmpeboeaaGreatZRev
import Derived.Test.YtnmepemmpeboeaaGreatZFreeK
import Derived.Test.YtnmepemmpeboeaaGreatZFreeA
import Derived.RangeFuncNested
import Derived.RangeFuncBound
import Derived.RangeFuncCalls
import Derived.RangeFuncLeaves
import Derived.Shelf.Abstract
import Derived.Shelf.RegionOpen
import Derived.WalkKit
import Derived.OwnWalkIn
import Derived.TacticsInMore
import Derived.LoopNIn
import Derived.LoopIn
import Derived.RangeFuncWrites
import Derived.OrdersIn
import Derived.TacticsIn
import Derived.Test.YtnmepemmpeboeaaGreatZz9
import Derived.Test.YtnmepemmpeboeaaGreatZFree
import Derived.BigQuiet
import Derived.Test.YtnmepemmpeboeaaGreatZUsesO
import Derived.Test.YtnmepemmpeboeaaGreatZCompT
import Derived.Lib.SliceRun
namespace Go.Proofs.YtnmepemmpeboeaaGreat
open Go.ChangeShapes Go.WideShapes Go.ChangeAt Go.RowKit Go.Deep

section
variable {α : Type}
theorem flat_cut {enc : α → List Value} {n : Nat} (hk : ∀ x, (enc x).length = n) (zs : List α) {r : Nat} (hr : r ≤ zs.length) : (zs.flatMap enc).take (r * n) = (zs.take r).flatMap enc ∧ (zs.flatMap enc).drop (r * n) = (zs.drop r).flatMap enc := by
  have h1 : zs.flatMap enc = (zs.take r).flatMap enc ++ (zs.drop r).flatMap enc := by rw [← List.flatMap_append, List.take_append_drop]
  have h2 : ((zs.take r).flatMap enc).length = r * n := by
    have h3 : ∀ l : List α, (l.flatMap enc).length = l.length * n := by
      intro l
      induction l with
      | nil => simp
      | cons a l ih => rw [List.flatMap_cons, List.length_append, hk, ih, List.length_cons, Nat.succ_mul, Nat.add_comm]
    rw [h3, List.length_take, Nat.min_eq_left hr]
  rw [h1]
  exact ⟨List.take_left' h2, List.drop_left' h2⟩

/-- A row of the call's own, cut at place r. -/
theorem own_take {w : World} {B n c r : Nat} {e : TypeId} {a : Option Addr} {enc : α → List Value} (hk : ∀ x, (enc x).length = n) {zs : List α} (h : w.ownsRow B e n (.slice a zs.length c) zs.length (zs.flatMap enc)) (hr : r ≤ zs.length) :
    w.ownsRow B e n (.slice a r c) (zs.take r).length ((zs.take r).flatMap enc) := by
  have hl : (zs.take r).length = r := by rw [List.length_take, Nat.min_eq_left hr]
  have hlen : ((zs.take r).flatMap enc).length = r * n := by
    rw [← (flat_cut hk zs hr).1, List.length_take, h.1, Nat.min_eq_left (Nat.mul_le_mul_right n hr)]
  rw [hl]
  refine ⟨hlen, ?_⟩
  rcases h.2 with ⟨e0, hx⟩ | ⟨g, cap, cur, e0, hB, hg, hle, hcm, hcs, ht⟩
  · simp only [Value.slice.injEq] at e0
    obtain ⟨rfl, _, rfl⟩ := e0
    obtain rfl : r = 0 := by omega
    exact .inl ⟨rfl, rfl⟩
  · simp only [Value.slice.injEq, true_and] at e0
    obtain ⟨rfl, rfl⟩ := e0
    refine .inr ⟨g, c, cur, rfl, hB, hg, Nat.le_trans hr hle, hcm, hcs, ?_⟩
    rw [← (flat_cut hk zs hr).1, ← ht, List.take_take, Nat.min_eq_left (Nat.mul_le_mul_right n hr)]

/-- What stands in a row behind place r. -/
theorem own_from {w : World} {B n c r g : Nat} {e : TypeId} {enc : α → List Value} (hk : ∀ x, (enc x).length = n) {zs : List α} (h : w.ownsRow B e n (.slice (some ⟨g, 0, none⟩) zs.length c) zs.length (zs.flatMap enc)) (hr : r ≤ zs.length) :
    ∀ j u, ((zs.drop r).flatMap enc)[j]? = some u → w.cell? ((⟨g, r * n, none⟩ : Addr).add j) = some u := by
  intro j u hj
  rw [← (flat_cut hk zs hr).2, List.getElem?_drop] at hj
  have hlt : r * n + j < zs.length * n := by
    have := (List.getElem?_eq_some_iff.1 hj).1
    rwa [h.1] at this
  rw [add_plain, h.cellAt (r * n + j) hlt, hj]
end

theorem own_form2 {w : World} {B n m c : Nat} {e : TypeId} {a : Option Addr} {xs : List Value} (h : w.ownsRow B e n (.slice a m c) m xs) : (a = none ∧ m = 0 ∧ c = 0) ∨ ∃ g, a = some ⟨g, 0, none⟩ ∧ m ≤ c ∧ c ≤ 9223372036854775807 ∧ B ≤ g ∧ g < w.heap.size := by
  rcases h.2 with ⟨e0, hx⟩ | ⟨g, cap, cur, e0, hB, hg, hle, hcm, _, _⟩
  · simp only [Value.slice.injEq] at e0
    exact .inl ⟨e0.1, e0.2.1, e0.2.2⟩
  · simp only [Value.slice.injEq, true_and] at e0
    obtain ⟨rfl, rfl⟩ := e0
    exact .inr ⟨g, rfl, hle, by unfold maxLen at hcm; exact hcm, hB, (Array.getElem?_eq_some_iff.1 hg).1⟩
section
variable {P : Program}
end
end Go.Proofs.YtnmepemmpeboeaaGreat
namespace Go.Proofs.YtnmepemmpeboeaaGreat
open Go.ChangeShapes Go.WideShapes Go.ChangeAt Go.RowKit Go.Deep

def valsocc (y : DOccurrence) : List Value := [.int .i64 y.fPos, .string y.fName]
theorem toList_injP {a b : ByteArray} (h : a.toList = b.toList) : a = b := by
  rw [Lib.toList_data, Lib.toList_data] at h
  cases a; cases b
  congr 1
  exact Array.toList_inj.1 h
theorem ownsRow_atP {w : World} {B B' n len g c : Nat} {e : TypeId} {xs : List Value} (h : w.ownsRow B e n (.slice (some ⟨g, 0, none⟩) len c) len xs) (hB : B' ≤ g) : w.ownsRow B' e n (.slice (some ⟨g, 0, none⟩) len c) len xs := by
  obtain ⟨h1, h2⟩ := h
  refine ⟨h1, ?_⟩
  rcases h2 with ⟨h2, _⟩ | ⟨g', cap, cur, hv, _, hg, h3⟩
  · cases h2
  · have e1 : g = g' := by simp only [Value.slice.injEq, Option.some.injEq, Addr.mk.injEq, and_true] at hv; exact hv.1
    subst e1
    exact Or.inr ⟨g, cap, cur, hv, hB, hg, h3⟩
theorem take_cells {w : World} {B g c k : Nat} {l : List DOccurrence} (h : w.ownsRow B 68 2 (.slice (some ⟨g, 0, none⟩) l.length c) l.length (l.flatMap valsocc)) (hk : k ≤ l.length) :
    ∀ j u, ((l.take k).flatMap valsocc)[j]? = some u → w.cell? ((⟨g, 0, none⟩ : Addr).add j) = some u := by
  intro j u hj
  have h1 := own_take (enc := valsocc) (n := 2) (fun _ => rfl) h hk
  have hl : (l.take k).length = k := by rw [List.length_take, Nat.min_eq_left hk]
  have hlt : j < (l.take k).length * 2 := by
    have := (List.getElem?_eq_some_iff.1 hj).1
    rwa [h1.1] at this
  rw [hl] at h1 hlt
  rw [add_plain, Nat.zero_add, h1.cellAt j hlt, hj]
theorem valsocc_len (y : DOccurrence) : (valsocc y).length = 2 := rfl
theorem flat_len2 (l : List DOccurrence) : (l.flatMap valsocc).length = l.length * 2 := by
  induction l with
  | nil => rfl
  | cons y l ih => rw [List.flatMap_cons, List.length_append, ih, valsocc_len, List.length_cons]; omega
theorem flat_one (l : List DOccurrence) : ∀ u ∈ l.flatMap valsocc, u.oneCell' = true := by
  intro u hu
  obtain ⟨y, _, hy⟩ := List.mem_flatMap.1 hu
  simp only [valsocc, List.mem_cons, List.not_mem_nil, or_false] at hy
  rcases hy with rfl | rfl <;> rfl
theorem occ_cells {w : World} {B g c : Nat} {l : List DOccurrence} (h : w.ownsRow B 68 2 (.slice (some ⟨g, 0, none⟩) l.length c) l.length (l.flatMap valsocc)) {k : Nat} (hk : k < l.length) :
    w.cell? ⟨g, k * 2, none⟩ = some (.int .i64 (l.getD k default).fPos) ∧ w.cell? ⟨g, k * 2 + 1, none⟩ = some (.string (l.getD k default).fName) := by
  have h0 := flatR_at valsocc 2 valsocc_len l k 0 hk (by decide)
  have h1 := flatR_at valsocc 2 valsocc_len l k 1 hk (by decide)
  exact ⟨(h.cellAt (k * 2) (by omega)).trans h0, (h.cellAt (k * 2 + 1) (by omega)).trans h1⟩

set_option maxHeartbeats 16000000 in
set_option maxRecDepth 100000 in
theorem spec_l4Put {B g c : Nat} (l : List DOccurrence) (hl : l.length ≤ 4194304) (x : DOccurrence) (w : World) (hown : w.ownsRow B 68 2 (.slice (some ⟨g, 0, none⟩) l.length c) l.length (l.flatMap valsocc)) :
    Calls Tryz.prog 87 #[.slice (some ⟨g, 0, none⟩) l.length c, .agg #[.int .i64 x.fPos, .string x.fName]] w fun e w' => ∃ g' c', e = .returned (.slice (some ⟨g', 0, none⟩) (putL ltO x l).length c') ∧ w'.ownsRow B 68 2 (.slice (some ⟨g', 0, none⟩) (putL ltO x l).length c') (putL ltO x l).length ((putL ltO x l).flatMap valsocc) ∧ Below w.heap.size w w' := by
  have HB := Lib.hid ((Below.refl w.heap.size w).alloc (Nat.le_refl _) (.cells #[.int .i64 x.fPos, .string x.fName] 68))
  have HX := Lib.hid (show (w.alloc (.cells #[.int .i64 x.fPos, .string x.fName] 68)).heap[w.heap.size]? = some (.cells #[.int .i64 x.fPos, .string x.fName] 68) from blk_new rfl)
  have HSZ := Lib.hid (show (w.alloc (.cells #[.int .i64 x.fPos, .string x.fName] 68)).heap.size = w.heap.size + 1 by simp)
  have HO := Lib.hid hown
  have HGL := Lib.hid (show B ≤ g ∧ g < w.heap.size from hown.lt g rfl)
  have HPL := Lib.hid (fun k (hk : k ≤ l.length) h0 h1 => putL_at strictO x l k hk h0 h1)
  have HBF := Lib.hid (fun (y : DOccurrence) (W : World) => spec_l4Before y x W)
  clear hown
  obtain ⟨i0, hi', hz0, hz1, hz2⟩ := info_parts info_Occurrence
  go_enter Tryz.func87, Tryz.ntmps87
  go_wp2
  generalize w.alloc (.cells #[.int .i64 x.fPos, .string x.fName] 68) = w0 at *
  go_loopw [5] (fun i wr => ∃ k : Nat, k ≤ l.length ∧ i = .int .i64 (k : Int) ∧ (∀ j, j < k → ltO (l.getD j default) x = true) ∧ Below w0.heap.size w0 wr) (fun i _ => l.length - (intOf i).toNat)
  case atStart => exact ⟨0, Nat.zero_le _, rfl, fun j hj => absurd hj (Nat.not_lt_zero _), Below.refl _ _⟩
  case round =>
    obtain ⟨k, hk, rfl, hlow, hbl⟩ := hrel
    have HLOW := Lib.hid hlow
    have HBL := Lib.hid hbl
    have HBW := Lib.hid (HB.out.trans (hbl.mono HB.out.size))
    clear hlow hbl
    by_cases hlt : k < l.length
    · have hlI : (k : Int) < (l.length : Int) := by omega
      have HC := Lib.hid (occ_cells (ownsRow_below HO.out HBW.out) hlt)
      have HCK := Lib.hid (HBF.out (l.getD k default))
      cases hb : ltO (l.getD k default) x
      · skip
        rw [hb] at HCK
        have HLB := Lib.hid hb
        clear hb
        generalize hy : l.getD k default = y at *
        have HY := Lib.hid hy
        clear hy
        go_wp2_with fail
        have hkk := hk
        clear hk
        refine wp_region_freeK [([], .none, []), ([], .none, []), ([1], .none, []), ([0, 2], .none, []), ([3], .none, []), ([4], .none, []), ([4], .none, []), ([4, 5, 6], .none, []), ([4, 7], .none, []), ([4], .none, []), ([4, 8, 9], .none, []), ([4, 10], .none, [])] [0, 1, 2, 3, 4, 5, 6, 7, 8, 9, 10, 11] [] (fun _ => False) (fun _ => True) (fun _ => 0) (fun jq9 V L H wx => match jq9 with | 0 => V 0 = .int .i64 (k : Int) | 1 => V 1 = .slice (some ⟨g, 0, none⟩) l.length c | 2 => V 2 = .int .i64 (l.length : Int) | 3 => V 3 = .bool true | 4 => V 4 = .bool true | 5 => V 5 = .slice (some ⟨g, 0, none⟩) l.length c | 6 => V 6 = .int .i64 (k : Int) | 7 => V 7 = .pointer (some ⟨g, k * 2, none⟩) | 8 => V 8 = .agg #[.int .i64 y.fPos, .string y.fName] | 9 => V 9 = .agg #[.int .i64 x.fPos, .string x.fName] | 10 => V 10 = .bool false | 11 => V 11 = .bool false | _ => True) (by kernel_rfl) (by kernel_rfl) ?obs (fun _ h => h.elim) trivial (fun _ _ _ _ _ => trivial) ?loc ?lasts ?walk
        case obs =>
          trivial
        case loc =>
          intro k V V' L H wx h0 h1 hG
          match k with
          | 0 =>
            try dsimp only at hG ⊢
            rw [← h0]
            exact hG
          | 1 =>
            try dsimp only at hG ⊢
            rw [← h0]
            exact hG
          | 2 =>
            try dsimp only at hG ⊢
            rw [← h0]
            exact hG
          | 3 =>
            try dsimp only at hG ⊢
            rw [← h0]
            exact hG
          | 4 =>
            try dsimp only at hG ⊢
            rw [← h0]
            exact hG
          | 5 =>
            try dsimp only at hG ⊢
            rw [← h0]
            exact hG
          | 6 =>
            try dsimp only at hG ⊢
            rw [← h0]
            exact hG
          | 7 =>
            try dsimp only at hG ⊢
            rw [← h0]
            exact hG
          | 8 =>
            try dsimp only at hG ⊢
            rw [← h0]
            exact hG
          | 9 =>
            try dsimp only at hG ⊢
            rw [← h0]
            exact hG
          | 10 =>
            try dsimp only at hG ⊢
            rw [← h0]
            exact hG
          | 11 =>
            try dsimp only at hG ⊢
            rw [← h0]
            exact hG
          | n + 12 => trivial
        case lasts =>
          intro i hi V L H wx wy hB hH hk
          match i, hi with
          | 0, _ => exact fun h => h
          | 1, _ => exact fun h => h
          | 2, _ => exact fun h => h
          | 3, _ => exact fun h => h
          | 4, _ => exact fun h => h
          | 5, _ => exact fun h => h
          | 6, _ => exact fun h => h
          | 7, _ => exact fun h => h
          | 8, _ => exact fun h => h
          | 9, _ => exact fun h => h
          | 10, _ => exact fun h => h
          | 11, _ => exact fun h => h
          | n + 12, hn => exact absurd hn (by simp)
        case walk =>
          simp (maxSteps := 4000000) only [freeK, Nat.reduceAdd, Act.put, List.setIfInBounds_toArray, List.set_cons_succ, List.set_cons_zero]
          refine ⟨?_, ?_, ?_, ?_, ?_, ?_, ?_, ?_, ?_, ?_, ?_, ?_, ?_⟩
          · intro V L H wq hw hk hj hd
            clear hd
            go_wp2_with fail
            exact freePost _ rfl ⟨⟨WritesF.refl _ _, hj⟩, upd_self⟩
          · intro V L H wq hw hk hj hd
            clear hd
            go_wp2_with fail
            exact freePost _ rfl ⟨⟨WritesF.refl _ _, hj⟩, upd_self⟩
          · intro V L H wq hw hk hj hd
            obtain ⟨⟨hL1, hM1, hH1, hv1⟩, -⟩ := hd
            rw [hv1]
            have HV1 := Lib.hid hv1
            clear hv1
            go_wp2_with fail
            exact freePost _ rfl ⟨⟨WritesF.refl _ _, hj⟩, upd_self⟩
          · intro V L H wq hw hk hj hd
            obtain ⟨⟨hL0, hM0, hH0, hv0⟩, ⟨hL2, hM2, hH2, hv2⟩, -⟩ := hd
            rw [hv0, hv2]
            have HV0 := Lib.hid hv0
            have HV2 := Lib.hid hv2
            clear hv0 hv2
            go_wp2_with fail
            exact freePost _ rfl ⟨⟨WritesF.refl _ _, hj⟩, upd_self⟩
          · intro V L H wq hw hk hj hd
            obtain ⟨⟨hL3, hM3, hH3, hv3⟩, -⟩ := hd
            rw [hv3]
            have HV3 := Lib.hid hv3
            clear hv3
            go_wp2_with fail
            exact freePost _ rfl ⟨⟨WritesF.refl _ _, hj⟩, upd_self⟩
          · intro V L H wq hw hk hj hd
            obtain ⟨⟨hL4, hM4, hH4, hv4⟩, -⟩ := hd
            rw [hv4]
            have HV4 := Lib.hid hv4
            clear hv4
            go_wp2_with fail
            exact freePost _ rfl ⟨⟨WritesF.refl _ _, hj⟩, upd_self⟩
          · intro V L H wq hw hk hj hd
            obtain ⟨⟨hL4, hM4, hH4, hv4⟩, -⟩ := hd
            rw [hv4]
            have HV4 := Lib.hid hv4
            clear hv4
            go_wp2_with fail
            exact freePost _ rfl ⟨⟨WritesF.refl _ _, hj⟩, upd_self⟩
          · intro V L H wq hw hk hj hd
            obtain ⟨⟨hL4, hM4, hH4, hv4⟩, ⟨hL5, hM5, hH5, hv5⟩, ⟨hL6, hM6, hH6, hv6⟩, -⟩ := hd
            rw [hv4, hv5, hv6]
            have HV4 := Lib.hid hv4
            have HV5 := Lib.hid hv5
            have HV6 := Lib.hid hv6
            clear hv4 hv5 hv6
            go_wp2_with fail
            exact freePost _ rfl ⟨⟨WritesF.refl _ _, hj⟩, upd_self⟩
          · intro V L H wq hw hk hj hd
            obtain ⟨⟨hL4, hM4, hH4, hv4⟩, ⟨hL7, hM7, hH7, hv7⟩, -⟩ := hd
            rw [hv4, hv7]
            have HV4 := Lib.hid hv4
            have HV7 := Lib.hid hv7
            clear hv4 hv7
            have q0 : wq.cell? ⟨g, k * 2, none⟩ = some (.int .i64 y.fPos) := (hk.cell (p := ⟨g, k * 2, none⟩) ⟨(show g < wr.heap.size from Nat.lt_of_lt_of_le HGL.out.2 HBW.out.size), fun h => h, trivial⟩ (show g < wr.heap.size from Nat.lt_of_lt_of_le HGL.out.2 HBW.out.size)).trans HC.out.1
            have q1 : wq.cell? ⟨g, k * 2 + 1, none⟩ = some (.string y.fName) := (hk.cell (p := ⟨g, k * 2 + 1, none⟩) ⟨(show g < wr.heap.size from Nat.lt_of_lt_of_le HGL.out.2 HBW.out.size), fun h => h, trivial⟩ (show g < wr.heap.size from Nat.lt_of_lt_of_le HGL.out.2 HBW.out.size)).trans HC.out.2
            go_wp2_with fail
            exact freePost _ rfl ⟨⟨WritesF.refl _ _, hj⟩, upd_self⟩
          · intro V L H wq hw hk hj hd
            obtain ⟨⟨hL4, hM4, hH4, hv4⟩, -⟩ := hd
            rw [hv4]
            have HV4 := Lib.hid hv4
            clear hv4
            have x0 : wq.cell? ⟨w.heap.size, 0, none⟩ = some (.int .i64 x.fPos) := (hk.cell (p := ⟨w.heap.size, 0, none⟩) ⟨(show w.heap.size < wr.heap.size by have := HSZ.out; have := HBL.out.size; omega), fun h => h, trivial⟩ (show w.heap.size < wr.heap.size by have := HSZ.out; have := HBL.out.size; omega)).trans ((HBL.out.cell (p := ⟨w.heap.size, 0, none⟩) (show w.heap.size < w0.heap.size by have := HSZ.out; omega)).trans (pblk_cell HX.out rfl))
            have x1 : wq.cell? ⟨w.heap.size, 1, none⟩ = some (.string x.fName) := (hk.cell (p := ⟨w.heap.size, 1, none⟩) ⟨(show w.heap.size < wr.heap.size by have := HSZ.out; have := HBL.out.size; omega), fun h => h, trivial⟩ (show w.heap.size < wr.heap.size by have := HSZ.out; have := HBL.out.size; omega)).trans ((HBL.out.cell (p := ⟨w.heap.size, 1, none⟩) (show w.heap.size < w0.heap.size by have := HSZ.out; omega)).trans (pblk_cell HX.out rfl))
            go_wp2_with fail
            exact freePost _ rfl ⟨⟨WritesF.refl _ _, hj⟩, upd_self⟩
          · intro V L H wq hw hk hj hd
            obtain ⟨⟨hL4, hM4, hH4, hv4⟩, ⟨hL8, hM8, hH8, hv8⟩, ⟨hL9, hM9, hH9, hv9⟩, -⟩ := hd
            rw [hv4, hv8, hv9]
            have HV4 := Lib.hid hv4
            have HV8 := Lib.hid hv8
            have HV9 := Lib.hid hv9
            clear hv4 hv8 hv9
            go_wp2_with fail
            refine (HCK.out wq).mono ?_
            rintro e w2 ⟨rfl, hb2⟩
            go_wp2_with fail
            exact freePost _ rfl ⟨⟨(WritesF.refl _ _).later hb2, trivial⟩, upd_self⟩
          · intro V L H wq hw hk hj hd
            obtain ⟨⟨hL4, hM4, hH4, hv4⟩, ⟨hL10, hM10, hH10, hv10⟩, -⟩ := hd
            rw [hv4, hv10]
            have HV4 := Lib.hid hv4
            have HV10 := Lib.hid hv10
            clear hv4 hv10
            go_wp2_with fail
            exact freePost _ rfl ⟨⟨WritesF.refl _ _, hj⟩, upd_self⟩
          · intro V L H wq hw hj hd hap hdead
            obtain ⟨⟨hL0, hM0, hH0, hv0⟩, ⟨hL1, hM1, hH1, hv1⟩, ⟨hL2, hM2, hH2, hv2⟩, ⟨hL3, hM3, hH3, hv3⟩, ⟨hL4, hM4, hH4, hv4⟩, ⟨hL5, hM5, hH5, hv5⟩, ⟨hL6, hM6, hH6, hv6⟩, ⟨hL7, hM7, hH7, hv7⟩, ⟨hL8, hM8, hH8, hv8⟩, ⟨hL9, hM9, hH9, hv9⟩, ⟨hL10, hM10, hH10, hv10⟩, ⟨hL11, hM11, hH11, hv11⟩, -⟩ := hd
            rw [hv0, hv1, hv2, hv3, hv4, hv5, hv6, hv7, hv8, hv9, hv10, hv11]
            clear hv0 hv1 hv2 hv3 hv4 hv5 hv6 hv7 hv8 hv9 hv10 hv11
            have HBQ := Lib.hid (HBL.out.trans ((fa_noneK hw).mono HBL.out.size))
            clear hw hj hap hdead
            have HBZ := Lib.hid (HB.out.trans (HBQ.out.mono HB.out.size))
            have q0 : wq.cell? ⟨g, k * 2, none⟩ = some (.int .i64 y.fPos) := (occ_cells (ownsRow_below HO.out HBZ.out) hlt).1.trans (by rw [HY.out])
            have q1 : wq.cell? ⟨g, k * 2 + 1, none⟩ = some (.string y.fName) := (occ_cells (ownsRow_below HO.out HBZ.out) hlt).2.trans (by rw [HY.out])
            have x0 : wq.cell? ⟨w.heap.size, 0, none⟩ = some (.int .i64 x.fPos) := (HBQ.out.cell (p := ⟨w.heap.size, 0, none⟩) (show w.heap.size < w0.heap.size by have := HSZ.out; omega)).trans (pblk_cell HX.out rfl)
            have x1 : wq.cell? ⟨w.heap.size, 1, none⟩ = some (.string x.fName) := (HBQ.out.cell (p := ⟨w.heap.size, 1, none⟩) (show w.heap.size < w0.heap.size by have := HSZ.out; omega)).trans (pblk_cell HX.out rfl)
            have hput := HPL.out k hkk HLOW.out (fun _ => by rw [HY.out]; exact HLB.out)
            rw [HY.out] at hput
            clear HPL HBF HCK HC HLOW HLB HBL HBW
            by_cases hxy : y = x
            · subst hxy
              have HE := Lib.hid (show putL ltO y l = l from hput.elim (fun h => h.2.2) fun h => absurd rfl (h.1 hlt))
              clear hput
              go_wp2_with fail
              go_quiet (fail)
              go_wp2
              go_ret
              refine ⟨g, c, ?_⟩
              rw [HE.out]
              exact ⟨rfl, ownsRow_below HO.out (below_drewN HBZ.out _), below_drewN HBZ.out _⟩
            · have HE := Lib.hid (show putL ltO x l = l.take k ++ [x] ++ l.drop k from hput.elim (fun h => absurd h.2.1 hxy) fun h => h.2)
              clear hput
              obtain ⟨yp, yn⟩ := y
              dsimp only at *
              by_cases h1 : yp = x.fPos
              · subst h1
                have hne : yn ≠ x.fName := fun e => hxy (by subst e; rfl)
                have e2 : (yn.toList == x.fName.toList) = false := beq_eq_false_iff_ne.2 fun e => hne (toList_injP e)
                have e3 : (x.fName.toList == yn.toList) = false := beq_eq_false_iff_ne.2 fun e => hne (toList_injP e.symm)
                clear hxy hne
                go_wp2_with fail
                go_quiet (fail)
                have hkc : k ≤ c := Nat.le_trans hkk (own_cap HO.out).1
                have hkc2 : ¬ c = k := by have := (own_cap HO.out).1; omega
                have HBD := Lib.hid (below_drewN HBZ.out nq)
                have HXL := Lib.hid (show w.heap.size < (wq.drewN nq).heap.size from Nat.lt_of_lt_of_le (show w.heap.size < w0.heap.size by have := HSZ.out; omega) HBQ.out.size)
                have X0 := Lib.hid (show (wq.drewN nq).cell? ⟨w.heap.size, 0, none⟩ = some (.int .i64 x.fPos) from x0)
                have X1 := Lib.hid (show (wq.drewN nq).cell? ⟨w.heap.size, 1, none⟩ = some (.string x.fName) from x1)
                clear q0 q1 x0 x1
                generalize wq.drewN nq = wz at HBD HXL X0 X1 ⊢
                have HB9 := Lib.hid (HBD.out.alloc HBD.out.size (.cells #[] 68))
                have HTC := Lib.hid (take_cells HO.out hkk)
                have HDC := Lib.hid (own_from valsocc_len HO.out hkk)
                go_wp2_with (first | (at_builtin; refine wpList_append_at rfl (.tmp 34) (.tmp 37) 59 rfl w.heap.size 68 i0 (.agg #[.int .i64 0, .string ⟨#[]⟩]) 2 24 Tryz.underlying59 hi' hz0 hz1 hz2 rfl (by decide) _ 0 [] rfl (World.ownsRow_made _ #[] 0 HBD.out.size (Nat.zero_le _) rfl) ⟨g, 0, none⟩ k c ((l.take k).flatMap valsocc) rfl (by rw [flat_len2, List.length_take, Nat.min_eq_left hkk]) (fun j u hj => (HB9.out.cell (p := (⟨g, 0, none⟩ : Addr).add j) (by rw [add_plain]; exact HGL.out.2)).trans (HTC.out j u hj)) (flat_one _) (by unfold maxLen; omega) (by omega) HB9.out.size ?_; intro v6 w6 hown6 hgrow6 hat6; have hb6 : Below wz.heap.size wz w6 := ((Below.refl _ wz).alloc (Nat.le_refl _) _).grown hgrow6 (by simp) (fun r hr => by injection hr with hr; exact Nat.le_of_eq hr); have p0 := (hb6.cell (p := ⟨w.heap.size, 0, none⟩) HXL.out).trans X0.out; have p1 := (hb6.cell (p := ⟨w.heap.size, 1, none⟩) HXL.out).trans X1.out; have HB6 := Lib.hid (HBD.out.trans (hb6.mono HBD.out.size)); have HO6 := Lib.hid hown6; have HR6 := Lib.hid (fun r (h : v6.ownBlock = some r) => (hown6.lt r h).1); clear hb6 hown6 hgrow6 hat6) | (at_builtin; refine wpList_append_at rfl (.tmp 39) (.tmp 41) 59 rfl w.heap.size 68 i0 (.agg #[.int .i64 0, .string ⟨#[]⟩]) 2 24 Tryz.underlying59 hi' hz0 hz1 hz2 rfl (by decide) v6 (0 + k) _ rfl (HO6.out.alloc _) ⟨w6.heap.size, 0, none⟩ 1 1 (valsocc x) rfl rfl (cells_at (blk_new rfl)) (by intro u hu; simp [valsocc] at hu; rcases hu with rfl | rfl <;> rfl) (by unfold maxLen; omega) (by omega) (Nat.le_trans HB6.out.size (by simp)) ?_; intro v7 w7 hown7 hgrow7 hat7; have HB7 := Lib.hid ((HB6.out.alloc HB6.out.size (.cells #[.int .i64 x.fPos, .string x.fName] 68)).grown hgrow7 (Nat.le_trans HB6.out.size (by simp)) HR6.out); have HO7 := Lib.hid hown7; have HR7 := Lib.hid (fun r (h : v7.ownBlock = some r) => (hown7.lt r h).1); clear hown7 hgrow7 hat7) | (at_builtin; refine wpList_append_at rfl (.tmp 43) (.tmp 46) 59 rfl w.heap.size 68 i0 (.agg #[.int .i64 0, .string ⟨#[]⟩]) 2 24 Tryz.underlying59 hi' hz0 hz1 hz2 rfl (by decide) v7 (0 + k + 1) _ rfl HO7.out ⟨g, k * 2, none⟩ (l.length - k) (c - k) ((l.drop k).flatMap valsocc) rfl (by rw [flat_len2, List.length_drop]) (fun j u hj => (HB7.out.cell (p := (⟨g, k * 2, none⟩ : Addr).add j) (by rw [add_plain]; exact HGL.out.2)).trans (HDC.out j u hj)) (flat_one _) (by unfold maxLen; omega) (by omega) HB7.out.size ?_; intro v8 w8 hown8 hgrow8 hat8; have HB8 := Lib.hid (HB7.out.grown hgrow8 HB7.out.size HR7.out); have HO8 := Lib.hid hown8; clear hown8 hgrow8 hat8))
                obtain ⟨g8, c8, e8, hB8, _⟩ := own_some HO8.out (by omega)
                rw [e8]
                go_ret
                refine ⟨g8, c8, ?_⟩
                have h8 := HO8.out
                rw [e8] at h8
                have hlen : (l.take k ++ [x] ++ l.drop k).length = 0 + k + 1 + (l.length - k) := by rw [List.length_append, List.length_append, List.length_take, List.length_drop, Nat.min_eq_left hkk, List.length_singleton]; omega
                rw [HE.out, hlen]
                refine ⟨rfl, ?_, HB8.out⟩
                rw [List.flatMap_append, List.flatMap_append]
                exact ownsRow_atP h8 (Nat.le_trans HGL.out.1 (Nat.le_trans (Nat.le_of_lt HGL.out.2) hB8))
              · have e1 : (yp == x.fPos) = false := beq_eq_false_iff_ne.2 h1
                have e2 : (x.fPos == yp) = false := beq_eq_false_iff_ne.2 (Ne.symm h1)
                clear hxy h1
                go_wp2_with fail
                go_quiet (fail)
                have hkc : k ≤ c := Nat.le_trans hkk (own_cap HO.out).1
                have hkc2 : ¬ c = k := by have := (own_cap HO.out).1; omega
                have HBD := Lib.hid (below_drewN HBZ.out nq)
                have HXL := Lib.hid (show w.heap.size < (wq.drewN nq).heap.size from Nat.lt_of_lt_of_le (show w.heap.size < w0.heap.size by have := HSZ.out; omega) HBQ.out.size)
                have X0 := Lib.hid (show (wq.drewN nq).cell? ⟨w.heap.size, 0, none⟩ = some (.int .i64 x.fPos) from x0)
                have X1 := Lib.hid (show (wq.drewN nq).cell? ⟨w.heap.size, 1, none⟩ = some (.string x.fName) from x1)
                clear q0 q1 x0 x1
                generalize wq.drewN nq = wz at HBD HXL X0 X1 ⊢
                have HB9 := Lib.hid (HBD.out.alloc HBD.out.size (.cells #[] 68))
                have HTC := Lib.hid (take_cells HO.out hkk)
                have HDC := Lib.hid (own_from valsocc_len HO.out hkk)
                go_wp2_with (first | (at_builtin; refine wpList_append_at rfl (.tmp 34) (.tmp 37) 59 rfl w.heap.size 68 i0 (.agg #[.int .i64 0, .string ⟨#[]⟩]) 2 24 Tryz.underlying59 hi' hz0 hz1 hz2 rfl (by decide) _ 0 [] rfl (World.ownsRow_made _ #[] 0 HBD.out.size (Nat.zero_le _) rfl) ⟨g, 0, none⟩ k c ((l.take k).flatMap valsocc) rfl (by rw [flat_len2, List.length_take, Nat.min_eq_left hkk]) (fun j u hj => (HB9.out.cell (p := (⟨g, 0, none⟩ : Addr).add j) (by rw [add_plain]; exact HGL.out.2)).trans (HTC.out j u hj)) (flat_one _) (by unfold maxLen; omega) (by omega) HB9.out.size ?_; intro v6 w6 hown6 hgrow6 hat6; have hb6 : Below wz.heap.size wz w6 := ((Below.refl _ wz).alloc (Nat.le_refl _) _).grown hgrow6 (by simp) (fun r hr => by injection hr with hr; exact Nat.le_of_eq hr); have p0 := (hb6.cell (p := ⟨w.heap.size, 0, none⟩) HXL.out).trans X0.out; have p1 := (hb6.cell (p := ⟨w.heap.size, 1, none⟩) HXL.out).trans X1.out; have HB6 := Lib.hid (HBD.out.trans (hb6.mono HBD.out.size)); have HO6 := Lib.hid hown6; have HR6 := Lib.hid (fun r (h : v6.ownBlock = some r) => (hown6.lt r h).1); clear hb6 hown6 hgrow6 hat6) | (at_builtin; refine wpList_append_at rfl (.tmp 39) (.tmp 41) 59 rfl w.heap.size 68 i0 (.agg #[.int .i64 0, .string ⟨#[]⟩]) 2 24 Tryz.underlying59 hi' hz0 hz1 hz2 rfl (by decide) v6 (0 + k) _ rfl (HO6.out.alloc _) ⟨w6.heap.size, 0, none⟩ 1 1 (valsocc x) rfl rfl (cells_at (blk_new rfl)) (by intro u hu; simp [valsocc] at hu; rcases hu with rfl | rfl <;> rfl) (by unfold maxLen; omega) (by omega) (Nat.le_trans HB6.out.size (by simp)) ?_; intro v7 w7 hown7 hgrow7 hat7; have HB7 := Lib.hid ((HB6.out.alloc HB6.out.size (.cells #[.int .i64 x.fPos, .string x.fName] 68)).grown hgrow7 (Nat.le_trans HB6.out.size (by simp)) HR6.out); have HO7 := Lib.hid hown7; have HR7 := Lib.hid (fun r (h : v7.ownBlock = some r) => (hown7.lt r h).1); clear hown7 hgrow7 hat7) | (at_builtin; refine wpList_append_at rfl (.tmp 43) (.tmp 46) 59 rfl w.heap.size 68 i0 (.agg #[.int .i64 0, .string ⟨#[]⟩]) 2 24 Tryz.underlying59 hi' hz0 hz1 hz2 rfl (by decide) v7 (0 + k + 1) _ rfl HO7.out ⟨g, k * 2, none⟩ (l.length - k) (c - k) ((l.drop k).flatMap valsocc) rfl (by rw [flat_len2, List.length_drop]) (fun j u hj => (HB7.out.cell (p := (⟨g, k * 2, none⟩ : Addr).add j) (by rw [add_plain]; exact HGL.out.2)).trans (HDC.out j u hj)) (flat_one _) (by unfold maxLen; omega) (by omega) HB7.out.size ?_; intro v8 w8 hown8 hgrow8 hat8; have HB8 := Lib.hid (HB7.out.grown hgrow8 HB7.out.size HR7.out); have HO8 := Lib.hid hown8; clear hown8 hgrow8 hat8))
                obtain ⟨g8, c8, e8, hB8, _⟩ := own_some HO8.out (by omega)
                rw [e8]
                go_ret
                refine ⟨g8, c8, ?_⟩
                have h8 := HO8.out
                rw [e8] at h8
                have hlen : (l.take k ++ [x] ++ l.drop k).length = 0 + k + 1 + (l.length - k) := by rw [List.length_append, List.length_append, List.length_take, List.length_drop, Nat.min_eq_left hkk, List.length_singleton]; omega
                rw [HE.out, hlen]
                refine ⟨rfl, ?_, HB8.out⟩
                rw [List.flatMap_append, List.flatMap_append]
                exact ownsRow_atP h8 (Nat.le_trans HGL.out.1 (Nat.le_trans (Nat.le_of_lt HGL.out.2) hB8))
      · skip
        rw [hb] at HCK
        have HLB := Lib.hid hb
        clear hb
        generalize hy : l.getD k default = y at *
        have HY := Lib.hid hy
        clear hy
        go_wp2_with fail
        have hkk := hk
        clear hk
        refine wp_region_freeK [([], .none, []), ([], .none, []), ([1], .none, []), ([0, 2], .none, []), ([3], .none, []), ([4], .none, []), ([4], .none, []), ([4, 5, 6], .none, []), ([4, 7], .none, []), ([4], .none, []), ([4, 8, 9], .none, []), ([4, 10], .none, [])] [0, 1, 2, 3, 4, 5, 6, 7, 8, 9, 10, 11] [] (fun _ => False) (fun _ => True) (fun _ => 0) (fun jq9 V L H wx => match jq9 with | 0 => V 0 = .int .i64 (k : Int) | 1 => V 1 = .slice (some ⟨g, 0, none⟩) l.length c | 2 => V 2 = .int .i64 (l.length : Int) | 3 => V 3 = .bool true | 4 => V 4 = .bool true | 5 => V 5 = .slice (some ⟨g, 0, none⟩) l.length c | 6 => V 6 = .int .i64 (k : Int) | 7 => V 7 = .pointer (some ⟨g, k * 2, none⟩) | 8 => V 8 = .agg #[.int .i64 y.fPos, .string y.fName] | 9 => V 9 = .agg #[.int .i64 x.fPos, .string x.fName] | 10 => V 10 = .bool true | 11 => V 11 = .bool true | _ => True) (by kernel_rfl) (by kernel_rfl) ?obs (fun _ h => h.elim) trivial (fun _ _ _ _ _ => trivial) ?loc ?lasts ?walk
        case obs =>
          trivial
        case loc =>
          intro k V V' L H wx h0 h1 hG
          match k with
          | 0 =>
            try dsimp only at hG ⊢
            rw [← h0]
            exact hG
          | 1 =>
            try dsimp only at hG ⊢
            rw [← h0]
            exact hG
          | 2 =>
            try dsimp only at hG ⊢
            rw [← h0]
            exact hG
          | 3 =>
            try dsimp only at hG ⊢
            rw [← h0]
            exact hG
          | 4 =>
            try dsimp only at hG ⊢
            rw [← h0]
            exact hG
          | 5 =>
            try dsimp only at hG ⊢
            rw [← h0]
            exact hG
          | 6 =>
            try dsimp only at hG ⊢
            rw [← h0]
            exact hG
          | 7 =>
            try dsimp only at hG ⊢
            rw [← h0]
            exact hG
          | 8 =>
            try dsimp only at hG ⊢
            rw [← h0]
            exact hG
          | 9 =>
            try dsimp only at hG ⊢
            rw [← h0]
            exact hG
          | 10 =>
            try dsimp only at hG ⊢
            rw [← h0]
            exact hG
          | 11 =>
            try dsimp only at hG ⊢
            rw [← h0]
            exact hG
          | n + 12 => trivial
        case lasts =>
          intro i hi V L H wx wy hB hH hk
          match i, hi with
          | 0, _ => exact fun h => h
          | 1, _ => exact fun h => h
          | 2, _ => exact fun h => h
          | 3, _ => exact fun h => h
          | 4, _ => exact fun h => h
          | 5, _ => exact fun h => h
          | 6, _ => exact fun h => h
          | 7, _ => exact fun h => h
          | 8, _ => exact fun h => h
          | 9, _ => exact fun h => h
          | 10, _ => exact fun h => h
          | 11, _ => exact fun h => h
          | n + 12, hn => exact absurd hn (by simp)
        case walk =>
          simp (maxSteps := 4000000) only [freeK, Nat.reduceAdd, Act.put, List.setIfInBounds_toArray, List.set_cons_succ, List.set_cons_zero]
          refine ⟨?_, ?_, ?_, ?_, ?_, ?_, ?_, ?_, ?_, ?_, ?_, ?_, ?_⟩
          · intro V L H wq hw hk hj hd
            clear hd
            go_wp2_with fail
            exact freePost _ rfl ⟨⟨WritesF.refl _ _, hj⟩, upd_self⟩
          · intro V L H wq hw hk hj hd
            clear hd
            go_wp2_with fail
            exact freePost _ rfl ⟨⟨WritesF.refl _ _, hj⟩, upd_self⟩
          · intro V L H wq hw hk hj hd
            obtain ⟨⟨hL1, hM1, hH1, hv1⟩, -⟩ := hd
            rw [hv1]
            have HV1 := Lib.hid hv1
            clear hv1
            go_wp2_with fail
            exact freePost _ rfl ⟨⟨WritesF.refl _ _, hj⟩, upd_self⟩
          · intro V L H wq hw hk hj hd
            obtain ⟨⟨hL0, hM0, hH0, hv0⟩, ⟨hL2, hM2, hH2, hv2⟩, -⟩ := hd
            rw [hv0, hv2]
            have HV0 := Lib.hid hv0
            have HV2 := Lib.hid hv2
            clear hv0 hv2
            go_wp2_with fail
            exact freePost _ rfl ⟨⟨WritesF.refl _ _, hj⟩, upd_self⟩
          · intro V L H wq hw hk hj hd
            obtain ⟨⟨hL3, hM3, hH3, hv3⟩, -⟩ := hd
            rw [hv3]
            have HV3 := Lib.hid hv3
            clear hv3
            go_wp2_with fail
            exact freePost _ rfl ⟨⟨WritesF.refl _ _, hj⟩, upd_self⟩
          · intro V L H wq hw hk hj hd
            obtain ⟨⟨hL4, hM4, hH4, hv4⟩, -⟩ := hd
            rw [hv4]
            have HV4 := Lib.hid hv4
            clear hv4
            go_wp2_with fail
            exact freePost _ rfl ⟨⟨WritesF.refl _ _, hj⟩, upd_self⟩
          · intro V L H wq hw hk hj hd
            obtain ⟨⟨hL4, hM4, hH4, hv4⟩, -⟩ := hd
            rw [hv4]
            have HV4 := Lib.hid hv4
            clear hv4
            go_wp2_with fail
            exact freePost _ rfl ⟨⟨WritesF.refl _ _, hj⟩, upd_self⟩
          · intro V L H wq hw hk hj hd
            obtain ⟨⟨hL4, hM4, hH4, hv4⟩, ⟨hL5, hM5, hH5, hv5⟩, ⟨hL6, hM6, hH6, hv6⟩, -⟩ := hd
            rw [hv4, hv5, hv6]
            have HV4 := Lib.hid hv4
            have HV5 := Lib.hid hv5
            have HV6 := Lib.hid hv6
            clear hv4 hv5 hv6
            go_wp2_with fail
            exact freePost _ rfl ⟨⟨WritesF.refl _ _, hj⟩, upd_self⟩
          · intro V L H wq hw hk hj hd
            obtain ⟨⟨hL4, hM4, hH4, hv4⟩, ⟨hL7, hM7, hH7, hv7⟩, -⟩ := hd
            rw [hv4, hv7]
            have HV4 := Lib.hid hv4
            have HV7 := Lib.hid hv7
            clear hv4 hv7
            have q0 : wq.cell? ⟨g, k * 2, none⟩ = some (.int .i64 y.fPos) := (hk.cell (p := ⟨g, k * 2, none⟩) ⟨(show g < wr.heap.size from Nat.lt_of_lt_of_le HGL.out.2 HBW.out.size), fun h => h, trivial⟩ (show g < wr.heap.size from Nat.lt_of_lt_of_le HGL.out.2 HBW.out.size)).trans HC.out.1
            have q1 : wq.cell? ⟨g, k * 2 + 1, none⟩ = some (.string y.fName) := (hk.cell (p := ⟨g, k * 2 + 1, none⟩) ⟨(show g < wr.heap.size from Nat.lt_of_lt_of_le HGL.out.2 HBW.out.size), fun h => h, trivial⟩ (show g < wr.heap.size from Nat.lt_of_lt_of_le HGL.out.2 HBW.out.size)).trans HC.out.2
            go_wp2_with fail
            exact freePost _ rfl ⟨⟨WritesF.refl _ _, hj⟩, upd_self⟩
          · intro V L H wq hw hk hj hd
            obtain ⟨⟨hL4, hM4, hH4, hv4⟩, -⟩ := hd
            rw [hv4]
            have HV4 := Lib.hid hv4
            clear hv4
            have x0 : wq.cell? ⟨w.heap.size, 0, none⟩ = some (.int .i64 x.fPos) := (hk.cell (p := ⟨w.heap.size, 0, none⟩) ⟨(show w.heap.size < wr.heap.size by have := HSZ.out; have := HBL.out.size; omega), fun h => h, trivial⟩ (show w.heap.size < wr.heap.size by have := HSZ.out; have := HBL.out.size; omega)).trans ((HBL.out.cell (p := ⟨w.heap.size, 0, none⟩) (show w.heap.size < w0.heap.size by have := HSZ.out; omega)).trans (pblk_cell HX.out rfl))
            have x1 : wq.cell? ⟨w.heap.size, 1, none⟩ = some (.string x.fName) := (hk.cell (p := ⟨w.heap.size, 1, none⟩) ⟨(show w.heap.size < wr.heap.size by have := HSZ.out; have := HBL.out.size; omega), fun h => h, trivial⟩ (show w.heap.size < wr.heap.size by have := HSZ.out; have := HBL.out.size; omega)).trans ((HBL.out.cell (p := ⟨w.heap.size, 1, none⟩) (show w.heap.size < w0.heap.size by have := HSZ.out; omega)).trans (pblk_cell HX.out rfl))
            go_wp2_with fail
            exact freePost _ rfl ⟨⟨WritesF.refl _ _, hj⟩, upd_self⟩
          · intro V L H wq hw hk hj hd
            obtain ⟨⟨hL4, hM4, hH4, hv4⟩, ⟨hL8, hM8, hH8, hv8⟩, ⟨hL9, hM9, hH9, hv9⟩, -⟩ := hd
            rw [hv4, hv8, hv9]
            have HV4 := Lib.hid hv4
            have HV8 := Lib.hid hv8
            have HV9 := Lib.hid hv9
            clear hv4 hv8 hv9
            go_wp2_with fail
            refine (HCK.out wq).mono ?_
            rintro e w2 ⟨rfl, hb2⟩
            go_wp2_with fail
            exact freePost _ rfl ⟨⟨(WritesF.refl _ _).later hb2, trivial⟩, upd_self⟩
          · intro V L H wq hw hk hj hd
            obtain ⟨⟨hL4, hM4, hH4, hv4⟩, ⟨hL10, hM10, hH10, hv10⟩, -⟩ := hd
            rw [hv4, hv10]
            have HV4 := Lib.hid hv4
            have HV10 := Lib.hid hv10
            clear hv4 hv10
            go_wp2_with fail
            exact freePost _ rfl ⟨⟨WritesF.refl _ _, hj⟩, upd_self⟩
          · intro V L H wq hw hj hd hap hdead
            obtain ⟨⟨hL0, hM0, hH0, hv0⟩, ⟨hL1, hM1, hH1, hv1⟩, ⟨hL2, hM2, hH2, hv2⟩, ⟨hL3, hM3, hH3, hv3⟩, ⟨hL4, hM4, hH4, hv4⟩, ⟨hL5, hM5, hH5, hv5⟩, ⟨hL6, hM6, hH6, hv6⟩, ⟨hL7, hM7, hH7, hv7⟩, ⟨hL8, hM8, hH8, hv8⟩, ⟨hL9, hM9, hH9, hv9⟩, ⟨hL10, hM10, hH10, hv10⟩, ⟨hL11, hM11, hH11, hv11⟩, -⟩ := hd
            rw [hv0, hv1, hv2, hv3, hv4, hv5, hv6, hv7, hv8, hv9, hv10, hv11]
            clear hv0 hv1 hv2 hv3 hv4 hv5 hv6 hv7 hv8 hv9 hv10 hv11
            have HBQ := Lib.hid (HBL.out.trans ((fa_noneK hw).mono HBL.out.size))
            clear hw hj hap hdead
            go_wp2
            go_roundw
            case rel => exact ⟨k + 1, by omega, by go_num, fun j hj => by
                rcases Nat.lt_or_ge j k with h | h
                · exact HLOW.out j h
                · obtain rfl : j = k := by omega
                  rw [HY.out]; exact HLB.out, HBQ.out⟩
            case measure => simp [intOf]; omega
    · have hkk := hk
      have hke : l.length = k := by omega
      have hd : decide ((k : Int) < (l.length : Int)) = false := by rw [hke]; simp
      clear hke
      have hput := HPL.out k hkk HLOW.out (fun h => absurd h hlt)
      have HE := Lib.hid (show putL ltO x l = l.take k ++ [x] ++ l.drop k from hput.elim (fun h => absurd h.1 hlt) fun h => h.2)
      clear hput HPL HBF HLOW hk
      go_wp2_with fail
      go_quiet (fail)
      have HBQ := Lib.hid (below_drewN HBL.out nq)
      have HBZ := Lib.hid (below_drewN HBW.out nq)
      generalize wr.drewN nq = wq at HBQ HBZ ⊢
      have x0 : wq.cell? ⟨w.heap.size, 0, none⟩ = some (.int .i64 x.fPos) := (HBQ.out.cell (p := ⟨w.heap.size, 0, none⟩) (show w.heap.size < w0.heap.size by have := HSZ.out; omega)).trans (pblk_cell HX.out rfl)
      have x1 : wq.cell? ⟨w.heap.size, 1, none⟩ = some (.string x.fName) := (HBQ.out.cell (p := ⟨w.heap.size, 1, none⟩) (show w.heap.size < w0.heap.size by have := HSZ.out; omega)).trans (pblk_cell HX.out rfl)
      clear HBL HBW
      go_wp2_with fail
      go_quiet (fail)
      by_cases hc : c = k
      · have hc2 : k = c := hc.symm
        clear hc
        subst hc2
        have hkc : k ≤ k := Nat.le_refl _
        skip
        have HBD := Lib.hid (below_drewN HBZ.out nq)
        have HXL := Lib.hid (show w.heap.size < (wq.drewN nq).heap.size from Nat.lt_of_lt_of_le (show w.heap.size < w0.heap.size by have := HSZ.out; omega) HBQ.out.size)
        have X0 := Lib.hid (show (wq.drewN nq).cell? ⟨w.heap.size, 0, none⟩ = some (.int .i64 x.fPos) from x0)
        have X1 := Lib.hid (show (wq.drewN nq).cell? ⟨w.heap.size, 1, none⟩ = some (.string x.fName) from x1)
        clear x0 x1
        generalize wq.drewN nq = wz at HBD HXL X0 X1 ⊢
        have HB9 := Lib.hid (HBD.out.alloc HBD.out.size (.cells #[] 68))
        have HTC := Lib.hid (take_cells HO.out hkk)
        have HDC := Lib.hid (own_from valsocc_len HO.out hkk)
        go_wp2_with (first | (at_builtin; refine wpList_append_at rfl (.tmp 34) (.tmp 37) 59 rfl w.heap.size 68 i0 (.agg #[.int .i64 0, .string ⟨#[]⟩]) 2 24 Tryz.underlying59 hi' hz0 hz1 hz2 rfl (by decide) _ 0 [] rfl (World.ownsRow_made _ #[] 0 HBD.out.size (Nat.zero_le _) rfl) ⟨g, 0, none⟩ k k ((l.take k).flatMap valsocc) rfl (by rw [flat_len2, List.length_take, Nat.min_eq_left hkk]) (fun j u hj => (HB9.out.cell (p := (⟨g, 0, none⟩ : Addr).add j) (by rw [add_plain]; exact HGL.out.2)).trans (HTC.out j u hj)) (flat_one _) (by unfold maxLen; omega) (by omega) HB9.out.size ?_; intro v6 w6 hown6 hgrow6 hat6; have hb6 : Below wz.heap.size wz w6 := ((Below.refl _ wz).alloc (Nat.le_refl _) _).grown hgrow6 (by simp) (fun r hr => by injection hr with hr; exact Nat.le_of_eq hr); have p0 := (hb6.cell (p := ⟨w.heap.size, 0, none⟩) HXL.out).trans X0.out; have p1 := (hb6.cell (p := ⟨w.heap.size, 1, none⟩) HXL.out).trans X1.out; have HB6 := Lib.hid (HBD.out.trans (hb6.mono HBD.out.size)); have HO6 := Lib.hid hown6; have HR6 := Lib.hid (fun r (h : v6.ownBlock = some r) => (hown6.lt r h).1); clear hb6 hown6 hgrow6 hat6) | (at_builtin; refine wpList_append_at rfl (.tmp 39) (.tmp 41) 59 rfl w.heap.size 68 i0 (.agg #[.int .i64 0, .string ⟨#[]⟩]) 2 24 Tryz.underlying59 hi' hz0 hz1 hz2 rfl (by decide) v6 (0 + k) _ rfl (HO6.out.alloc _) ⟨w6.heap.size, 0, none⟩ 1 1 (valsocc x) rfl rfl (cells_at (blk_new rfl)) (by intro u hu; simp [valsocc] at hu; rcases hu with rfl | rfl <;> rfl) (by unfold maxLen; omega) (by omega) (Nat.le_trans HB6.out.size (by simp)) ?_; intro v7 w7 hown7 hgrow7 hat7; have HB7 := Lib.hid ((HB6.out.alloc HB6.out.size (.cells #[.int .i64 x.fPos, .string x.fName] 68)).grown hgrow7 (Nat.le_trans HB6.out.size (by simp)) HR6.out); have HO7 := Lib.hid hown7; have HR7 := Lib.hid (fun r (h : v7.ownBlock = some r) => (hown7.lt r h).1); clear hown7 hgrow7 hat7) | (at_builtin; refine wpList_append_at rfl (.tmp 43) (.tmp 46) 59 rfl w.heap.size 68 i0 (.agg #[.int .i64 0, .string ⟨#[]⟩]) 2 24 Tryz.underlying59 hi' hz0 hz1 hz2 rfl (by decide) v7 (0 + k + 1) _ rfl HO7.out ⟨g, 0, none⟩ (l.length - k) _ ((l.drop k).flatMap valsocc) rfl (by rw [flat_len2, List.length_drop]) (fun j u hj => by rw [List.drop_eq_nil_of_le (by omega)] at hj; cases hj) (flat_one _) (by unfold maxLen; omega) (by omega) HB7.out.size ?_; intro v8 w8 hown8 hgrow8 hat8; have HB8 := Lib.hid (HB7.out.grown hgrow8 HB7.out.size HR7.out); have HO8 := Lib.hid hown8; clear hown8 hgrow8 hat8))
        obtain ⟨g8, c8, e8, hB8, _⟩ := own_some HO8.out (by omega)
        rw [e8]
        go_ret
        refine ⟨g8, c8, ?_⟩
        have h8 := HO8.out
        rw [e8] at h8
        have hlen : (l.take k ++ [x] ++ l.drop k).length = 0 + k + 1 + (l.length - k) := by rw [List.length_append, List.length_append, List.length_take, List.length_drop, Nat.min_eq_left hkk, List.length_singleton]; omega
        rw [HE.out, hlen]
        refine ⟨rfl, ?_, HB8.out⟩
        rw [List.flatMap_append, List.flatMap_append]
        exact ownsRow_atP h8 (Nat.le_trans HGL.out.1 (Nat.le_trans (Nat.le_of_lt HGL.out.2) hB8))
      · have hkc2 : ¬ c = k := hc
        have hkc : k ≤ c := Nat.le_trans hkk (own_cap HO.out).1
        skip
        have HBD := Lib.hid (below_drewN HBZ.out nq)
        have HXL := Lib.hid (show w.heap.size < (wq.drewN nq).heap.size from Nat.lt_of_lt_of_le (show w.heap.size < w0.heap.size by have := HSZ.out; omega) HBQ.out.size)
        have X0 := Lib.hid (show (wq.drewN nq).cell? ⟨w.heap.size, 0, none⟩ = some (.int .i64 x.fPos) from x0)
        have X1 := Lib.hid (show (wq.drewN nq).cell? ⟨w.heap.size, 1, none⟩ = some (.string x.fName) from x1)
        clear x0 x1
        generalize wq.drewN nq = wz at HBD HXL X0 X1 ⊢
        have HB9 := Lib.hid (HBD.out.alloc HBD.out.size (.cells #[] 68))
        have HTC := Lib.hid (take_cells HO.out hkk)
        have HDC := Lib.hid (own_from valsocc_len HO.out hkk)
        go_wp2_with (first | (at_builtin; refine wpList_append_at rfl (.tmp 34) (.tmp 37) 59 rfl w.heap.size 68 i0 (.agg #[.int .i64 0, .string ⟨#[]⟩]) 2 24 Tryz.underlying59 hi' hz0 hz1 hz2 rfl (by decide) _ 0 [] rfl (World.ownsRow_made _ #[] 0 HBD.out.size (Nat.zero_le _) rfl) ⟨g, 0, none⟩ k c ((l.take k).flatMap valsocc) rfl (by rw [flat_len2, List.length_take, Nat.min_eq_left hkk]) (fun j u hj => (HB9.out.cell (p := (⟨g, 0, none⟩ : Addr).add j) (by rw [add_plain]; exact HGL.out.2)).trans (HTC.out j u hj)) (flat_one _) (by unfold maxLen; omega) (by omega) HB9.out.size ?_; intro v6 w6 hown6 hgrow6 hat6; have hb6 : Below wz.heap.size wz w6 := ((Below.refl _ wz).alloc (Nat.le_refl _) _).grown hgrow6 (by simp) (fun r hr => by injection hr with hr; exact Nat.le_of_eq hr); have p0 := (hb6.cell (p := ⟨w.heap.size, 0, none⟩) HXL.out).trans X0.out; have p1 := (hb6.cell (p := ⟨w.heap.size, 1, none⟩) HXL.out).trans X1.out; have HB6 := Lib.hid (HBD.out.trans (hb6.mono HBD.out.size)); have HO6 := Lib.hid hown6; have HR6 := Lib.hid (fun r (h : v6.ownBlock = some r) => (hown6.lt r h).1); clear hb6 hown6 hgrow6 hat6) | (at_builtin; refine wpList_append_at rfl (.tmp 39) (.tmp 41) 59 rfl w.heap.size 68 i0 (.agg #[.int .i64 0, .string ⟨#[]⟩]) 2 24 Tryz.underlying59 hi' hz0 hz1 hz2 rfl (by decide) v6 (0 + k) _ rfl (HO6.out.alloc _) ⟨w6.heap.size, 0, none⟩ 1 1 (valsocc x) rfl rfl (cells_at (blk_new rfl)) (by intro u hu; simp [valsocc] at hu; rcases hu with rfl | rfl <;> rfl) (by unfold maxLen; omega) (by omega) (Nat.le_trans HB6.out.size (by simp)) ?_; intro v7 w7 hown7 hgrow7 hat7; have HB7 := Lib.hid ((HB6.out.alloc HB6.out.size (.cells #[.int .i64 x.fPos, .string x.fName] 68)).grown hgrow7 (Nat.le_trans HB6.out.size (by simp)) HR6.out); have HO7 := Lib.hid hown7; have HR7 := Lib.hid (fun r (h : v7.ownBlock = some r) => (hown7.lt r h).1); clear hown7 hgrow7 hat7) | (at_builtin; refine wpList_append_at rfl (.tmp 43) (.tmp 46) 59 rfl w.heap.size 68 i0 (.agg #[.int .i64 0, .string ⟨#[]⟩]) 2 24 Tryz.underlying59 hi' hz0 hz1 hz2 rfl (by decide) v7 (0 + k + 1) _ rfl HO7.out ⟨g, k * 2, none⟩ (l.length - k) (c - k) ((l.drop k).flatMap valsocc) rfl (by rw [flat_len2, List.length_drop]) (fun j u hj => (HB7.out.cell (p := (⟨g, k * 2, none⟩ : Addr).add j) (by rw [add_plain]; exact HGL.out.2)).trans (HDC.out j u hj)) (flat_one _) (by unfold maxLen; omega) (by omega) HB7.out.size ?_; intro v8 w8 hown8 hgrow8 hat8; have HB8 := Lib.hid (HB7.out.grown hgrow8 HB7.out.size HR7.out); have HO8 := Lib.hid hown8; clear hown8 hgrow8 hat8))
        obtain ⟨g8, c8, e8, hB8, _⟩ := own_some HO8.out (by omega)
        rw [e8]
        go_ret
        refine ⟨g8, c8, ?_⟩
        have h8 := HO8.out
        rw [e8] at h8
        have hlen : (l.take k ++ [x] ++ l.drop k).length = 0 + k + 1 + (l.length - k) := by rw [List.length_append, List.length_append, List.length_take, List.length_drop, Nat.min_eq_left hkk, List.length_singleton]; omega
        rw [HE.out, hlen]
        refine ⟨rfl, ?_, HB8.out⟩
        rw [List.flatMap_append, List.flatMap_append]
        exact ownsRow_atP h8 (Nat.le_trans HGL.out.1 (Nat.le_trans (Nat.le_of_lt HGL.out.2) hB8))
end Go.Proofs.YtnmepemmpeboeaaGreat
namespace Go.Proofs.YtnmepemmpeboeaaGreat
open Go.ChangeShapes Go.WideShapes Go.ChangeAt Go.RowKit Go.Deep

/-- The contract of l4Uses at an expression. -/
def SpecUses (x : DExpr) : Prop := ∀ ⦃lo hi c6 B g c : Nat⦄ ⦃a6 : Option Addr⦄ (_hsz : x.sz ≤ 1048576) (l : List DOccurrence) (_hl : l.length + (occE x).length ≤ 4194304) (w : World) (_hhi : hi ≤ w.heap.size) (_hs6 : Sl lo hi w 7 x.fArgs.length (ctE x.fArgs) a6) (_hown : w.ownsRow B 68 2 (.slice (some ⟨g, 0, none⟩) (l).length c) (l).length ((l).flatMap valsocc)),
  Calls Tryz.prog 59 #[.agg #[.int .i64 x.fKind, .int .i64 x.fN, .int .i64 x.fPos, .int .i64 x.fType, .string x.fSymbol, .string x.fName, .slice a6 x.fArgs.length c6], .slice (some ⟨g, 0, none⟩) l.length c] w fun e w' => ∃ g' c', e = .returned (.slice (some ⟨g', 0, none⟩) (putAll ltO l (occE x)).length c') ∧ w'.ownsRow B 68 2 (.slice (some ⟨g', 0, none⟩) ((putAll ltO l (occE x))).length c') ((putAll ltO l (occE x))).length (((putAll ltO l (occE x))).flatMap valsocc) ∧ Below w.heap.size w w'
theorem getD_memU {α : Type} {d : α} (xs : List α) (j : Nat) (hj : j < xs.length) : xs.getD j d ∈ xs := by
  rw [List.getD_eq_getElem?_getD, List.getElem?_eq_getElem hj]; exact List.getElem_mem hj
theorem take_flat {xs : List DExpr} {k : Nat} (hk : k < xs.length) : (xs.take (k + 1)).flatMap occE = (xs.take k).flatMap occE ++ occE (xs.getD k default) := by
  rw [List.take_succ_eq_append_getElem hk, List.flatMap_append, List.flatMap_singleton, List.getD_eq_getElem?_getD, List.getElem?_eq_getElem hk, Option.getD_some]
theorem take_flat_le {xs : List DExpr} {k : Nat} (hk : k < xs.length) : ((xs.take k).flatMap occE).length + (occE (xs.getD k default)).length ≤ (xs.flatMap occE).length := by
  have h : (xs.take (k + 1)).flatMap occE ++ (xs.drop (k + 1)).flatMap occE = xs.flatMap occE := by rw [← List.flatMap_append, List.take_append_drop]
  rw [← h, List.length_append, take_flat hk, List.length_append]
  omega

set_option maxHeartbeats 16000000 in
set_option maxRecDepth 100000 in
theorem specUses_step (x : DExpr) (ih : ∀ a ∈ x.fArgs, SpecUses a) : SpecUses x := by
  intro lo hi c6 B g c a6 hsz l hl w hhi hs6 hown
  have hBg := hown.lt g rfl
  have hln : l.length + (occOf (nodeOfX x 0)).length + (x.fArgs.flatMap occE).length ≤ 4194304 := by rw [occE_eq, List.length_append] at hl; omega
  have HLN := Lib.hid hln
  have HFIN := Lib.hid (show (putAll ltO l (occE x)) = (putAll ltO l (occOf (nodeOfX x 0) ++ (x.fArgs.take x.fArgs.length).flatMap occE)) by rw [occE_eq, List.take_length])
  have hszx := hsz
  rw [DExpr.sz_eq] at hszx
  have hnl : x.fArgs.length ≤ 1048576 := by unfold lsz at hszx; omega
  have HIH := Lib.hid (fun k (hk : k < x.fArgs.length) => ih (x.fArgs.getD k default) (getD_memU x.fArgs k hk))
  have HZA := Lib.hid (fun k (hk : k < x.fArgs.length) => (by have h := szle_at (f := DExpr.sz) x.fArgs k hk; omega : (x.fArgs.getD k default).sz ≤ 1048576))
  have HS := Lib.hid hs6
  have HHI := Lib.hid hhi
  have HO := Lib.hid hown
  clear ih hs6 hhi hown hsz hl hszx hln
  by_cases hk3 : x.fKind = 3
  · rw [hk3]
    have HB := Lib.hid ((Below.refl w.heap.size w).alloc (Nat.le_refl _) (.cells #[.int .i64 3, .int .i64 x.fN, .int .i64 x.fPos, .int .i64 x.fType, .string x.fSymbol, .string x.fName, .slice a6 x.fArgs.length c6] 64))
    have HX := Lib.hid (show (w.alloc (.cells #[.int .i64 3, .int .i64 x.fN, .int .i64 x.fPos, .int .i64 x.fType, .string x.fSymbol, .string x.fName, .slice a6 x.fArgs.length c6] 64)).heap[w.heap.size]? = some (.cells #[.int .i64 3, .int .i64 x.fN, .int .i64 x.fPos, .int .i64 x.fType, .string x.fSymbol, .string x.fName, .slice a6 x.fArgs.length c6] 64) from blk_new rfl)
    have HSZ := Lib.hid (show (w.alloc (.cells #[.int .i64 3, .int .i64 x.fN, .int .i64 x.fPos, .int .i64 x.fType, .string x.fSymbol, .string x.fName, .slice a6 x.fArgs.length c6] 64)).heap.size = w.heap.size + 1 by simp)
    have HOC := Lib.hid (show (putAll ltO l (occOf (nodeOfX x 0) ++ (x.fArgs.take 0).flatMap occE)) = putL ltO ⟨x.fPos, x.fName⟩ l by rw [List.take_zero, List.flatMap_nil, List.append_nil]; unfold occOf; rw [if_pos (show (nodeOfX x 0).fKind = 3 from hk3)]; rfl)
    have HPT := Lib.hid (spec_l4Put l (by have := HLN.out; omega) ⟨x.fPos, x.fName⟩ (w.alloc (.cells #[.int .i64 3, .int .i64 x.fN, .int .i64 x.fPos, .int .i64 x.fType, .string x.fSymbol, .string x.fName, .slice a6 x.fArgs.length c6] 64)) (ownsRow_below HO.out HB.out))
    rw [← HOC.out] at HPT
    clear HOC hk3
    dsimp only at HPT
    go_enter Tryz.func59, Tryz.ntmps59
    go_wp2_with fail
    refine HPT.out.mono ?_
    rintro e w1 ⟨g1, c1, rfl, ho1, hb1⟩
    have HO1 := Lib.hid ho1
    have HBX := Lib.hid (HB.out.trans (hb1.mono HB.out.size))
    have HXL := Lib.hid (show w.heap.size < w1.heap.size from Nat.lt_of_lt_of_le (by have := HSZ.out; omega) hb1.size)
    have HP6 := Lib.hid (show w1.cell? ⟨w.heap.size, 6, none⟩ = some (.slice a6 x.fArgs.length c6) from (hb1.cell (p := ⟨w.heap.size, 6, none⟩) (show w.heap.size < (w.alloc (.cells #[.int .i64 3, .int .i64 x.fN, .int .i64 x.fPos, .int .i64 x.fType, .string x.fSymbol, .string x.fName, .slice a6 x.fArgs.length c6] 64)).heap.size by have := HSZ.out; omega)).trans (pblk_cell HX.out rfl))
    clear ho1 hb1 HPT
    go_wp2
    go_loopw [1, 5] (fun v i wr => ∃ k g' c' : Nat, k ≤ x.fArgs.length ∧ i = .int .i64 (k : Int) ∧ v = .slice (some ⟨g', 0, none⟩) (putAll ltO l (occOf (nodeOfX x 0) ++ (x.fArgs.take k).flatMap occE)).length c' ∧ wr.ownsRow B 68 2 (.slice (some ⟨g', 0, none⟩) ((putAll ltO l (occOf (nodeOfX x 0) ++ (x.fArgs.take k).flatMap occE))).length c') ((putAll ltO l (occOf (nodeOfX x 0) ++ (x.fArgs.take k).flatMap occE))).length (((putAll ltO l (occOf (nodeOfX x 0) ++ (x.fArgs.take k).flatMap occE))).flatMap valsocc) ∧ Below w1.heap.size w1 wr) (fun _ i _ => x.fArgs.length - (intOf i).toNat)
    case atStart => exact ⟨0, g1, c1, Nat.zero_le _, rfl, by simp, HO1.out, Below.refl _ _⟩
    case round =>
      obtain ⟨k, g', c', hk, rfl, rfl, ho, hbl⟩ := hrel
      have HOK := Lib.hid ho
      have HBL := Lib.hid hbl
      have HBW := Lib.hid (HBX.out.trans (hbl.mono HBX.out.size))
      have p6 : wr.cell? ⟨w.heap.size, 6, none⟩ = some (.slice a6 x.fArgs.length c6) := (hbl.cell (p := ⟨w.heap.size, 6, none⟩) HXL.out).trans HP6.out
      clear ho hbl
      by_cases hlt : k < x.fArgs.length
      · obtain ⟨rb, ro, rfl, _, hrb, hc⟩ := (HS.out.later HBW.out HHI.out).at k hlt
        rw [ctE_at hlt] at hc
        obtain ⟨a9, c9, q0, q1, q2, q3, q4, q5, q6, hs9⟩ := DExpr.open hc
        have hle := take_flat_le hlt
        have hlen := putAll_len (lt := ltO) (occOf (nodeOfX x 0) ++ (x.fArgs.take k).flatMap occE) l
        rw [List.length_append] at hlen
        have HC := Lib.hid (HIH.out k hlt (c6 := c9) (HZA.out k hlt) (putAll ltO l (occOf (nodeOfX x 0) ++ (x.fArgs.take k).flatMap occE)) (by have := HLN.out; omega) wr (Nat.le_trans HHI.out HBW.out.size) hs9 HOK.out)
        have HNX := Lib.hid (show putAll ltO (putAll ltO l (occOf (nodeOfX x 0) ++ (x.fArgs.take k).flatMap occE)) (occE (x.fArgs.getD k default)) = (putAll ltO l (occOf (nodeOfX x 0) ++ (x.fArgs.take (k + 1)).flatMap occE)) by rw [take_flat hlt, ← List.append_assoc]; exact (putAll_append _ _ _).symm)
        clear hc hs9 hle hlen HZA HIH HLN
        rw [HNX.out] at HC
        clear HNX
        generalize x.fArgs.getD k default = y at *
        generalize (putAll ltO l (occOf (nodeOfX x 0) ++ (x.fArgs.take k).flatMap occE)) = lk at *
        go_wp2_with fail
        refine HC.out.mono ?_
        rintro e w2 ⟨g2, c2, rfl, ho2, hb2⟩
        have HO2 := Lib.hid ho2
        have HB2 := Lib.hid (HBL.out.trans (hb2.mono HBL.out.size))
        clear ho2 hb2
        go_wp2
        go_roundw
        case rel => exact ⟨k + 1, g2, c2, by omega, by go_num, rfl, HO2.out, HB2.out⟩
        case measure => simp [intOf]; omega
      · obtain rfl : k = x.fArgs.length := by omega
        rw [← HFIN.out] at HOK ⊢
        go_wp2
        go_ret
        exact ⟨g', c', rfl, HOK.out, HBW.out⟩
  · skip
    have HB := Lib.hid ((Below.refl w.heap.size w).alloc (Nat.le_refl _) (.cells #[.int .i64 x.fKind, .int .i64 x.fN, .int .i64 x.fPos, .int .i64 x.fType, .string x.fSymbol, .string x.fName, .slice a6 x.fArgs.length c6] 64))
    have HX := Lib.hid (show (w.alloc (.cells #[.int .i64 x.fKind, .int .i64 x.fN, .int .i64 x.fPos, .int .i64 x.fType, .string x.fSymbol, .string x.fName, .slice a6 x.fArgs.length c6] 64)).heap[w.heap.size]? = some (.cells #[.int .i64 x.fKind, .int .i64 x.fN, .int .i64 x.fPos, .int .i64 x.fType, .string x.fSymbol, .string x.fName, .slice a6 x.fArgs.length c6] 64) from blk_new rfl)
    have HSZ := Lib.hid (show (w.alloc (.cells #[.int .i64 x.fKind, .int .i64 x.fN, .int .i64 x.fPos, .int .i64 x.fType, .string x.fSymbol, .string x.fName, .slice a6 x.fArgs.length c6] 64)).heap.size = w.heap.size + 1 by simp)
    have HOC := Lib.hid (show (putAll ltO l (occOf (nodeOfX x 0) ++ (x.fArgs.take 0).flatMap occE)) = l by rw [List.take_zero, List.flatMap_nil, List.append_nil]; unfold occOf; rw [if_neg (show ¬ (nodeOfX x 0).fKind = 3 from hk3)]; rfl)
    have hkb : (x.fKind == 3) = false := beq_eq_false_iff_ne.2 hk3
    have HO1 := Lib.hid (ownsRow_below HO.out HB.out)
    go_enter Tryz.func59, Tryz.ntmps59
    go_wp2
    have HBX := Lib.hid HB.out
    have HXL := Lib.hid (show w.heap.size < (w.alloc (.cells #[.int .i64 x.fKind, .int .i64 x.fN, .int .i64 x.fPos, .int .i64 x.fType, .string x.fSymbol, .string x.fName, .slice a6 x.fArgs.length c6] 64)).heap.size by have := HSZ.out; omega)
    have HP6 := Lib.hid (show (w.alloc (.cells #[.int .i64 x.fKind, .int .i64 x.fN, .int .i64 x.fPos, .int .i64 x.fType, .string x.fSymbol, .string x.fName, .slice a6 x.fArgs.length c6] 64)).cell? ⟨w.heap.size, 6, none⟩ = some (.slice a6 x.fArgs.length c6) from pblk_cell HX.out rfl)
    generalize w.alloc (.cells #[.int .i64 x.fKind, .int .i64 x.fN, .int .i64 x.fPos, .int .i64 x.fType, .string x.fSymbol, .string x.fName, .slice a6 x.fArgs.length c6] 64) = w1 at *
    go_loopw [1, 5] (fun v i wr => ∃ k g' c' : Nat, k ≤ x.fArgs.length ∧ i = .int .i64 (k : Int) ∧ v = .slice (some ⟨g', 0, none⟩) (putAll ltO l (occOf (nodeOfX x 0) ++ (x.fArgs.take k).flatMap occE)).length c' ∧ wr.ownsRow B 68 2 (.slice (some ⟨g', 0, none⟩) ((putAll ltO l (occOf (nodeOfX x 0) ++ (x.fArgs.take k).flatMap occE))).length c') ((putAll ltO l (occOf (nodeOfX x 0) ++ (x.fArgs.take k).flatMap occE))).length (((putAll ltO l (occOf (nodeOfX x 0) ++ (x.fArgs.take k).flatMap occE))).flatMap valsocc) ∧ Below w1.heap.size w1 wr) (fun _ i _ => x.fArgs.length - (intOf i).toNat)
    case atStart => exact ⟨0, g, c, Nat.zero_le _, rfl, by rw [HOC.out], by rw [HOC.out]; exact HO1.out, Below.refl _ _⟩
    case round =>
      obtain ⟨k, g', c', hk, rfl, rfl, ho, hbl⟩ := hrel
      have HOK := Lib.hid ho
      have HBL := Lib.hid hbl
      have HBW := Lib.hid (HBX.out.trans (hbl.mono HBX.out.size))
      have p6 : wr.cell? ⟨w.heap.size, 6, none⟩ = some (.slice a6 x.fArgs.length c6) := (hbl.cell (p := ⟨w.heap.size, 6, none⟩) HXL.out).trans HP6.out
      clear ho hbl
      by_cases hlt : k < x.fArgs.length
      · obtain ⟨rb, ro, rfl, _, hrb, hc⟩ := (HS.out.later HBW.out HHI.out).at k hlt
        rw [ctE_at hlt] at hc
        obtain ⟨a9, c9, q0, q1, q2, q3, q4, q5, q6, hs9⟩ := DExpr.open hc
        have hle := take_flat_le hlt
        have hlen := putAll_len (lt := ltO) (occOf (nodeOfX x 0) ++ (x.fArgs.take k).flatMap occE) l
        rw [List.length_append] at hlen
        have HC := Lib.hid (HIH.out k hlt (c6 := c9) (HZA.out k hlt) (putAll ltO l (occOf (nodeOfX x 0) ++ (x.fArgs.take k).flatMap occE)) (by have := HLN.out; omega) wr (Nat.le_trans HHI.out HBW.out.size) hs9 HOK.out)
        have HNX := Lib.hid (show putAll ltO (putAll ltO l (occOf (nodeOfX x 0) ++ (x.fArgs.take k).flatMap occE)) (occE (x.fArgs.getD k default)) = (putAll ltO l (occOf (nodeOfX x 0) ++ (x.fArgs.take (k + 1)).flatMap occE)) by rw [take_flat hlt, ← List.append_assoc]; exact (putAll_append _ _ _).symm)
        clear hc hs9 hle hlen HZA HIH HLN
        rw [HNX.out] at HC
        clear HNX
        generalize x.fArgs.getD k default = y at *
        generalize (putAll ltO l (occOf (nodeOfX x 0) ++ (x.fArgs.take k).flatMap occE)) = lk at *
        go_wp2_with fail
        refine HC.out.mono ?_
        rintro e w2 ⟨g2, c2, rfl, ho2, hb2⟩
        have HO2 := Lib.hid ho2
        have HB2 := Lib.hid (HBL.out.trans (hb2.mono HBL.out.size))
        clear ho2 hb2
        go_wp2
        go_roundw
        case rel => exact ⟨k + 1, g2, c2, by omega, by go_num, rfl, HO2.out, HB2.out⟩
        case measure => simp [intOf]; omega
      · obtain rfl : k = x.fArgs.length := by omega
        rw [← HFIN.out] at HOK ⊢
        go_wp2
        go_ret
        exact ⟨g', c', rfl, HOK.out, HBW.out⟩
theorem spec_l4Uses (x : DExpr) : SpecUses x := DExpr.ind (P := SpecUses) (fun x ih => specUses_step x ih) x
end Go.Proofs.YtnmepemmpeboeaaGreat
namespace Go.Proofs.YtnmepemmpeboeaaGreat
open Go.ChangeShapes Go.WideShapes Go.ChangeAt Go.RowKit Go.Deep

instance decOcc : DecidableEq DOccurrence := fun a b =>
  if h : a.fPos = b.fPos ∧ a.fName = b.fName then isTrue (by cases a; cases b; simp only at h; rw [h.1, h.2]) else isFalse (fun e => h (by rw [e]; exact ⟨rfl, rfl⟩))
theorem arr_at (l : List DOccurrence) (k : Nat) : l.toArray[k]! = l.getD k default := by
  rw [List.getD_eq_getElem?_getD, Array.getElem!_eq_getD, Array.getD_eq_getD_getElem?, List.getElem?_toArray]
theorem arr_at2 (d : Array DOccurrence) (k : Nat) : d.toList.getD k default = d[k]! := by
  rw [List.getD_eq_getElem?_getD, Array.getElem!_eq_getD, Array.getD_eq_getD_getElem?, Array.getElem?_toList]
theorem flat_set2 (x : DOccurrence) : ∀ (l : List DOccurrence) (k : Nat), (l.set k x).flatMap valsocc = ((l.flatMap valsocc).set (k * 2) (.int .i64 x.fPos)).set (k * 2 + 1) (.string x.fName)
  | [], _ => by simp
  | y :: l, 0 => by simp [valsocc]
  | y :: l, k + 1 => by
    have ih := flat_set2 x l k
    rw [List.set_cons_succ, List.flatMap_cons, List.flatMap_cons, ih]
    rw [show (k + 1) * 2 = k * 2 + 1 + 1 by omega]
    rfl
theorem row_set2 {w : World} {B g c k : Nat} {l : List DOccurrence} (x : DOccurrence) (h : w.ownsRow B 68 2 (.slice (some ⟨g, 0, none⟩) l.length c) l.length (l.flatMap valsocc)) :
    ((w.setCell ⟨g, k * 2, none⟩ (.int .i64 x.fPos)).setCell ⟨g, k * 2 + 1, none⟩ (.string x.fName)).ownsRow B 68 2 (.slice (some ⟨g, 0, none⟩) l.length c) l.length ((l.set k x).flatMap valsocc) := by
  rw [flat_set2]
  exact ((h.stored (k * 2) _).1.stored (k * 2 + 1) _).1
theorem zero2_cells (z0 z1 : Value) (n : Nat) : (Builtin.zeroCells #[z0, z1] n).size = n * 2 := by simp [Builtin.zeroCells]
theorem zero2_one (z0 z1 : Value) (h0 : z0.oneCell' = true) (h1 : z1.oneCell' = true) (n : Nat) : ∀ v ∈ (Builtin.zeroCells #[z0, z1] n).toList, v.oneCell' = true := by
  intro v hv
  simp only [Builtin.zeroCells, Array.toList_map, List.mem_map] at hv
  obtain ⟨i, _, rfl⟩ := hv
  have h2 : i % 2 = 0 ∨ i % 2 = 1 := by omega
  rcases h2 with h2 | h2
  · simp [h2, h0]
  · simp [h2, h1]
theorem run_clear2 {P : Program} (w : World) (t e : TypeId) (z : Value) (z0 z1 : Value) (ht : P.underlying t = some (.slice e)) (hv : ∀ w, (zeroValue e).run P w = .ok z w) (hz : z.cells = #[z0, z1]) (h0 : z0.oneCell' = true) (h1 : z1.oneCell' = true) (b o n c : Nat) (hn : 0 < n)
    (hc : ∀ j, j < n * 2 → (w.cell? ⟨b, o + j, none⟩).isSome = true) (hf : ∀ j, j < n * 2 → w.frozen? ⟨b, o + j, none⟩ = false) :
    ∃ us : List Value, ∀ ty, (Builtin.clear_ #[t] ty #[.slice (some ⟨b, o, none⟩) n c]).run P w = .ok (.tuple #[]) (w.setCells b o us) := by
  refine ⟨(Builtin.zeroCells #[z0, z1] n).toList, fun ty => ?_⟩
  have hst := run_storeCells_cells (P := P) b o (Builtin.zeroCells #[z0, z1] n).toList 0 w (by simpa [zero2_cells] using hc) (by simpa [zero2_cells] using hf) (zero2_one z0 z1 h0 h1 n)
  simp only [Nat.add_zero] at hst
  obtain ⟨m, rfl⟩ : ∃ m, n = m + 1 := ⟨n - 1, by omega⟩
  simp [Builtin.clear_, run_underlying ht, hv, hz, hst]
/-- Stores behind a place of a row: the row's head is as it was. -/
theorem own_clear {B g c kk : Nat} {e : TypeId} {l : List DOccurrence} : ∀ (us : List Value) (w : World) (o : Nat) (xs : List Value), kk * 2 ≤ o → w.ownsRow B e 2 (.slice (some ⟨g, 0, none⟩) l.length c) l.length xs → xs.take (kk * 2) = (l.take kk).flatMap valsocc →
    ∃ ys, (w.setCells g o us).ownsRow B e 2 (.slice (some ⟨g, 0, none⟩) l.length c) l.length ys ∧ ys.take (kk * 2) = (l.take kk).flatMap valsocc
  | [], w, o, xs, _, h, ht => ⟨xs, h, ht⟩
  | u :: us, w, o, xs, ho, h, ht => own_clear us _ (o + 1) (xs.set o u) (by omega) (h.stored o u).1 (by rw [List.take_set_of_le ho]; exact ht)
theorem own_cut {w : World} {B g c r n : Nat} {e : TypeId} {xs : List Value} {l : List DOccurrence} (h : w.ownsRow B e 2 (.slice (some ⟨g, 0, none⟩) n c) n xs) (hr : r ≤ n) (hl : l.length = r) (ht : xs.take (r * 2) = l.flatMap valsocc) :
    w.ownsRow B e 2 (.slice (some ⟨g, 0, none⟩) l.length c) l.length (l.flatMap valsocc) := by
  refine ⟨by rw [flat_len2], ?_⟩
  rcases h.2 with ⟨e0, _⟩ | ⟨g', cap, cur, e0, hB, hg, hle, hcm, hs, ht'⟩
  · cases e0
  · simp only [Value.slice.injEq, Option.some.injEq, Addr.mk.injEq, and_true, true_and] at e0
    obtain ⟨rfl, rfl⟩ := e0
    refine .inr ⟨g, c, cur, by rw [hl], hB, hg, by omega, hcm, hs, ?_⟩
    rw [← ht, ← ht', List.take_take, Nat.min_eq_left (by omega), hl]
theorem writes_setCells {w0 : World} {g : Nat} : ∀ (us : List Value) (w : World) (o : Nat), WritesF (fun y => y = g) w0 w → WritesF (fun y => y = g) w0 (w.setCells g o us)
  | [], w, o, h => h
  | u :: us, w, o, h => writes_setCells us _ (o + 1) ⟨h.os, h.tape, h.output, by rw [show (w.setCell ⟨g, o, none⟩ u).heap.size = w.heap.size by simp [World.setCell]]; exact h.size, fun k hk hn => (Below.heap_setCell _ _ _ _ hn).trans (h.block k hk hn)⟩

set_option maxHeartbeats 12800000 in
set_option maxRecDepth 100000 in
theorem Compact_occ {B : Nat} {a : Option Addr} {c : Nat} (l : List DOccurrence) (hl : l.length ≤ 1099511627776) (w : World) (hown : w.ownsRow B 68 2 (.slice a l.length c) l.length (l.flatMap valsocc)) :
    Calls Tryz.prog 71 #[.slice a l.length c] w fun e w' => e = .returned (.slice a (compactL ltO l).length c) ∧ w'.ownsRow B 68 2 (.slice a (compactL ltO l).length c) (compactL ltO l).length ((compactL ltO l).flatMap valsocc) ∧ (∀ b0, (∀ g, a = some ⟨g, 0, none⟩ → b0 ≤ g) → Below b0 w w') := by
  have HR := Lib.hid (compact_L strictO l)
  have same : ∀ w' : World, (∀ j, j < l.length → Go.Lib.keeps l.toArray j = true) → w'.ownsRow B 68 2 (.slice a l.length c) l.length (l.flatMap valsocc) → Ending.returned (.slice a l.length c) = .returned (.slice a (compactL ltO l).length c) ∧ w'.ownsRow B 68 2 (.slice a (compactL ltO l).length c) (compactL ltO l).length ((compactL ltO l).flatMap valsocc) := by
    intro w' hall h
    have e : compactL ltO l = l := by
      rw [← HR.out, Go.Lib.compactUpTo_all _ _ hall]
      have := Go.Lib.range_map_get l.toArray
      simpa using this
    rw [e]
    exact ⟨rfl, h⟩
  have HS := Lib.hid same
  have HO := Lib.hid hown
  clear same hown
  by_cases h2 : l.length < 2
  · have hlI : (l.length : Int) < 2 := by omega
    go_enter Tryz.func71, Tryz.ntmps71
    go_wp2
    go_ret
    obtain ⟨e1, e2⟩ := HS.out w (fun j hj => Go.Lib.keeps_lt_one _ j (by omega)) HO.out
    exact ⟨e1, e2, fun b0 _ => Below.refl _ _⟩
  · obtain ⟨rfl, h9, _⟩ | ⟨g, rfl, hc1, hc2, hBg, hgl⟩ := own_form2 HO.out
    · omega
    have hlI : ¬ ((l.length : Int) < 2) := by omega
    generalize hn : l.length = n at *
    have HN := Lib.hid hn
    clear hn
    go_enter Tryz.func71, Tryz.ntmps71
    go_wp2
    go_loopw [3] (fun s3 wr => ∃ k : Nat, 1 ≤ k ∧ k ≤ n ∧ s3 = .int .i64 (k : Int) ∧ wr.ownsRow B 68 2 (.slice (some ⟨g, 0, none⟩) n c) n (l.flatMap valsocc) ∧ WritesF (fun y => y = g) w wr ∧ ∀ j, j < k → Go.Lib.keeps l.toArray j = true) (fun s3 _ => n - (intOf s3).toNat)
    case atStart => exact ⟨1, Nat.le_refl _, by omega, rfl, HO.out, WritesF.refl _ _, Go.Lib.keeps_lt_one _⟩
    case round =>
      obtain ⟨k, hk1, hk, rfl, hor, hwr, hall⟩ := hrel
      have HALL := Lib.hid hall
      have HOR := Lib.hid hor
      have HWR := Lib.hid hwr
      clear hall hwr
      by_cases hlt : k < n
      · rw [← HN.out] at hor
        obtain ⟨c0, c1⟩ := occ_cells hor (k := k) (by rw [HN.out]; omega)
        obtain ⟨p0, p1⟩ := occ_cells hor (k := k - 1) (by rw [HN.out]; omega)
        clear hor
        have hkI : (0 : Int) ≤ (k : Int) ∧ (k : Int) < (n : Int) := by omega
        have hk2 : (0 : Int) ≤ (k : Int) - 1 ∧ (k : Int) - 1 < (n : Int) := by omega
        by_cases hdup : l.getD k default = l.getD (k - 1) default
        · have HDUP := Lib.hid (show Go.Lib.keeps l.toArray k = false from Go.Lib.keeps_neg (by omega) (by rw [arr_at, arr_at]; exact hdup))
          rw [hdup] at c0 c1
          clear hdup
          generalize l.getD (k - 1) default = y at *
          go_wp2_with fail
          go_quiet (fail)
          go_wp2
          go_loopw [3, 5] (fun s3 s5 wx => ∃ (kk k2 : Nat) (dk : Array DOccurrence), s3 = .int .i64 (kk : Int) ∧ s5 = .int .i64 (k2 : Int) ∧ 1 ≤ k2 ∧ k + k2 ≤ n ∧ wx.ownsRow B 68 2 (.slice (some ⟨g, 0, none⟩) n c) n (dk.toList.flatMap valsocc) ∧ WritesF (fun y => y = g) w wx ∧ Go.Lib.CompInv l.toArray (k + k2) kk dk) (fun _ s5 _ => n - k - (intOf s5).toNat)
          case atStart => exact ⟨k, 1, l.toArray, rfl, rfl, Nat.le_refl _, by omega, HOR.out, HWR.out.later (below_drewN (Below.refl _ _) _), Go.Lib.CompInv.start HALL.out HDUP.out⟩
          case round =>
            obtain ⟨kk, k2, dk, rfl, rfl, hk21, hle, ho, hw, hI⟩ := hrel
            have hkk := hI.lt
            have hln : dk.toList.length = n := by rw [Array.length_toList, hI.size, ← HN.out]; simp
            have HLN := Lib.hid hln
            have HI := Lib.hid hI
            have HOX := Lib.hid ho
            have HWX := Lib.hid hw
            clear hw c0 c1 p0 p1 hkI hk2
            by_cases hlt2 : k + k2 < n
            · rw [← hln] at ho
              obtain ⟨cm0, cm1⟩ := occ_cells ho (k := k + k2) (by omega)
              obtain ⟨cp0, cp1⟩ := occ_cells ho (k := k + k2 - 1) (by omega)
              obtain ⟨ck0, ck1⟩ := occ_cells ho (k := kk) (by omega)
              have fk0 := ho.frozenAt (kk * 2)
              have fk1 := ho.frozenAt (kk * 2 + 1)
              rw [arr_at2, hI.high (k + k2) (by omega), arr_at, show (k + k2) * 2 = k * 2 + k2 * 2 by omega] at cm0 cm1
              rw [arr_at2, hI.high (k + k2 - 1) (by omega), arr_at, show (k + k2 - 1) * 2 = k * 2 + (k2 - 1) * 2 by omega] at cp0 cp1
              clear ho hI hln
              have hkI : (0 : Int) ≤ (k2 : Int) ∧ (k2 : Int) < ((n - k : Nat) : Int) := by omega
              have hk2 : (0 : Int) ≤ (k2 : Int) - 1 ∧ (k2 : Int) - 1 < ((n - k : Nat) : Int) := by omega
              generalize dk.toList.getD kk default = old at ck0 ck1
              by_cases hd2 : l.getD (k + k2) default = l.getD (k + k2 - 1) default
              · have HD2 := Lib.hid (show Go.Lib.keeps l.toArray (k + k2) = false from Go.Lib.keeps_neg (by omega) (by rw [arr_at, arr_at]; exact hd2))
                rw [hd2] at cm0 cm1
                clear hd2
                generalize l.getD (k + k2 - 1) default = y2 at *
                go_wp2_with fail
                go_quiet (fail)
                go_wp2
                go_roundw
                case rel => exact ⟨kk, k2 + 1, dk, rfl, by go_num, by omega, by omega, HOX.out, HWX.out.later (below_drewN (Below.refl _ _) _), HI.out.skip HD2.out⟩
                case measure => simp [intOf]; omega
              · have HD2 := Lib.hid (show Go.Lib.keeps l.toArray (k + k2) = true from Go.Lib.keeps_pos (by rw [arr_at, arr_at]; exact hd2))
                have HKP := Lib.hid (show Go.Lib.CompInv l.toArray (k + k2 + 1) (kk + 1) (dk.setIfInBounds kk (l.getD (k + k2) default)) from by have h := HI.out.keep (by rw [← HN.out] at hlt2; simpa using hlt2) HD2.out; rwa [arr_at] at h)
                have hne : ¬ ((l.getD (k + k2) default).fPos = (l.getD (k + k2 - 1) default).fPos ∧ (l.getD (k + k2) default).fName = (l.getD (k + k2 - 1) default).fName) := fun h => hd2 (by
                  generalize l.getD (k + k2) default = a at *
                  generalize l.getD (k + k2 - 1) default = b at *
                  cases a; cases b; dsimp only at h; rw [h.1, h.2])
                clear hd2
                generalize l.getD (k + k2) default = z2 at *
                generalize l.getD (k + k2 - 1) default = y2 at *
                have HRS := Lib.hid (fun (W : World) (h : W.ownsRow B 68 2 (.slice (some ⟨g, 0, none⟩) n c) n (dk.toList.flatMap valsocc)) => (show ((W.setCell ⟨g, kk * 2, none⟩ (.int .i64 z2.fPos)).setCell ⟨g, kk * 2 + 1, none⟩ (.string z2.fName)).ownsRow B 68 2 (.slice (some ⟨g, 0, none⟩) n c) n ((dk.setIfInBounds kk z2).toList.flatMap valsocc) from by
                  rw [← HLN.out] at h
                  have h2 := row_set2 (k := kk) z2 h
                  rw [HLN.out] at h2
                  rw [Array.toList_setIfInBounds]
                  exact h2))
                by_cases h1 : z2.fPos = y2.fPos
                · have e2 : (z2.fName.toList == y2.fName.toList) = false := beq_eq_false_iff_ne.2 (fun e => hne ⟨h1, toList_injP e⟩)
                  rw [← h1] at cp0
                  clear hne h1
                  go_wp2_with fail
                  go_quiet (fail)
                  go_wp2
                  go_roundw
                  case rel => exact ⟨kk + 1, k2 + 1, dk.setIfInBounds kk z2, by go_num, by go_num, by omega, by omega, HRS.out _ HOX.out, (WritesF.setCell (p := ⟨g, kk * 2 + 1, none⟩) (WritesF.setCell (p := ⟨g, kk * 2, none⟩) (HWX.out.later (below_drewN (Below.refl _ _) _)) rfl) rfl), HKP.out⟩
                  case measure => simp [intOf]; omega
                · have e2 : (z2.fPos == y2.fPos) = false := beq_eq_false_iff_ne.2 h1
                  clear hne h1
                  go_wp2_with fail
                  go_quiet (fail)
                  go_wp2
                  go_roundw
                  case rel => exact ⟨kk + 1, k2 + 1, dk.setIfInBounds kk z2, by go_num, by go_num, by omega, by omega, HRS.out _ HOX.out, (WritesF.setCell (p := ⟨g, kk * 2 + 1, none⟩) (WritesF.setCell (p := ⟨g, kk * 2, none⟩) (HWX.out.later (below_drewN (Below.refl _ _) _)) rfl) rfl), HKP.out⟩
                  case measure => simp [intOf]; omega
            · have hend : k + k2 = n := by omega
              rw [← hln] at ho
              obtain ⟨us, hcl⟩ := run_clear2 (P := Tryz.prog) wr 59 68 (.agg #[.int .i64 0, .string ⟨#[]⟩]) (.int .i64 0) (.string ⟨#[]⟩) Tryz.underlying59 (fun W => by kernel_rfl) rfl rfl rfl g (kk * 2) (n - kk) (c - kk) (by omega) (fun j hj => by rw [ho.cellAt _ (by omega), List.getElem?_eq_getElem (by rw [flat_len2]; omega)]; rfl) (fun j hj => ho.frozenAt _)
              have hI2 := hI
              rw [hend, ← HN.out] at hI2
              have hkl : (compactL ltO l).length = kk := by rw [← HR.out, ← HN.out]; exact hI2.len
              have htk : dk.toList.take kk = compactL ltO l := by
                rw [← HR.out, ← HN.out]
                apply List.ext_getElem?
                intro j
                by_cases hj : j < kk
                · rw [List.getElem?_take_of_lt hj, hI2.low j hj, Array.getElem?_toList, getElem!_pos dk j (by rw [Array.length_toList] at hln; omega), Array.getElem?_eq_getElem]
                · rw [List.getElem?_eq_none (by rw [List.length_take]; omega), List.getElem?_eq_none (by rw [hI2.len]; omega)]
              obtain ⟨ys, hy1, hy2⟩ := own_clear (kk := kk) us wr (kk * 2) _ (Nat.le_refl _) ho (by have := (flat_cut (enc := valsocc) (n := 2) valsocc_len dk.toList (r := kk) (by omega)).1; exact this)
              rw [htk] at hy2
              have HFIN := Lib.hid (own_cut hy1 (r := kk) (by omega) hkl hy2)
              have HWF := Lib.hid (writes_setCells us wr (kk * 2) HWX.out)
              have HKL := Lib.hid hkl
              have hkn : kk < n := by omega
              have hkc : kk < c := by omega
              clear hy1 hy2 htk hkl hI2 hI ho hln
              go_wp2
              go_ret
              exact ⟨by rw [HKL.out]; rfl, HFIN.out, fun b0 hb0 => HWF.out.below (fun y hy => by subst hy; exact hb0 _ rfl) (by have := hb0 g rfl; omega)⟩
        · have HDUP := Lib.hid (show Go.Lib.keeps l.toArray k = true from Go.Lib.keeps_pos (by rw [arr_at, arr_at]; exact hdup))
          have hne : ¬ ((l.getD k default).fPos = (l.getD (k - 1) default).fPos ∧ (l.getD k default).fName = (l.getD (k - 1) default).fName) := fun h => hdup (by
            generalize l.getD k default = a at *
            generalize l.getD (k - 1) default = b at *
            cases a; cases b; dsimp only at h; rw [h.1, h.2])
          clear hdup
          generalize l.getD k default = z at *
          generalize l.getD (k - 1) default = y at *
          by_cases h1 : z.fPos = y.fPos
          · have e2 : (z.fName.toList == y.fName.toList) = false := beq_eq_false_iff_ne.2 (fun e => hne ⟨h1, toList_injP e⟩)
            rw [h1] at c0
            clear hne h1
            go_wp2_with fail
            go_quiet (fail)
            go_wp2
            go_roundw
            case rel => exact ⟨k + 1, by omega, by omega, by go_num, HOR.out, HWR.out.later (below_drewN (Below.refl _ _) _), fun j hj => (Nat.lt_or_ge j k).elim (fun h => HALL.out j h) (fun h => (show k = j by omega) ▸ HDUP.out)⟩
            case measure => simp [intOf]; omega
          · have e2 : (z.fPos == y.fPos) = false := beq_eq_false_iff_ne.2 h1
            clear hne h1
            go_wp2_with fail
            go_quiet (fail)
            go_wp2
            go_roundw
            case rel => exact ⟨k + 1, by omega, by omega, by go_num, HOR.out, HWR.out.later (below_drewN (Below.refl _ _) _), fun j hj => (Nat.lt_or_ge j k).elim (fun h => HALL.out j h) (fun h => (show k = j by omega) ▸ HDUP.out)⟩
            case measure => simp [intOf]; omega
      · obtain rfl : k = n := by omega
        clear hor
        go_wp2
        go_ret
        obtain ⟨e1, e2⟩ := HS.out wr (fun j hj => HALL.out j hj) HOR.out
        exact ⟨e1, e2, fun b0 hb0 => HWR.out.below (fun y hy => by subst hy; exact hb0 _ rfl) (by have := hb0 g rfl; omega)⟩
end Go.Proofs.YtnmepemmpeboeaaGreat
