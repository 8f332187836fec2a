/-
  l4Put of the model.
-/
import Derived.Test.YtoockfmkcjomhaaPutT
import Derived.Test.YtoockfmkcjomhaaBefore
import Derived.Test.YtoockfmkcjomhaaFoldB
import Derived.Test.YtoockfmkcjomhaaNodes4
import Derived.Test.YtoockfmkcjomhaaFreeK
import Derived.Test.YtoockfmkcjomhaaFreeA
import Derived.Test.YtoockfmkcjomhaaFree
import Derived.BigQuiet
namespace Go.Proofs.Ytoockfmkcjomhaa
open Go.ChangeShapes Go.WideShapes Go.ChangeAt Go.RowKit Go.Deep

def valsocc (y : DOccurrence) : List Value := [.int .i64 y.fPos, .string y.fName]
theorem toList_injP {a b : ByteArray} (h : a.toList = b.toList) : a = b := by
  rw [Lib.toList_data, Lib.toList_data] at h
  cases a; cases b
  congr 1
  exact Array.toList_inj.1 h
theorem ownsRow_atP {w : World} {B B' n len g c : Nat} {e : TypeId} {xs : List Value} (h : w.ownsRow B e n (.slice (some ⟨g, 0, none⟩) len c) len xs) (hB : B' ≤ g) : w.ownsRow B' e n (.slice (some ⟨g, 0, none⟩) len c) len xs := by
  obtain ⟨h1, h2⟩ := h
  refine ⟨h1, ?_⟩
  rcases h2 with ⟨h2, _⟩ | ⟨g', cap, cur, hv, _, hg, h3⟩
  · cases h2
  · have e1 : g = g' := by simp only [Value.slice.injEq, Option.some.injEq, Addr.mk.injEq, and_true] at hv; exact hv.1
    subst e1
    exact Or.inr ⟨g, cap, cur, hv, hB, hg, h3⟩
theorem take_cells {w : World} {B g c k : Nat} {l : List DOccurrence} (h : w.ownsRow B 47 2 (.slice (some ⟨g, 0, none⟩) l.length c) l.length (l.flatMap valsocc)) (hk : k ≤ l.length) :
    ∀ j u, ((l.take k).flatMap valsocc)[j]? = some u → w.cell? ((⟨g, 0, none⟩ : Addr).add j) = some u := by
  intro j u hj
  have h1 := own_take (enc := valsocc) (n := 2) (fun _ => rfl) h hk
  have hl : (l.take k).length = k := by rw [List.length_take, Nat.min_eq_left hk]
  have hlt : j < (l.take k).length * 2 := by
    have := (List.getElem?_eq_some_iff.1 hj).1
    rwa [h1.1] at this
  rw [hl] at h1 hlt
  rw [add_plain, Nat.zero_add, h1.cellAt j hlt, hj]
theorem valsocc_len (y : DOccurrence) : (valsocc y).length = 2 := rfl
theorem flat_len2 (l : List DOccurrence) : (l.flatMap valsocc).length = l.length * 2 := by
  induction l with
  | nil => rfl
  | cons y l ih => rw [List.flatMap_cons, List.length_append, ih, valsocc_len, List.length_cons]; omega
theorem flat_one (l : List DOccurrence) : ∀ u ∈ l.flatMap valsocc, u.oneCell' = true := by
  intro u hu
  obtain ⟨y, _, hy⟩ := List.mem_flatMap.1 hu
  simp only [valsocc, List.mem_cons, List.not_mem_nil, or_false] at hy
  rcases hy with rfl | rfl <;> rfl
theorem occ_cells {w : World} {B g c : Nat} {l : List DOccurrence} (h : w.ownsRow B 47 2 (.slice (some ⟨g, 0, none⟩) l.length c) l.length (l.flatMap valsocc)) {k : Nat} (hk : k < l.length) :
    w.cell? ⟨g, k * 2, none⟩ = some (.int .i64 (l.getD k default).fPos) ∧ w.cell? ⟨g, k * 2 + 1, none⟩ = some (.string (l.getD k default).fName) := by
  have h0 := flatR_at valsocc 2 valsocc_len l k 0 hk (by decide)
  have h1 := flatR_at valsocc 2 valsocc_len l k 1 hk (by decide)
  exact ⟨(h.cellAt (k * 2) (by omega)).trans h0, (h.cellAt (k * 2 + 1) (by omega)).trans h1⟩

set_option maxHeartbeats 16000000 in
set_option maxRecDepth 100000 in
theorem spec_l4Put {B g c : Nat} (l : List DOccurrence) (hl : l.length ≤ 4194304) (x : DOccurrence) (w : World) (hown : w.ownsRow B 47 2 (.slice (some ⟨g, 0, none⟩) l.length c) l.length (l.flatMap valsocc)) :
    Calls Try.prog 24 #[.slice (some ⟨g, 0, none⟩) l.length c, .agg #[.int .i64 x.fPos, .string x.fName]] w fun e w' => ∃ g' c', e = .returned (.slice (some ⟨g', 0, none⟩) (putL ltO x l).length c') ∧ w'.ownsRow B 47 2 (.slice (some ⟨g', 0, none⟩) (putL ltO x l).length c') (putL ltO x l).length ((putL ltO x l).flatMap valsocc) ∧ Below w.heap.size w w' := by
  have HB := Lib.hid ((Below.refl w.heap.size w).alloc (Nat.le_refl _) (.cells #[.int .i64 x.fPos, .string x.fName] 47))
  have HX := Lib.hid (show (w.alloc (.cells #[.int .i64 x.fPos, .string x.fName] 47)).heap[w.heap.size]? = some (.cells #[.int .i64 x.fPos, .string x.fName] 47) from blk_new rfl)
  have HSZ := Lib.hid (show (w.alloc (.cells #[.int .i64 x.fPos, .string x.fName] 47)).heap.size = w.heap.size + 1 by simp)
  have HO := Lib.hid hown
  have HGL := Lib.hid (show B ≤ g ∧ g < w.heap.size from hown.lt g rfl)
  have HPL := Lib.hid (fun k (hk : k ≤ l.length) h0 h1 => putL_at strictO x l k hk h0 h1)
  have HBF := Lib.hid (fun (y : DOccurrence) (W : World) => spec_l4Before y x W)
  clear hown
  obtain ⟨i0, hi', hz0, hz1, hz2⟩ := info_parts info_Occurrence
  go_enter Try.func24, Try.ntmps24
  go_wp2
  generalize w.alloc (.cells #[.int .i64 x.fPos, .string x.fName] 47) = w0 at *
  go_loopw [5] (fun i wr => ∃ k : Nat, k ≤ l.length ∧ i = .int .i64 (k : Int) ∧ (∀ j, j < k → ltO (l.getD j default) x = true) ∧ Below w0.heap.size w0 wr) (fun i _ => l.length - (intOf i).toNat)
  case atStart => exact ⟨0, Nat.zero_le _, rfl, fun j hj => absurd hj (Nat.not_lt_zero _), Below.refl _ _⟩
  case round =>
    obtain ⟨k, hk, rfl, hlow, hbl⟩ := hrel
    have HLOW := Lib.hid hlow
    have HBL := Lib.hid hbl
    have HBW := Lib.hid (HB.out.trans (hbl.mono HB.out.size))
    clear hlow hbl
    by_cases hlt : k < l.length
    · have hlI : (k : Int) < (l.length : Int) := by omega
      have HC := Lib.hid (occ_cells (ownsRow_below HO.out HBW.out) hlt)
      have HCK := Lib.hid (HBF.out (l.getD k default))
      cases hb : ltO (l.getD k default) x
      · skip
        rw [hb] at HCK
        have HLB := Lib.hid hb
        clear hb
        generalize hy : l.getD k default = y at *
        have HY := Lib.hid hy
        clear hy
        go_wp2_with fail
        have hkk := hk
        clear hk
        refine wp_region_freeK [([], .none, []), ([], .none, []), ([1], .none, []), ([0, 2], .none, []), ([3], .none, []), ([4], .none, []), ([4], .none, []), ([4, 5, 6], .none, []), ([4, 7], .none, []), ([4], .none, []), ([4, 8, 9], .none, []), ([4, 10], .none, [])] [0, 1, 2, 3, 4, 5, 6, 7, 8, 9, 10, 11] [] (fun _ => False) (fun _ => True) (fun _ => 0) (fun jq9 V L H wx => match jq9 with | 0 => V 0 = .int .i64 (k : Int) | 1 => V 1 = .slice (some ⟨g, 0, none⟩) l.length c | 2 => V 2 = .int .i64 (l.length : Int) | 3 => V 3 = .bool true | 4 => V 4 = .bool true | 5 => V 5 = .slice (some ⟨g, 0, none⟩) l.length c | 6 => V 6 = .int .i64 (k : Int) | 7 => V 7 = .pointer (some ⟨g, k * 2, none⟩) | 8 => V 8 = .agg #[.int .i64 y.fPos, .string y.fName] | 9 => V 9 = .agg #[.int .i64 x.fPos, .string x.fName] | 10 => V 10 = .bool false | 11 => V 11 = .bool false | _ => True) (by kernel_rfl) (by kernel_rfl) ?obs (fun _ h => h.elim) trivial (fun _ _ _ _ _ => trivial) ?loc ?lasts ?walk
        case obs =>
          trivial
        case loc =>
          intro k V V' L H wx h0 h1 hG
          match k with
          | 0 =>
            try dsimp only at hG ⊢
            rw [← h0]
            exact hG
          | 1 =>
            try dsimp only at hG ⊢
            rw [← h0]
            exact hG
          | 2 =>
            try dsimp only at hG ⊢
            rw [← h0]
            exact hG
          | 3 =>
            try dsimp only at hG ⊢
            rw [← h0]
            exact hG
          | 4 =>
            try dsimp only at hG ⊢
            rw [← h0]
            exact hG
          | 5 =>
            try dsimp only at hG ⊢
            rw [← h0]
            exact hG
          | 6 =>
            try dsimp only at hG ⊢
            rw [← h0]
            exact hG
          | 7 =>
            try dsimp only at hG ⊢
            rw [← h0]
            exact hG
          | 8 =>
            try dsimp only at hG ⊢
            rw [← h0]
            exact hG
          | 9 =>
            try dsimp only at hG ⊢
            rw [← h0]
            exact hG
          | 10 =>
            try dsimp only at hG ⊢
            rw [← h0]
            exact hG
          | 11 =>
            try dsimp only at hG ⊢
            rw [← h0]
            exact hG
          | n + 12 => trivial
        case lasts =>
          intro i hi V L H wx wy hB hH hk
          match i, hi with
          | 0, _ => exact fun h => h
          | 1, _ => exact fun h => h
          | 2, _ => exact fun h => h
          | 3, _ => exact fun h => h
          | 4, _ => exact fun h => h
          | 5, _ => exact fun h => h
          | 6, _ => exact fun h => h
          | 7, _ => exact fun h => h
          | 8, _ => exact fun h => h
          | 9, _ => exact fun h => h
          | 10, _ => exact fun h => h
          | 11, _ => exact fun h => h
          | n + 12, hn => exact absurd hn (by simp)
        case walk =>
          simp (maxSteps := 4000000) only [freeK, Nat.reduceAdd, Act.put, List.setIfInBounds_toArray, List.set_cons_succ, List.set_cons_zero]
          refine ⟨?_, ?_, ?_, ?_, ?_, ?_, ?_, ?_, ?_, ?_, ?_, ?_, ?_⟩
          · intro V L H wq hw hk hj hd
            clear hd
            go_wp2_with fail
            exact freePost _ rfl ⟨⟨WritesF.refl _ _, hj⟩, upd_self⟩
          · intro V L H wq hw hk hj hd
            clear hd
            go_wp2_with fail
            exact freePost _ rfl ⟨⟨WritesF.refl _ _, hj⟩, upd_self⟩
          · intro V L H wq hw hk hj hd
            obtain ⟨⟨hL1, hM1, hH1, hv1⟩, -⟩ := hd
            rw [hv1]
            have HV1 := Lib.hid hv1
            clear hv1
            go_wp2_with fail
            exact freePost _ rfl ⟨⟨WritesF.refl _ _, hj⟩, upd_self⟩
          · intro V L H wq hw hk hj hd
            obtain ⟨⟨hL0, hM0, hH0, hv0⟩, ⟨hL2, hM2, hH2, hv2⟩, -⟩ := hd
            rw [hv0, hv2]
            have HV0 := Lib.hid hv0
            have HV2 := Lib.hid hv2
            clear hv0 hv2
            go_wp2_with fail
            exact freePost _ rfl ⟨⟨WritesF.refl _ _, hj⟩, upd_self⟩
          · intro V L H wq hw hk hj hd
            obtain ⟨⟨hL3, hM3, hH3, hv3⟩, -⟩ := hd
            rw [hv3]
            have HV3 := Lib.hid hv3
            clear hv3
            go_wp2_with fail
            exact freePost _ rfl ⟨⟨WritesF.refl _ _, hj⟩, upd_self⟩
          · intro V L H wq hw hk hj hd
            obtain ⟨⟨hL4, hM4, hH4, hv4⟩, -⟩ := hd
            rw [hv4]
            have HV4 := Lib.hid hv4
            clear hv4
            go_wp2_with fail
            exact freePost _ rfl ⟨⟨WritesF.refl _ _, hj⟩, upd_self⟩
          · intro V L H wq hw hk hj hd
            obtain ⟨⟨hL4, hM4, hH4, hv4⟩, -⟩ := hd
            rw [hv4]
            have HV4 := Lib.hid hv4
            clear hv4
            go_wp2_with fail
            exact freePost _ rfl ⟨⟨WritesF.refl _ _, hj⟩, upd_self⟩
          · intro V L H wq hw hk hj hd
            obtain ⟨⟨hL4, hM4, hH4, hv4⟩, ⟨hL5, hM5, hH5, hv5⟩, ⟨hL6, hM6, hH6, hv6⟩, -⟩ := hd
            rw [hv4, hv5, hv6]
            have HV4 := Lib.hid hv4
            have HV5 := Lib.hid hv5
            have HV6 := Lib.hid hv6
            clear hv4 hv5 hv6
            go_wp2_with fail
            exact freePost _ rfl ⟨⟨WritesF.refl _ _, hj⟩, upd_self⟩
          · intro V L H wq hw hk hj hd
            obtain ⟨⟨hL4, hM4, hH4, hv4⟩, ⟨hL7, hM7, hH7, hv7⟩, -⟩ := hd
            rw [hv4, hv7]
            have HV4 := Lib.hid hv4
            have HV7 := Lib.hid hv7
            clear hv4 hv7
            have q0 : wq.cell? ⟨g, k * 2, none⟩ = some (.int .i64 y.fPos) := (hk.cell (p := ⟨g, k * 2, none⟩) ⟨(show g < wr.heap.size from Nat.lt_of_lt_of_le HGL.out.2 HBW.out.size), fun h => h, trivial⟩ (show g < wr.heap.size from Nat.lt_of_lt_of_le HGL.out.2 HBW.out.size)).trans HC.out.1
            have q1 : wq.cell? ⟨g, k * 2 + 1, none⟩ = some (.string y.fName) := (hk.cell (p := ⟨g, k * 2 + 1, none⟩) ⟨(show g < wr.heap.size from Nat.lt_of_lt_of_le HGL.out.2 HBW.out.size), fun h => h, trivial⟩ (show g < wr.heap.size from Nat.lt_of_lt_of_le HGL.out.2 HBW.out.size)).trans HC.out.2
            go_wp2_with fail
            exact freePost _ rfl ⟨⟨WritesF.refl _ _, hj⟩, upd_self⟩
          · intro V L H wq hw hk hj hd
            obtain ⟨⟨hL4, hM4, hH4, hv4⟩, -⟩ := hd
            rw [hv4]
            have HV4 := Lib.hid hv4
            clear hv4
            have x0 : wq.cell? ⟨w.heap.size, 0, none⟩ = some (.int .i64 x.fPos) := (hk.cell (p := ⟨w.heap.size, 0, none⟩) ⟨(show w.heap.size < wr.heap.size by have := HSZ.out; have := HBL.out.size; omega), fun h => h, trivial⟩ (show w.heap.size < wr.heap.size by have := HSZ.out; have := HBL.out.size; omega)).trans ((HBL.out.cell (p := ⟨w.heap.size, 0, none⟩) (show w.heap.size < w0.heap.size by have := HSZ.out; omega)).trans (pblk_cell HX.out rfl))
            have x1 : wq.cell? ⟨w.heap.size, 1, none⟩ = some (.string x.fName) := (hk.cell (p := ⟨w.heap.size, 1, none⟩) ⟨(show w.heap.size < wr.heap.size by have := HSZ.out; have := HBL.out.size; omega), fun h => h, trivial⟩ (show w.heap.size < wr.heap.size by have := HSZ.out; have := HBL.out.size; omega)).trans ((HBL.out.cell (p := ⟨w.heap.size, 1, none⟩) (show w.heap.size < w0.heap.size by have := HSZ.out; omega)).trans (pblk_cell HX.out rfl))
            go_wp2_with fail
            exact freePost _ rfl ⟨⟨WritesF.refl _ _, hj⟩, upd_self⟩
          · intro V L H wq hw hk hj hd
            obtain ⟨⟨hL4, hM4, hH4, hv4⟩, ⟨hL8, hM8, hH8, hv8⟩, ⟨hL9, hM9, hH9, hv9⟩, -⟩ := hd
            rw [hv4, hv8, hv9]
            have HV4 := Lib.hid hv4
            have HV8 := Lib.hid hv8
            have HV9 := Lib.hid hv9
            clear hv4 hv8 hv9
            go_wp2_with fail
            refine (HCK.out wq).mono ?_
            rintro e w2 ⟨rfl, hb2⟩
            go_wp2_with fail
            exact freePost _ rfl ⟨⟨(WritesF.refl _ _).later hb2, trivial⟩, upd_self⟩
          · intro V L H wq hw hk hj hd
            obtain ⟨⟨hL4, hM4, hH4, hv4⟩, ⟨hL10, hM10, hH10, hv10⟩, -⟩ := hd
            rw [hv4, hv10]
            have HV4 := Lib.hid hv4
            have HV10 := Lib.hid hv10
            clear hv4 hv10
            go_wp2_with fail
            exact freePost _ rfl ⟨⟨WritesF.refl _ _, hj⟩, upd_self⟩
          · intro V L H wq hw hj hd hap hdead
            obtain ⟨⟨hL0, hM0, hH0, hv0⟩, ⟨hL1, hM1, hH1, hv1⟩, ⟨hL2, hM2, hH2, hv2⟩, ⟨hL3, hM3, hH3, hv3⟩, ⟨hL4, hM4, hH4, hv4⟩, ⟨hL5, hM5, hH5, hv5⟩, ⟨hL6, hM6, hH6, hv6⟩, ⟨hL7, hM7, hH7, hv7⟩, ⟨hL8, hM8, hH8, hv8⟩, ⟨hL9, hM9, hH9, hv9⟩, ⟨hL10, hM10, hH10, hv10⟩, ⟨hL11, hM11, hH11, hv11⟩, -⟩ := hd
            rw [hv0, hv1, hv2, hv3, hv4, hv5, hv6, hv7, hv8, hv9, hv10, hv11]
            clear hv0 hv1 hv2 hv3 hv4 hv5 hv6 hv7 hv8 hv9 hv10 hv11
            have HBQ := Lib.hid (HBL.out.trans ((fa_noneK hw).mono HBL.out.size))
            clear hw hj hap hdead
            have HBZ := Lib.hid (HB.out.trans (HBQ.out.mono HB.out.size))
            have q0 : wq.cell? ⟨g, k * 2, none⟩ = some (.int .i64 y.fPos) := (occ_cells (ownsRow_below HO.out HBZ.out) hlt).1.trans (by rw [HY.out])
            have q1 : wq.cell? ⟨g, k * 2 + 1, none⟩ = some (.string y.fName) := (occ_cells (ownsRow_below HO.out HBZ.out) hlt).2.trans (by rw [HY.out])
            have x0 : wq.cell? ⟨w.heap.size, 0, none⟩ = some (.int .i64 x.fPos) := (HBQ.out.cell (p := ⟨w.heap.size, 0, none⟩) (show w.heap.size < w0.heap.size by have := HSZ.out; omega)).trans (pblk_cell HX.out rfl)
            have x1 : wq.cell? ⟨w.heap.size, 1, none⟩ = some (.string x.fName) := (HBQ.out.cell (p := ⟨w.heap.size, 1, none⟩) (show w.heap.size < w0.heap.size by have := HSZ.out; omega)).trans (pblk_cell HX.out rfl)
            have hput := HPL.out k hkk HLOW.out (fun _ => by rw [HY.out]; exact HLB.out)
            rw [HY.out] at hput
            clear HPL HBF HCK HC HLOW HLB HBL HBW
            by_cases hxy : y = x
            · subst hxy
              have HE := Lib.hid (show putL ltO y l = l from hput.elim (fun h => h.2.2) fun h => absurd rfl (h.1 hlt))
              clear hput
              go_wp2_with fail
              go_quiet (fail)
              go_wp2
              go_ret
              refine ⟨g, c, ?_⟩
              rw [HE.out]
              exact ⟨rfl, ownsRow_below HO.out (below_drewN HBZ.out _), below_drewN HBZ.out _⟩
            · have HE := Lib.hid (show putL ltO x l = l.take k ++ [x] ++ l.drop k from hput.elim (fun h => absurd h.2.1 hxy) fun h => h.2)
              clear hput
              obtain ⟨yp, yn⟩ := y
              dsimp only at *
              by_cases h1 : yp = x.fPos
              · subst h1
                have hne : yn ≠ x.fName := fun e => hxy (by subst e; rfl)
                have e2 : (yn.toList == x.fName.toList) = false := beq_eq_false_iff_ne.2 fun e => hne (toList_injP e)
                have e3 : (x.fName.toList == yn.toList) = false := beq_eq_false_iff_ne.2 fun e => hne (toList_injP e.symm)
                clear hxy hne
                go_wp2_with fail
                go_quiet (fail)
                have hkc : k ≤ c := Nat.le_trans hkk (own_cap HO.out).1
                have hkc2 : ¬ c = k := by have := (own_cap HO.out).1; omega
                have HBD := Lib.hid (below_drewN HBZ.out nq)
                have HXL := Lib.hid (show w.heap.size < (wq.drewN nq).heap.size from Nat.lt_of_lt_of_le (show w.heap.size < w0.heap.size by have := HSZ.out; omega) HBQ.out.size)
                have X0 := Lib.hid (show (wq.drewN nq).cell? ⟨w.heap.size, 0, none⟩ = some (.int .i64 x.fPos) from x0)
                have X1 := Lib.hid (show (wq.drewN nq).cell? ⟨w.heap.size, 1, none⟩ = some (.string x.fName) from x1)
                clear q0 q1 x0 x1
                generalize wq.drewN nq = wz at HBD HXL X0 X1 ⊢
                have HB9 := Lib.hid (HBD.out.alloc HBD.out.size (.cells #[] 47))
                have HTC := Lib.hid (take_cells HO.out hkk)
                have HDC := Lib.hid (own_from valsocc_len HO.out hkk)
                go_wp2_with (first | (at_builtin; refine wpList_append_at rfl (.tmp 34) (.tmp 37) 26 rfl w.heap.size 47 i0 (.agg #[.int .i64 0, .string ⟨#[]⟩]) 2 24 Try.underlying26 hi' hz0 hz1 hz2 rfl (by decide) _ 0 [] rfl (World.ownsRow_made _ #[] 0 HBD.out.size (Nat.zero_le _) rfl) ⟨g, 0, none⟩ k c ((l.take k).flatMap valsocc) rfl (by rw [flat_len2, List.length_take, Nat.min_eq_left hkk]) (fun j u hj => (HB9.out.cell (p := (⟨g, 0, none⟩ : Addr).add j) (by rw [add_plain]; exact HGL.out.2)).trans (HTC.out j u hj)) (flat_one _) (by unfold maxLen; omega) (by omega) HB9.out.size ?_; intro v6 w6 hown6 hgrow6 hat6; have hb6 : Below wz.heap.size wz w6 := ((Below.refl _ wz).alloc (Nat.le_refl _) _).grown hgrow6 (by simp) (fun r hr => by injection hr with hr; exact Nat.le_of_eq hr); have p0 := (hb6.cell (p := ⟨w.heap.size, 0, none⟩) HXL.out).trans X0.out; have p1 := (hb6.cell (p := ⟨w.heap.size, 1, none⟩) HXL.out).trans X1.out; have HB6 := Lib.hid (HBD.out.trans (hb6.mono HBD.out.size)); have HO6 := Lib.hid hown6; have HR6 := Lib.hid (fun r (h : v6.ownBlock = some r) => (hown6.lt r h).1); clear hb6 hown6 hgrow6 hat6) | (at_builtin; refine wpList_append_at rfl (.tmp 39) (.tmp 41) 26 rfl w.heap.size 47 i0 (.agg #[.int .i64 0, .string ⟨#[]⟩]) 2 24 Try.underlying26 hi' hz0 hz1 hz2 rfl (by decide) v6 (0 + k) _ rfl (HO6.out.alloc _) ⟨w6.heap.size, 0, none⟩ 1 1 (valsocc x) rfl rfl (cells_at (blk_new rfl)) (by intro u hu; simp [valsocc] at hu; rcases hu with rfl | rfl <;> rfl) (by unfold maxLen; omega) (by omega) (Nat.le_trans HB6.out.size (by simp)) ?_; intro v7 w7 hown7 hgrow7 hat7; have HB7 := Lib.hid ((HB6.out.alloc HB6.out.size (.cells #[.int .i64 x.fPos, .string x.fName] 47)).grown hgrow7 (Nat.le_trans HB6.out.size (by simp)) HR6.out); have HO7 := Lib.hid hown7; have HR7 := Lib.hid (fun r (h : v7.ownBlock = some r) => (hown7.lt r h).1); clear hown7 hgrow7 hat7) | (at_builtin; refine wpList_append_at rfl (.tmp 43) (.tmp 46) 26 rfl w.heap.size 47 i0 (.agg #[.int .i64 0, .string ⟨#[]⟩]) 2 24 Try.underlying26 hi' hz0 hz1 hz2 rfl (by decide) v7 (0 + k + 1) _ rfl HO7.out ⟨g, k * 2, none⟩ (l.length - k) (c - k) ((l.drop k).flatMap valsocc) rfl (by rw [flat_len2, List.length_drop]) (fun j u hj => (HB7.out.cell (p := (⟨g, k * 2, none⟩ : Addr).add j) (by rw [add_plain]; exact HGL.out.2)).trans (HDC.out j u hj)) (flat_one _) (by unfold maxLen; omega) (by omega) HB7.out.size ?_; intro v8 w8 hown8 hgrow8 hat8; have HB8 := Lib.hid (HB7.out.grown hgrow8 HB7.out.size HR7.out); have HO8 := Lib.hid hown8; clear hown8 hgrow8 hat8))
                obtain ⟨g8, c8, e8, hB8, _⟩ := own_some HO8.out (by omega)
                rw [e8]
                go_ret
                refine ⟨g8, c8, ?_⟩
                have h8 := HO8.out
                rw [e8] at h8
                have hlen : (l.take k ++ [x] ++ l.drop k).length = 0 + k + 1 + (l.length - k) := by rw [List.length_append, List.length_append, List.length_take, List.length_drop, Nat.min_eq_left hkk, List.length_singleton]; omega
                rw [HE.out, hlen]
                refine ⟨rfl, ?_, HB8.out⟩
                rw [List.flatMap_append, List.flatMap_append]
                exact ownsRow_atP h8 (Nat.le_trans HGL.out.1 (Nat.le_trans (Nat.le_of_lt HGL.out.2) hB8))
              · have e1 : (yp == x.fPos) = false := beq_eq_false_iff_ne.2 h1
                have e2 : (x.fPos == yp) = false := beq_eq_false_iff_ne.2 (Ne.symm h1)
                clear hxy h1
                go_wp2_with fail
                go_quiet (fail)
                have hkc : k ≤ c := Nat.le_trans hkk (own_cap HO.out).1
                have hkc2 : ¬ c = k := by have := (own_cap HO.out).1; omega
                have HBD := Lib.hid (below_drewN HBZ.out nq)
                have HXL := Lib.hid (show w.heap.size < (wq.drewN nq).heap.size from Nat.lt_of_lt_of_le (show w.heap.size < w0.heap.size by have := HSZ.out; omega) HBQ.out.size)
                have X0 := Lib.hid (show (wq.drewN nq).cell? ⟨w.heap.size, 0, none⟩ = some (.int .i64 x.fPos) from x0)
                have X1 := Lib.hid (show (wq.drewN nq).cell? ⟨w.heap.size, 1, none⟩ = some (.string x.fName) from x1)
                clear q0 q1 x0 x1
                generalize wq.drewN nq = wz at HBD HXL X0 X1 ⊢
                have HB9 := Lib.hid (HBD.out.alloc HBD.out.size (.cells #[] 47))
                have HTC := Lib.hid (take_cells HO.out hkk)
                have HDC := Lib.hid (own_from valsocc_len HO.out hkk)
                go_wp2_with (first | (at_builtin; refine wpList_append_at rfl (.tmp 34) (.tmp 37) 26 rfl w.heap.size 47 i0 (.agg #[.int .i64 0, .string ⟨#[]⟩]) 2 24 Try.underlying26 hi' hz0 hz1 hz2 rfl (by decide) _ 0 [] rfl (World.ownsRow_made _ #[] 0 HBD.out.size (Nat.zero_le _) rfl) ⟨g, 0, none⟩ k c ((l.take k).flatMap valsocc) rfl (by rw [flat_len2, List.length_take, Nat.min_eq_left hkk]) (fun j u hj => (HB9.out.cell (p := (⟨g, 0, none⟩ : Addr).add j) (by rw [add_plain]; exact HGL.out.2)).trans (HTC.out j u hj)) (flat_one _) (by unfold maxLen; omega) (by omega) HB9.out.size ?_; intro v6 w6 hown6 hgrow6 hat6; have hb6 : Below wz.heap.size wz w6 := ((Below.refl _ wz).alloc (Nat.le_refl _) _).grown hgrow6 (by simp) (fun r hr => by injection hr with hr; exact Nat.le_of_eq hr); have p0 := (hb6.cell (p := ⟨w.heap.size, 0, none⟩) HXL.out).trans X0.out; have p1 := (hb6.cell (p := ⟨w.heap.size, 1, none⟩) HXL.out).trans X1.out; have HB6 := Lib.hid (HBD.out.trans (hb6.mono HBD.out.size)); have HO6 := Lib.hid hown6; have HR6 := Lib.hid (fun r (h : v6.ownBlock = some r) => (hown6.lt r h).1); clear hb6 hown6 hgrow6 hat6) | (at_builtin; refine wpList_append_at rfl (.tmp 39) (.tmp 41) 26 rfl w.heap.size 47 i0 (.agg #[.int .i64 0, .string ⟨#[]⟩]) 2 24 Try.underlying26 hi' hz0 hz1 hz2 rfl (by decide) v6 (0 + k) _ rfl (HO6.out.alloc _) ⟨w6.heap.size, 0, none⟩ 1 1 (valsocc x) rfl rfl (cells_at (blk_new rfl)) (by intro u hu; simp [valsocc] at hu; rcases hu with rfl | rfl <;> rfl) (by unfold maxLen; omega) (by omega) (Nat.le_trans HB6.out.size (by simp)) ?_; intro v7 w7 hown7 hgrow7 hat7; have HB7 := Lib.hid ((HB6.out.alloc HB6.out.size (.cells #[.int .i64 x.fPos, .string x.fName] 47)).grown hgrow7 (Nat.le_trans HB6.out.size (by simp)) HR6.out); have HO7 := Lib.hid hown7; have HR7 := Lib.hid (fun r (h : v7.ownBlock = some r) => (hown7.lt r h).1); clear hown7 hgrow7 hat7) | (at_builtin; refine wpList_append_at rfl (.tmp 43) (.tmp 46) 26 rfl w.heap.size 47 i0 (.agg #[.int .i64 0, .string ⟨#[]⟩]) 2 24 Try.underlying26 hi' hz0 hz1 hz2 rfl (by decide) v7 (0 + k + 1) _ rfl HO7.out ⟨g, k * 2, none⟩ (l.length - k) (c - k) ((l.drop k).flatMap valsocc) rfl (by rw [flat_len2, List.length_drop]) (fun j u hj => (HB7.out.cell (p := (⟨g, k * 2, none⟩ : Addr).add j) (by rw [add_plain]; exact HGL.out.2)).trans (HDC.out j u hj)) (flat_one _) (by unfold maxLen; omega) (by omega) HB7.out.size ?_; intro v8 w8 hown8 hgrow8 hat8; have HB8 := Lib.hid (HB7.out.grown hgrow8 HB7.out.size HR7.out); have HO8 := Lib.hid hown8; clear hown8 hgrow8 hat8))
                obtain ⟨g8, c8, e8, hB8, _⟩ := own_some HO8.out (by omega)
                rw [e8]
                go_ret
                refine ⟨g8, c8, ?_⟩
                have h8 := HO8.out
                rw [e8] at h8
                have hlen : (l.take k ++ [x] ++ l.drop k).length = 0 + k + 1 + (l.length - k) := by rw [List.length_append, List.length_append, List.length_take, List.length_drop, Nat.min_eq_left hkk, List.length_singleton]; omega
                rw [HE.out, hlen]
                refine ⟨rfl, ?_, HB8.out⟩
                rw [List.flatMap_append, List.flatMap_append]
                exact ownsRow_atP h8 (Nat.le_trans HGL.out.1 (Nat.le_trans (Nat.le_of_lt HGL.out.2) hB8))
      · skip
        rw [hb] at HCK
        have HLB := Lib.hid hb
        clear hb
        generalize hy : l.getD k default = y at *
        have HY := Lib.hid hy
        clear hy
        go_wp2_with fail
        have hkk := hk
        clear hk
        refine wp_region_freeK [([], .none, []), ([], .none, []), ([1], .none, []), ([0, 2], .none, []), ([3], .none, []), ([4], .none, []), ([4], .none, []), ([4, 5, 6], .none, []), ([4, 7], .none, []), ([4], .none, []), ([4, 8, 9], .none, []), ([4, 10], .none, [])] [0, 1, 2, 3, 4, 5, 6, 7, 8, 9, 10, 11] [] (fun _ => False) (fun _ => True) (fun _ => 0) (fun jq9 V L H wx => match jq9 with | 0 => V 0 = .int .i64 (k : Int) | 1 => V 1 = .slice (some ⟨g, 0, none⟩) l.length c | 2 => V 2 = .int .i64 (l.length : Int) | 3 => V 3 = .bool true | 4 => V 4 = .bool true | 5 => V 5 = .slice (some ⟨g, 0, none⟩) l.length c | 6 => V 6 = .int .i64 (k : Int) | 7 => V 7 = .pointer (some ⟨g, k * 2, none⟩) | 8 => V 8 = .agg #[.int .i64 y.fPos, .string y.fName] | 9 => V 9 = .agg #[.int .i64 x.fPos, .string x.fName] | 10 => V 10 = .bool true | 11 => V 11 = .bool true | _ => True) (by kernel_rfl) (by kernel_rfl) ?obs (fun _ h => h.elim) trivial (fun _ _ _ _ _ => trivial) ?loc ?lasts ?walk
        case obs =>
          trivial
        case loc =>
          intro k V V' L H wx h0 h1 hG
          match k with
          | 0 =>
            try dsimp only at hG ⊢
            rw [← h0]
            exact hG
          | 1 =>
            try dsimp only at hG ⊢
            rw [← h0]
            exact hG
          | 2 =>
            try dsimp only at hG ⊢
            rw [← h0]
            exact hG
          | 3 =>
            try dsimp only at hG ⊢
            rw [← h0]
            exact hG
          | 4 =>
            try dsimp only at hG ⊢
            rw [← h0]
            exact hG
          | 5 =>
            try dsimp only at hG ⊢
            rw [← h0]
            exact hG
          | 6 =>
            try dsimp only at hG ⊢
            rw [← h0]
            exact hG
          | 7 =>
            try dsimp only at hG ⊢
            rw [← h0]
            exact hG
          | 8 =>
            try dsimp only at hG ⊢
            rw [← h0]
            exact hG
          | 9 =>
            try dsimp only at hG ⊢
            rw [← h0]
            exact hG
          | 10 =>
            try dsimp only at hG ⊢
            rw [← h0]
            exact hG
          | 11 =>
            try dsimp only at hG ⊢
            rw [← h0]
            exact hG
          | n + 12 => trivial
        case lasts =>
          intro i hi V L H wx wy hB hH hk
          match i, hi with
          | 0, _ => exact fun h => h
          | 1, _ => exact fun h => h
          | 2, _ => exact fun h => h
          | 3, _ => exact fun h => h
          | 4, _ => exact fun h => h
          | 5, _ => exact fun h => h
          | 6, _ => exact fun h => h
          | 7, _ => exact fun h => h
          | 8, _ => exact fun h => h
          | 9, _ => exact fun h => h
          | 10, _ => exact fun h => h
          | 11, _ => exact fun h => h
          | n + 12, hn => exact absurd hn (by simp)
        case walk =>
          simp (maxSteps := 4000000) only [freeK, Nat.reduceAdd, Act.put, List.setIfInBounds_toArray, List.set_cons_succ, List.set_cons_zero]
          refine ⟨?_, ?_, ?_, ?_, ?_, ?_, ?_, ?_, ?_, ?_, ?_, ?_, ?_⟩
          · intro V L H wq hw hk hj hd
            clear hd
            go_wp2_with fail
            exact freePost _ rfl ⟨⟨WritesF.refl _ _, hj⟩, upd_self⟩
          · intro V L H wq hw hk hj hd
            clear hd
            go_wp2_with fail
            exact freePost _ rfl ⟨⟨WritesF.refl _ _, hj⟩, upd_self⟩
          · intro V L H wq hw hk hj hd
            obtain ⟨⟨hL1, hM1, hH1, hv1⟩, -⟩ := hd
            rw [hv1]
            have HV1 := Lib.hid hv1
            clear hv1
            go_wp2_with fail
            exact freePost _ rfl ⟨⟨WritesF.refl _ _, hj⟩, upd_self⟩
          · intro V L H wq hw hk hj hd
            obtain ⟨⟨hL0, hM0, hH0, hv0⟩, ⟨hL2, hM2, hH2, hv2⟩, -⟩ := hd
            rw [hv0, hv2]
            have HV0 := Lib.hid hv0
            have HV2 := Lib.hid hv2
            clear hv0 hv2
            go_wp2_with fail
            exact freePost _ rfl ⟨⟨WritesF.refl _ _, hj⟩, upd_self⟩
          · intro V L H wq hw hk hj hd
            obtain ⟨⟨hL3, hM3, hH3, hv3⟩, -⟩ := hd
            rw [hv3]
            have HV3 := Lib.hid hv3
            clear hv3
            go_wp2_with fail
            exact freePost _ rfl ⟨⟨WritesF.refl _ _, hj⟩, upd_self⟩
          · intro V L H wq hw hk hj hd
            obtain ⟨⟨hL4, hM4, hH4, hv4⟩, -⟩ := hd
            rw [hv4]
            have HV4 := Lib.hid hv4
            clear hv4
            go_wp2_with fail
            exact freePost _ rfl ⟨⟨WritesF.refl _ _, hj⟩, upd_self⟩
          · intro V L H wq hw hk hj hd
            obtain ⟨⟨hL4, hM4, hH4, hv4⟩, -⟩ := hd
            rw [hv4]
            have HV4 := Lib.hid hv4
            clear hv4
            go_wp2_with fail
            exact freePost _ rfl ⟨⟨WritesF.refl _ _, hj⟩, upd_self⟩
          · intro V L H wq hw hk hj hd
            obtain ⟨⟨hL4, hM4, hH4, hv4⟩, ⟨hL5, hM5, hH5, hv5⟩, ⟨hL6, hM6, hH6, hv6⟩, -⟩ := hd
            rw [hv4, hv5, hv6]
            have HV4 := Lib.hid hv4
            have HV5 := Lib.hid hv5
            have HV6 := Lib.hid hv6
            clear hv4 hv5 hv6
            go_wp2_with fail
            exact freePost _ rfl ⟨⟨WritesF.refl _ _, hj⟩, upd_self⟩
          · intro V L H wq hw hk hj hd
            obtain ⟨⟨hL4, hM4, hH4, hv4⟩, ⟨hL7, hM7, hH7, hv7⟩, -⟩ := hd
            rw [hv4, hv7]
            have HV4 := Lib.hid hv4
            have HV7 := Lib.hid hv7
            clear hv4 hv7
            have q0 : wq.cell? ⟨g, k * 2, none⟩ = some (.int .i64 y.fPos) := (hk.cell (p := ⟨g, k * 2, none⟩) ⟨(show g < wr.heap.size from Nat.lt_of_lt_of_le HGL.out.2 HBW.out.size), fun h => h, trivial⟩ (show g < wr.heap.size from Nat.lt_of_lt_of_le HGL.out.2 HBW.out.size)).trans HC.out.1
            have q1 : wq.cell? ⟨g, k * 2 + 1, none⟩ = some (.string y.fName) := (hk.cell (p := ⟨g, k * 2 + 1, none⟩) ⟨(show g < wr.heap.size from Nat.lt_of_lt_of_le HGL.out.2 HBW.out.size), fun h => h, trivial⟩ (show g < wr.heap.size from Nat.lt_of_lt_of_le HGL.out.2 HBW.out.size)).trans HC.out.2
            go_wp2_with fail
            exact freePost _ rfl ⟨⟨WritesF.refl _ _, hj⟩, upd_self⟩
          · intro V L H wq hw hk hj hd
            obtain ⟨⟨hL4, hM4, hH4, hv4⟩, -⟩ := hd
            rw [hv4]
            have HV4 := Lib.hid hv4
            clear hv4
            have x0 : wq.cell? ⟨w.heap.size, 0, none⟩ = some (.int .i64 x.fPos) := (hk.cell (p := ⟨w.heap.size, 0, none⟩) ⟨(show w.heap.size < wr.heap.size by have := HSZ.out; have := HBL.out.size; omega), fun h => h, trivial⟩ (show w.heap.size < wr.heap.size by have := HSZ.out; have := HBL.out.size; omega)).trans ((HBL.out.cell (p := ⟨w.heap.size, 0, none⟩) (show w.heap.size < w0.heap.size by have := HSZ.out; omega)).trans (pblk_cell HX.out rfl))
            have x1 : wq.cell? ⟨w.heap.size, 1, none⟩ = some (.string x.fName) := (hk.cell (p := ⟨w.heap.size, 1, none⟩) ⟨(show w.heap.size < wr.heap.size by have := HSZ.out; have := HBL.out.size; omega), fun h => h, trivial⟩ (show w.heap.size < wr.heap.size by have := HSZ.out; have := HBL.out.size; omega)).trans ((HBL.out.cell (p := ⟨w.heap.size, 1, none⟩) (show w.heap.size < w0.heap.size by have := HSZ.out; omega)).trans (pblk_cell HX.out rfl))
            go_wp2_with fail
            exact freePost _ rfl ⟨⟨WritesF.refl _ _, hj⟩, upd_self⟩
          · intro V L H wq hw hk hj hd
            obtain ⟨⟨hL4, hM4, hH4, hv4⟩, ⟨hL8, hM8, hH8, hv8⟩, ⟨hL9, hM9, hH9, hv9⟩, -⟩ := hd
            rw [hv4, hv8, hv9]
            have HV4 := Lib.hid hv4
            have HV8 := Lib.hid hv8
            have HV9 := Lib.hid hv9
            clear hv4 hv8 hv9
            go_wp2_with fail
            refine (HCK.out wq).mono ?_
            rintro e w2 ⟨rfl, hb2⟩
            go_wp2_with fail
            exact freePost _ rfl ⟨⟨(WritesF.refl _ _).later hb2, trivial⟩, upd_self⟩
          · intro V L H wq hw hk hj hd
            obtain ⟨⟨hL4, hM4, hH4, hv4⟩, ⟨hL10, hM10, hH10, hv10⟩, -⟩ := hd
            rw [hv4, hv10]
            have HV4 := Lib.hid hv4
            have HV10 := Lib.hid hv10
            clear hv4 hv10
            go_wp2_with fail
            exact freePost _ rfl ⟨⟨WritesF.refl _ _, hj⟩, upd_self⟩
          · intro V L H wq hw hj hd hap hdead
            obtain ⟨⟨hL0, hM0, hH0, hv0⟩, ⟨hL1, hM1, hH1, hv1⟩, ⟨hL2, hM2, hH2, hv2⟩, ⟨hL3, hM3, hH3, hv3⟩, ⟨hL4, hM4, hH4, hv4⟩, ⟨hL5, hM5, hH5, hv5⟩, ⟨hL6, hM6, hH6, hv6⟩, ⟨hL7, hM7, hH7, hv7⟩, ⟨hL8, hM8, hH8, hv8⟩, ⟨hL9, hM9, hH9, hv9⟩, ⟨hL10, hM10, hH10, hv10⟩, ⟨hL11, hM11, hH11, hv11⟩, -⟩ := hd
            rw [hv0, hv1, hv2, hv3, hv4, hv5, hv6, hv7, hv8, hv9, hv10, hv11]
            clear hv0 hv1 hv2 hv3 hv4 hv5 hv6 hv7 hv8 hv9 hv10 hv11
            have HBQ := Lib.hid (HBL.out.trans ((fa_noneK hw).mono HBL.out.size))
            clear hw hj hap hdead
            go_wp2
            go_roundw
            case rel => exact ⟨k + 1, by omega, by go_num, fun j hj => by
                rcases Nat.lt_or_ge j k with h | h
                · exact HLOW.out j h
                · obtain rfl : j = k := by omega
                  rw [HY.out]; exact HLB.out, HBQ.out⟩
            case measure => simp [intOf]; omega
    · have hkk := hk
      have hke : l.length = k := by omega
      have hd : decide ((k : Int) < (l.length : Int)) = false := by rw [hke]; simp
      clear hke
      have hput := HPL.out k hkk HLOW.out (fun h => absurd h hlt)
      have HE := Lib.hid (show putL ltO x l = l.take k ++ [x] ++ l.drop k from hput.elim (fun h => absurd h.1 hlt) fun h => h.2)
      clear hput HPL HBF HLOW hk
      go_wp2_with fail
      go_quiet (fail)
      have HBQ := Lib.hid (below_drewN HBL.out nq)
      have HBZ := Lib.hid (below_drewN HBW.out nq)
      generalize wr.drewN nq = wq at HBQ HBZ ⊢
      have x0 : wq.cell? ⟨w.heap.size, 0, none⟩ = some (.int .i64 x.fPos) := (HBQ.out.cell (p := ⟨w.heap.size, 0, none⟩) (show w.heap.size < w0.heap.size by have := HSZ.out; omega)).trans (pblk_cell HX.out rfl)
      have x1 : wq.cell? ⟨w.heap.size, 1, none⟩ = some (.string x.fName) := (HBQ.out.cell (p := ⟨w.heap.size, 1, none⟩) (show w.heap.size < w0.heap.size by have := HSZ.out; omega)).trans (pblk_cell HX.out rfl)
      clear HBL HBW
      go_wp2_with fail
      go_quiet (fail)
      by_cases hc : c = k
      · have hc2 : k = c := hc.symm
        clear hc
        subst hc2
        have hkc : k ≤ k := Nat.le_refl _
        skip
        have HBD := Lib.hid (below_drewN HBZ.out nq)
        have HXL := Lib.hid (show w.heap.size < (wq.drewN nq).heap.size from Nat.lt_of_lt_of_le (show w.heap.size < w0.heap.size by have := HSZ.out; omega) HBQ.out.size)
        have X0 := Lib.hid (show (wq.drewN nq).cell? ⟨w.heap.size, 0, none⟩ = some (.int .i64 x.fPos) from x0)
        have X1 := Lib.hid (show (wq.drewN nq).cell? ⟨w.heap.size, 1, none⟩ = some (.string x.fName) from x1)
        clear x0 x1
        generalize wq.drewN nq = wz at HBD HXL X0 X1 ⊢
        have HB9 := Lib.hid (HBD.out.alloc HBD.out.size (.cells #[] 47))
        have HTC := Lib.hid (take_cells HO.out hkk)
        have HDC := Lib.hid (own_from valsocc_len HO.out hkk)
        go_wp2_with (first | (at_builtin; refine wpList_append_at rfl (.tmp 34) (.tmp 37) 26 rfl w.heap.size 47 i0 (.agg #[.int .i64 0, .string ⟨#[]⟩]) 2 24 Try.underlying26 hi' hz0 hz1 hz2 rfl (by decide) _ 0 [] rfl (World.ownsRow_made _ #[] 0 HBD.out.size (Nat.zero_le _) rfl) ⟨g, 0, none⟩ k k ((l.take k).flatMap valsocc) rfl (by rw [flat_len2, List.length_take, Nat.min_eq_left hkk]) (fun j u hj => (HB9.out.cell (p := (⟨g, 0, none⟩ : Addr).add j) (by rw [add_plain]; exact HGL.out.2)).trans (HTC.out j u hj)) (flat_one _) (by unfold maxLen; omega) (by omega) HB9.out.size ?_; intro v6 w6 hown6 hgrow6 hat6; have hb6 : Below wz.heap.size wz w6 := ((Below.refl _ wz).alloc (Nat.le_refl _) _).grown hgrow6 (by simp) (fun r hr => by injection hr with hr; exact Nat.le_of_eq hr); have p0 := (hb6.cell (p := ⟨w.heap.size, 0, none⟩) HXL.out).trans X0.out; have p1 := (hb6.cell (p := ⟨w.heap.size, 1, none⟩) HXL.out).trans X1.out; have HB6 := Lib.hid (HBD.out.trans (hb6.mono HBD.out.size)); have HO6 := Lib.hid hown6; have HR6 := Lib.hid (fun r (h : v6.ownBlock = some r) => (hown6.lt r h).1); clear hb6 hown6 hgrow6 hat6) | (at_builtin; refine wpList_append_at rfl (.tmp 39) (.tmp 41) 26 rfl w.heap.size 47 i0 (.agg #[.int .i64 0, .string ⟨#[]⟩]) 2 24 Try.underlying26 hi' hz0 hz1 hz2 rfl (by decide) v6 (0 + k) _ rfl (HO6.out.alloc _) ⟨w6.heap.size, 0, none⟩ 1 1 (valsocc x) rfl rfl (cells_at (blk_new rfl)) (by intro u hu; simp [valsocc] at hu; rcases hu with rfl | rfl <;> rfl) (by unfold maxLen; omega) (by omega) (Nat.le_trans HB6.out.size (by simp)) ?_; intro v7 w7 hown7 hgrow7 hat7; have HB7 := Lib.hid ((HB6.out.alloc HB6.out.size (.cells #[.int .i64 x.fPos, .string x.fName] 47)).grown hgrow7 (Nat.le_trans HB6.out.size (by simp)) HR6.out); have HO7 := Lib.hid hown7; have HR7 := Lib.hid (fun r (h : v7.ownBlock = some r) => (hown7.lt r h).1); clear hown7 hgrow7 hat7) | (at_builtin; refine wpList_append_at rfl (.tmp 43) (.tmp 46) 26 rfl w.heap.size 47 i0 (.agg #[.int .i64 0, .string ⟨#[]⟩]) 2 24 Try.underlying26 hi' hz0 hz1 hz2 rfl (by decide) v7 (0 + k + 1) _ rfl HO7.out ⟨g, 0, none⟩ (l.length - k) _ ((l.drop k).flatMap valsocc) rfl (by rw [flat_len2, List.length_drop]) (fun j u hj => by rw [List.drop_eq_nil_of_le (by omega)] at hj; cases hj) (flat_one _) (by unfold maxLen; omega) (by omega) HB7.out.size ?_; intro v8 w8 hown8 hgrow8 hat8; have HB8 := Lib.hid (HB7.out.grown hgrow8 HB7.out.size HR7.out); have HO8 := Lib.hid hown8; clear hown8 hgrow8 hat8))
        obtain ⟨g8, c8, e8, hB8, _⟩ := own_some HO8.out (by omega)
        rw [e8]
        go_ret
        refine ⟨g8, c8, ?_⟩
        have h8 := HO8.out
        rw [e8] at h8
        have hlen : (l.take k ++ [x] ++ l.drop k).length = 0 + k + 1 + (l.length - k) := by rw [List.length_append, List.length_append, List.length_take, List.length_drop, Nat.min_eq_left hkk, List.length_singleton]; omega
        rw [HE.out, hlen]
        refine ⟨rfl, ?_, HB8.out⟩
        rw [List.flatMap_append, List.flatMap_append]
        exact ownsRow_atP h8 (Nat.le_trans HGL.out.1 (Nat.le_trans (Nat.le_of_lt HGL.out.2) hB8))
      · have hkc2 : ¬ c = k := hc
        have hkc : k ≤ c := Nat.le_trans hkk (own_cap HO.out).1
        skip
        have HBD := Lib.hid (below_drewN HBZ.out nq)
        have HXL := Lib.hid (show w.heap.size < (wq.drewN nq).heap.size from Nat.lt_of_lt_of_le (show w.heap.size < w0.heap.size by have := HSZ.out; omega) HBQ.out.size)
        have X0 := Lib.hid (show (wq.drewN nq).cell? ⟨w.heap.size, 0, none⟩ = some (.int .i64 x.fPos) from x0)
        have X1 := Lib.hid (show (wq.drewN nq).cell? ⟨w.heap.size, 1, none⟩ = some (.string x.fName) from x1)
        clear x0 x1
        generalize wq.drewN nq = wz at HBD HXL X0 X1 ⊢
        have HB9 := Lib.hid (HBD.out.alloc HBD.out.size (.cells #[] 47))
        have HTC := Lib.hid (take_cells HO.out hkk)
        have HDC := Lib.hid (own_from valsocc_len HO.out hkk)
        go_wp2_with (first | (at_builtin; refine wpList_append_at rfl (.tmp 34) (.tmp 37) 26 rfl w.heap.size 47 i0 (.agg #[.int .i64 0, .string ⟨#[]⟩]) 2 24 Try.underlying26 hi' hz0 hz1 hz2 rfl (by decide) _ 0 [] rfl (World.ownsRow_made _ #[] 0 HBD.out.size (Nat.zero_le _) rfl) ⟨g, 0, none⟩ k c ((l.take k).flatMap valsocc) rfl (by rw [flat_len2, List.length_take, Nat.min_eq_left hkk]) (fun j u hj => (HB9.out.cell (p := (⟨g, 0, none⟩ : Addr).add j) (by rw [add_plain]; exact HGL.out.2)).trans (HTC.out j u hj)) (flat_one _) (by unfold maxLen; omega) (by omega) HB9.out.size ?_; intro v6 w6 hown6 hgrow6 hat6; have hb6 : Below wz.heap.size wz w6 := ((Below.refl _ wz).alloc (Nat.le_refl _) _).grown hgrow6 (by simp) (fun r hr => by injection hr with hr; exact Nat.le_of_eq hr); have p0 := (hb6.cell (p := ⟨w.heap.size, 0, none⟩) HXL.out).trans X0.out; have p1 := (hb6.cell (p := ⟨w.heap.size, 1, none⟩) HXL.out).trans X1.out; have HB6 := Lib.hid (HBD.out.trans (hb6.mono HBD.out.size)); have HO6 := Lib.hid hown6; have HR6 := Lib.hid (fun r (h : v6.ownBlock = some r) => (hown6.lt r h).1); clear hb6 hown6 hgrow6 hat6) | (at_builtin; refine wpList_append_at rfl (.tmp 39) (.tmp 41) 26 rfl w.heap.size 47 i0 (.agg #[.int .i64 0, .string ⟨#[]⟩]) 2 24 Try.underlying26 hi' hz0 hz1 hz2 rfl (by decide) v6 (0 + k) _ rfl (HO6.out.alloc _) ⟨w6.heap.size, 0, none⟩ 1 1 (valsocc x) rfl rfl (cells_at (blk_new rfl)) (by intro u hu; simp [valsocc] at hu; rcases hu with rfl | rfl <;> rfl) (by unfold maxLen; omega) (by omega) (Nat.le_trans HB6.out.size (by simp)) ?_; intro v7 w7 hown7 hgrow7 hat7; have HB7 := Lib.hid ((HB6.out.alloc HB6.out.size (.cells #[.int .i64 x.fPos, .string x.fName] 47)).grown hgrow7 (Nat.le_trans HB6.out.size (by simp)) HR6.out); have HO7 := Lib.hid hown7; have HR7 := Lib.hid (fun r (h : v7.ownBlock = some r) => (hown7.lt r h).1); clear hown7 hgrow7 hat7) | (at_builtin; refine wpList_append_at rfl (.tmp 43) (.tmp 46) 26 rfl w.heap.size 47 i0 (.agg #[.int .i64 0, .string ⟨#[]⟩]) 2 24 Try.underlying26 hi' hz0 hz1 hz2 rfl (by decide) v7 (0 + k + 1) _ rfl HO7.out ⟨g, k * 2, none⟩ (l.length - k) (c - k) ((l.drop k).flatMap valsocc) rfl (by rw [flat_len2, List.length_drop]) (fun j u hj => (HB7.out.cell (p := (⟨g, k * 2, none⟩ : Addr).add j) (by rw [add_plain]; exact HGL.out.2)).trans (HDC.out j u hj)) (flat_one _) (by unfold maxLen; omega) (by omega) HB7.out.size ?_; intro v8 w8 hown8 hgrow8 hat8; have HB8 := Lib.hid (HB7.out.grown hgrow8 HB7.out.size HR7.out); have HO8 := Lib.hid hown8; clear hown8 hgrow8 hat8))
        obtain ⟨g8, c8, e8, hB8, _⟩ := own_some HO8.out (by omega)
        rw [e8]
        go_ret
        refine ⟨g8, c8, ?_⟩
        have h8 := HO8.out
        rw [e8] at h8
        have hlen : (l.take k ++ [x] ++ l.drop k).length = 0 + k + 1 + (l.length - k) := by rw [List.length_append, List.length_append, List.length_take, List.length_drop, Nat.min_eq_left hkk, List.length_singleton]; omega
        rw [HE.out, hlen]
        refine ⟨rfl, ?_, HB8.out⟩
        rw [List.flatMap_append, List.flatMap_append]
        exact ownsRow_atP h8 (Nat.le_trans HGL.out.1 (Nat.le_trans (Nat.le_of_lt HGL.out.2) hB8))
end Go.Proofs.Ytoockfmkcjomhaa
