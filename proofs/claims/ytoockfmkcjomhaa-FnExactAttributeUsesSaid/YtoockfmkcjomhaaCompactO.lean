/-
  slices.Compact over a row of occurrences of the call's own.
-/
import Derived.Test.YtoockfmkcjomhaaCompT
import Derived.Test.YtoockfmkcjomhaaPut
import Derived.Lib.SliceRun
namespace Go.Proofs.Ytoockfmkcjomhaa
open Go.ChangeShapes Go.WideShapes Go.ChangeAt Go.RowKit Go.Deep

instance decOcc : DecidableEq DOccurrence := fun a b =>
  if h : a.fPos = b.fPos ∧ a.fName = b.fName then isTrue (by cases a; cases b; simp only at h; rw [h.1, h.2]) else isFalse (fun e => h (by rw [e]; exact ⟨rfl, rfl⟩))
theorem arr_at (l : List DOccurrence) (k : Nat) : l.toArray[k]! = l.getD k default := by
  rw [List.getD_eq_getElem?_getD, Array.getElem!_eq_getD, Array.getD_eq_getD_getElem?, List.getElem?_toArray]
theorem arr_at2 (d : Array DOccurrence) (k : Nat) : d.toList.getD k default = d[k]! := by
  rw [List.getD_eq_getElem?_getD, Array.getElem!_eq_getD, Array.getD_eq_getD_getElem?, Array.getElem?_toList]
theorem flat_set2 (x : DOccurrence) : ∀ (l : List DOccurrence) (k : Nat), (l.set k x).flatMap valsocc = ((l.flatMap valsocc).set (k * 2) (.int .i64 x.fPos)).set (k * 2 + 1) (.string x.fName)
  | [], _ => by simp
  | y :: l, 0 => by simp [valsocc]
  | y :: l, k + 1 => by
    have ih := flat_set2 x l k
    rw [List.set_cons_succ, List.flatMap_cons, List.flatMap_cons, ih]
    rw [show (k + 1) * 2 = k * 2 + 1 + 1 by omega]
    rfl
theorem row_set2 {w : World} {B g c k : Nat} {l : List DOccurrence} (x : DOccurrence) (h : w.ownsRow B 47 2 (.slice (some ⟨g, 0, none⟩) l.length c) l.length (l.flatMap valsocc)) :
    ((w.setCell ⟨g, k * 2, none⟩ (.int .i64 x.fPos)).setCell ⟨g, k * 2 + 1, none⟩ (.string x.fName)).ownsRow B 47 2 (.slice (some ⟨g, 0, none⟩) l.length c) l.length ((l.set k x).flatMap valsocc) := by
  rw [flat_set2]
  exact ((h.stored (k * 2) _).1.stored (k * 2 + 1) _).1
theorem zero2_cells (z0 z1 : Value) (n : Nat) : (Builtin.zeroCells #[z0, z1] n).size = n * 2 := by simp [Builtin.zeroCells]
theorem zero2_one (z0 z1 : Value) (h0 : z0.oneCell' = true) (h1 : z1.oneCell' = true) (n : Nat) : ∀ v ∈ (Builtin.zeroCells #[z0, z1] n).toList, v.oneCell' = true := by
  intro v hv
  simp only [Builtin.zeroCells, Array.toList_map, List.mem_map] at hv
  obtain ⟨i, _, rfl⟩ := hv
  have h2 : i % 2 = 0 ∨ i % 2 = 1 := by omega
  rcases h2 with h2 | h2
  · simp [h2, h0]
  · simp [h2, h1]
theorem run_clear2 {P : Program} (w : World) (t e : TypeId) (z : Value) (z0 z1 : Value) (ht : P.underlying t = some (.slice e)) (hv : ∀ w, (zeroValue e).run P w = .ok z w) (hz : z.cells = #[z0, z1]) (h0 : z0.oneCell' = true) (h1 : z1.oneCell' = true) (b o n c : Nat) (hn : 0 < n)
    (hc : ∀ j, j < n * 2 → (w.cell? ⟨b, o + j, none⟩).isSome = true) (hf : ∀ j, j < n * 2 → w.frozen? ⟨b, o + j, none⟩ = false) :
    ∃ us : List Value, ∀ ty, (Builtin.clear_ #[t] ty #[.slice (some ⟨b, o, none⟩) n c]).run P w = .ok (.tuple #[]) (w.setCells b o us) := by
  refine ⟨(Builtin.zeroCells #[z0, z1] n).toList, fun ty => ?_⟩
  have hst := run_storeCells_cells (P := P) b o (Builtin.zeroCells #[z0, z1] n).toList 0 w (by simpa [zero2_cells] using hc) (by simpa [zero2_cells] using hf) (zero2_one z0 z1 h0 h1 n)
  simp only [Nat.add_zero] at hst
  obtain ⟨m, rfl⟩ : ∃ m, n = m + 1 := ⟨n - 1, by omega⟩
  simp [Builtin.clear_, run_underlying ht, hv, hz, hst]
/-- Stores behind a place of a row: the row's head is as it was. -/
theorem own_clear {B g c kk : Nat} {e : TypeId} {l : List DOccurrence} : ∀ (us : List Value) (w : World) (o : Nat) (xs : List Value), kk * 2 ≤ o → w.ownsRow B e 2 (.slice (some ⟨g, 0, none⟩) l.length c) l.length xs → xs.take (kk * 2) = (l.take kk).flatMap valsocc →
    ∃ ys, (w.setCells g o us).ownsRow B e 2 (.slice (some ⟨g, 0, none⟩) l.length c) l.length ys ∧ ys.take (kk * 2) = (l.take kk).flatMap valsocc
  | [], w, o, xs, _, h, ht => ⟨xs, h, ht⟩
  | u :: us, w, o, xs, ho, h, ht => own_clear us _ (o + 1) (xs.set o u) (by omega) (h.stored o u).1 (by rw [List.take_set_of_le ho]; exact ht)
theorem own_cut {w : World} {B g c r n : Nat} {e : TypeId} {xs : List Value} {l : List DOccurrence} (h : w.ownsRow B e 2 (.slice (some ⟨g, 0, none⟩) n c) n xs) (hr : r ≤ n) (hl : l.length = r) (ht : xs.take (r * 2) = l.flatMap valsocc) :
    w.ownsRow B e 2 (.slice (some ⟨g, 0, none⟩) l.length c) l.length (l.flatMap valsocc) := by
  refine ⟨by rw [flat_len2], ?_⟩
  rcases h.2 with ⟨e0, _⟩ | ⟨g', cap, cur, e0, hB, hg, hle, hcm, hs, ht'⟩
  · cases e0
  · simp only [Value.slice.injEq, Option.some.injEq, Addr.mk.injEq, and_true, true_and] at e0
    obtain ⟨rfl, rfl⟩ := e0
    refine .inr ⟨g, c, cur, by rw [hl], hB, hg, by omega, hcm, hs, ?_⟩
    rw [← ht, ← ht', List.take_take, Nat.min_eq_left (by omega), hl]
theorem writes_setCells {w0 : World} {g : Nat} : ∀ (us : List Value) (w : World) (o : Nat), WritesF (fun y => y = g) w0 w → WritesF (fun y => y = g) w0 (w.setCells g o us)
  | [], w, o, h => h
  | u :: us, w, o, h => writes_setCells us _ (o + 1) ⟨h.os, h.tape, h.output, by rw [show (w.setCell ⟨g, o, none⟩ u).heap.size = w.heap.size by simp [World.setCell]]; exact h.size, fun k hk hn => (Below.heap_setCell _ _ _ _ hn).trans (h.block k hk hn)⟩

set_option maxHeartbeats 12800000 in
set_option maxRecDepth 100000 in
theorem Compact_occ {B : Nat} {a : Option Addr} {c : Nat} (l : List DOccurrence) (hl : l.length ≤ 1099511627776) (w : World) (hown : w.ownsRow B 47 2 (.slice a l.length c) l.length (l.flatMap valsocc)) :
    Calls Try.prog 19 #[.slice a l.length c] w fun e w' => e = .returned (.slice a (compactL ltO l).length c) ∧ w'.ownsRow B 47 2 (.slice a (compactL ltO l).length c) (compactL ltO l).length ((compactL ltO l).flatMap valsocc) ∧ (∀ b0, (∀ g, a = some ⟨g, 0, none⟩ → b0 ≤ g) → Below b0 w w') := by
  have HR := Lib.hid (compact_L strictO l)
  have same : ∀ w' : World, (∀ j, j < l.length → Go.Lib.keeps l.toArray j = true) → w'.ownsRow B 47 2 (.slice a l.length c) l.length (l.flatMap valsocc) → Ending.returned (.slice a l.length c) = .returned (.slice a (compactL ltO l).length c) ∧ w'.ownsRow B 47 2 (.slice a (compactL ltO l).length c) (compactL ltO l).length ((compactL ltO l).flatMap valsocc) := by
    intro w' hall h
    have e : compactL ltO l = l := by
      rw [← HR.out, Go.Lib.compactUpTo_all _ _ hall]
      have := Go.Lib.range_map_get l.toArray
      simpa using this
    rw [e]
    exact ⟨rfl, h⟩
  have HS := Lib.hid same
  have HO := Lib.hid hown
  clear same hown
  by_cases h2 : l.length < 2
  · have hlI : (l.length : Int) < 2 := by omega
    go_enter Try.func19, Try.ntmps19
    go_wp2
    go_ret
    obtain ⟨e1, e2⟩ := HS.out w (fun j hj => Go.Lib.keeps_lt_one _ j (by omega)) HO.out
    exact ⟨e1, e2, fun b0 _ => Below.refl _ _⟩
  · obtain ⟨rfl, h9, _⟩ | ⟨g, rfl, hc1, hc2, hBg, hgl⟩ := own_form2 HO.out
    · omega
    have hlI : ¬ ((l.length : Int) < 2) := by omega
    generalize hn : l.length = n at *
    have HN := Lib.hid hn
    clear hn
    go_enter Try.func19, Try.ntmps19
    go_wp2
    go_loopw [3] (fun s3 wr => ∃ k : Nat, 1 ≤ k ∧ k ≤ n ∧ s3 = .int .i64 (k : Int) ∧ wr.ownsRow B 47 2 (.slice (some ⟨g, 0, none⟩) n c) n (l.flatMap valsocc) ∧ WritesF (fun y => y = g) w wr ∧ ∀ j, j < k → Go.Lib.keeps l.toArray j = true) (fun s3 _ => n - (intOf s3).toNat)
    case atStart => exact ⟨1, Nat.le_refl _, by omega, rfl, HO.out, WritesF.refl _ _, Go.Lib.keeps_lt_one _⟩
    case round =>
      obtain ⟨k, hk1, hk, rfl, hor, hwr, hall⟩ := hrel
      have HALL := Lib.hid hall
      have HOR := Lib.hid hor
      have HWR := Lib.hid hwr
      clear hall hwr
      by_cases hlt : k < n
      · rw [← HN.out] at hor
        obtain ⟨c0, c1⟩ := occ_cells hor (k := k) (by rw [HN.out]; omega)
        obtain ⟨p0, p1⟩ := occ_cells hor (k := k - 1) (by rw [HN.out]; omega)
        clear hor
        have hkI : (0 : Int) ≤ (k : Int) ∧ (k : Int) < (n : Int) := by omega
        have hk2 : (0 : Int) ≤ (k : Int) - 1 ∧ (k : Int) - 1 < (n : Int) := by omega
        by_cases hdup : l.getD k default = l.getD (k - 1) default
        · have HDUP := Lib.hid (show Go.Lib.keeps l.toArray k = false from Go.Lib.keeps_neg (by omega) (by rw [arr_at, arr_at]; exact hdup))
          rw [hdup] at c0 c1
          clear hdup
          generalize l.getD (k - 1) default = y at *
          go_wp2_with fail
          go_quiet (fail)
          go_wp2
          go_loopw [3, 5] (fun s3 s5 wx => ∃ (kk k2 : Nat) (dk : Array DOccurrence), s3 = .int .i64 (kk : Int) ∧ s5 = .int .i64 (k2 : Int) ∧ 1 ≤ k2 ∧ k + k2 ≤ n ∧ wx.ownsRow B 47 2 (.slice (some ⟨g, 0, none⟩) n c) n (dk.toList.flatMap valsocc) ∧ WritesF (fun y => y = g) w wx ∧ Go.Lib.CompInv l.toArray (k + k2) kk dk) (fun _ s5 _ => n - k - (intOf s5).toNat)
          case atStart => exact ⟨k, 1, l.toArray, rfl, rfl, Nat.le_refl _, by omega, HOR.out, HWR.out.later (below_drewN (Below.refl _ _) _), Go.Lib.CompInv.start HALL.out HDUP.out⟩
          case round =>
            obtain ⟨kk, k2, dk, rfl, rfl, hk21, hle, ho, hw, hI⟩ := hrel
            have hkk := hI.lt
            have hln : dk.toList.length = n := by rw [Array.length_toList, hI.size, ← HN.out]; simp
            have HLN := Lib.hid hln
            have HI := Lib.hid hI
            have HOX := Lib.hid ho
            have HWX := Lib.hid hw
            clear hw c0 c1 p0 p1 hkI hk2
            by_cases hlt2 : k + k2 < n
            · rw [← hln] at ho
              obtain ⟨cm0, cm1⟩ := occ_cells ho (k := k + k2) (by omega)
              obtain ⟨cp0, cp1⟩ := occ_cells ho (k := k + k2 - 1) (by omega)
              obtain ⟨ck0, ck1⟩ := occ_cells ho (k := kk) (by omega)
              have fk0 := ho.frozenAt (kk * 2)
              have fk1 := ho.frozenAt (kk * 2 + 1)
              rw [arr_at2, hI.high (k + k2) (by omega), arr_at, show (k + k2) * 2 = k * 2 + k2 * 2 by omega] at cm0 cm1
              rw [arr_at2, hI.high (k + k2 - 1) (by omega), arr_at, show (k + k2 - 1) * 2 = k * 2 + (k2 - 1) * 2 by omega] at cp0 cp1
              clear ho hI hln
              have hkI : (0 : Int) ≤ (k2 : Int) ∧ (k2 : Int) < ((n - k : Nat) : Int) := by omega
              have hk2 : (0 : Int) ≤ (k2 : Int) - 1 ∧ (k2 : Int) - 1 < ((n - k : Nat) : Int) := by omega
              generalize dk.toList.getD kk default = old at ck0 ck1
              by_cases hd2 : l.getD (k + k2) default = l.getD (k + k2 - 1) default
              · have HD2 := Lib.hid (show Go.Lib.keeps l.toArray (k + k2) = false from Go.Lib.keeps_neg (by omega) (by rw [arr_at, arr_at]; exact hd2))
                rw [hd2] at cm0 cm1
                clear hd2
                generalize l.getD (k + k2 - 1) default = y2 at *
                go_wp2_with fail
                go_quiet (fail)
                go_wp2
                go_roundw
                case rel => exact ⟨kk, k2 + 1, dk, rfl, by go_num, by omega, by omega, HOX.out, HWX.out.later (below_drewN (Below.refl _ _) _), HI.out.skip HD2.out⟩
                case measure => simp [intOf]; omega
              · have HD2 := Lib.hid (show Go.Lib.keeps l.toArray (k + k2) = true from Go.Lib.keeps_pos (by rw [arr_at, arr_at]; exact hd2))
                have HKP := Lib.hid (show Go.Lib.CompInv l.toArray (k + k2 + 1) (kk + 1) (dk.setIfInBounds kk (l.getD (k + k2) default)) from by have h := HI.out.keep (by rw [← HN.out] at hlt2; simpa using hlt2) HD2.out; rwa [arr_at] at h)
                have hne : ¬ ((l.getD (k + k2) default).fPos = (l.getD (k + k2 - 1) default).fPos ∧ (l.getD (k + k2) default).fName = (l.getD (k + k2 - 1) default).fName) := fun h => hd2 (by
                  generalize l.getD (k + k2) default = a at *
                  generalize l.getD (k + k2 - 1) default = b at *
                  cases a; cases b; dsimp only at h; rw [h.1, h.2])
                clear hd2
                generalize l.getD (k + k2) default = z2 at *
                generalize l.getD (k + k2 - 1) default = y2 at *
                have HRS := Lib.hid (fun (W : World) (h : W.ownsRow B 47 2 (.slice (some ⟨g, 0, none⟩) n c) n (dk.toList.flatMap valsocc)) => (show ((W.setCell ⟨g, kk * 2, none⟩ (.int .i64 z2.fPos)).setCell ⟨g, kk * 2 + 1, none⟩ (.string z2.fName)).ownsRow B 47 2 (.slice (some ⟨g, 0, none⟩) n c) n ((dk.setIfInBounds kk z2).toList.flatMap valsocc) from by
                  rw [← HLN.out] at h
                  have h2 := row_set2 (k := kk) z2 h
                  rw [HLN.out] at h2
                  rw [Array.toList_setIfInBounds]
                  exact h2))
                by_cases h1 : z2.fPos = y2.fPos
                · have e2 : (z2.fName.toList == y2.fName.toList) = false := beq_eq_false_iff_ne.2 (fun e => hne ⟨h1, toList_injP e⟩)
                  rw [← h1] at cp0
                  clear hne h1
                  go_wp2_with fail
                  go_quiet (fail)
                  go_wp2
                  go_roundw
                  case rel => exact ⟨kk + 1, k2 + 1, dk.setIfInBounds kk z2, by go_num, by go_num, by omega, by omega, HRS.out _ HOX.out, (WritesF.setCell (p := ⟨g, kk * 2 + 1, none⟩) (WritesF.setCell (p := ⟨g, kk * 2, none⟩) (HWX.out.later (below_drewN (Below.refl _ _) _)) rfl) rfl), HKP.out⟩
                  case measure => simp [intOf]; omega
                · have e2 : (z2.fPos == y2.fPos) = false := beq_eq_false_iff_ne.2 h1
                  clear hne h1
                  go_wp2_with fail
                  go_quiet (fail)
                  go_wp2
                  go_roundw
                  case rel => exact ⟨kk + 1, k2 + 1, dk.setIfInBounds kk z2, by go_num, by go_num, by omega, by omega, HRS.out _ HOX.out, (WritesF.setCell (p := ⟨g, kk * 2 + 1, none⟩) (WritesF.setCell (p := ⟨g, kk * 2, none⟩) (HWX.out.later (below_drewN (Below.refl _ _) _)) rfl) rfl), HKP.out⟩
                  case measure => simp [intOf]; omega
            · have hend : k + k2 = n := by omega
              rw [← hln] at ho
              obtain ⟨us, hcl⟩ := run_clear2 (P := Try.prog) wr 26 47 (.agg #[.int .i64 0, .string ⟨#[]⟩]) (.int .i64 0) (.string ⟨#[]⟩) Try.underlying26 (fun W => by kernel_rfl) rfl rfl rfl g (kk * 2) (n - kk) (c - kk) (by omega) (fun j hj => by rw [ho.cellAt _ (by omega), List.getElem?_eq_getElem (by rw [flat_len2]; omega)]; rfl) (fun j hj => ho.frozenAt _)
              have hI2 := hI
              rw [hend, ← HN.out] at hI2
              have hkl : (compactL ltO l).length = kk := by rw [← HR.out, ← HN.out]; exact hI2.len
              have htk : dk.toList.take kk = compactL ltO l := by
                rw [← HR.out, ← HN.out]
                apply List.ext_getElem?
                intro j
                by_cases hj : j < kk
                · rw [List.getElem?_take_of_lt hj, hI2.low j hj, Array.getElem?_toList, getElem!_pos dk j (by rw [Array.length_toList] at hln; omega), Array.getElem?_eq_getElem]
                · rw [List.getElem?_eq_none (by rw [List.length_take]; omega), List.getElem?_eq_none (by rw [hI2.len]; omega)]
              obtain ⟨ys, hy1, hy2⟩ := own_clear (kk := kk) us wr (kk * 2) _ (Nat.le_refl _) ho (by have := (flat_cut (enc := valsocc) (n := 2) valsocc_len dk.toList (r := kk) (by omega)).1; exact this)
              rw [htk] at hy2
              have HFIN := Lib.hid (own_cut hy1 (r := kk) (by omega) hkl hy2)
              have HWF := Lib.hid (writes_setCells us wr (kk * 2) HWX.out)
              have HKL := Lib.hid hkl
              have hkn : kk < n := by omega
              have hkc : kk < c := by omega
              clear hy1 hy2 htk hkl hI2 hI ho hln
              go_wp2
              go_ret
              exact ⟨by rw [HKL.out]; rfl, HFIN.out, fun b0 hb0 => HWF.out.below (fun y hy => by subst hy; exact hb0 _ rfl) (by have := hb0 g rfl; omega)⟩
        · have HDUP := Lib.hid (show Go.Lib.keeps l.toArray k = true from Go.Lib.keeps_pos (by rw [arr_at, arr_at]; exact hdup))
          have hne : ¬ ((l.getD k default).fPos = (l.getD (k - 1) default).fPos ∧ (l.getD k default).fName = (l.getD (k - 1) default).fName) := fun h => hdup (by
            generalize l.getD k default = a at *
            generalize l.getD (k - 1) default = b at *
            cases a; cases b; dsimp only at h; rw [h.1, h.2])
          clear hdup
          generalize l.getD k default = z at *
          generalize l.getD (k - 1) default = y at *
          by_cases h1 : z.fPos = y.fPos
          · have e2 : (z.fName.toList == y.fName.toList) = false := beq_eq_false_iff_ne.2 (fun e => hne ⟨h1, toList_injP e⟩)
            rw [h1] at c0
            clear hne h1
            go_wp2_with fail
            go_quiet (fail)
            go_wp2
            go_roundw
            case rel => exact ⟨k + 1, by omega, by omega, by go_num, HOR.out, HWR.out.later (below_drewN (Below.refl _ _) _), fun j hj => (Nat.lt_or_ge j k).elim (fun h => HALL.out j h) (fun h => (show k = j by omega) ▸ HDUP.out)⟩
            case measure => simp [intOf]; omega
          · have e2 : (z.fPos == y.fPos) = false := beq_eq_false_iff_ne.2 h1
            clear hne h1
            go_wp2_with fail
            go_quiet (fail)
            go_wp2
            go_roundw
            case rel => exact ⟨k + 1, by omega, by omega, by go_num, HOR.out, HWR.out.later (below_drewN (Below.refl _ _) _), fun j hj => (Nat.lt_or_ge j k).elim (fun h => HALL.out j h) (fun h => (show k = j by omega) ▸ HDUP.out)⟩
            case measure => simp [intOf]; omega
      · obtain rfl : k = n := by omega
        clear hor
        go_wp2
        go_ret
        obtain ⟨e1, e2⟩ := HS.out wr (fun j hj => HALL.out j hj) HOR.out
        exact ⟨e1, e2, fun b0 hb0 => HWR.out.below (fun y hy => by subst hy; exact hb0 _ rfl) (by have := hb0 g rfl; omega)⟩
end Go.Proofs.Ytoockfmkcjomhaa
