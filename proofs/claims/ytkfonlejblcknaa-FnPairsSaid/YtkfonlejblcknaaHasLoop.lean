/-
  HasLoop in the model and in the program.
-/
import Derived.Test.YtkfonlejblcknaaClose
namespace Go.Proofs.Ytkfonlejblcknaa
open Go.ChangeShapes Go.WideShapes Go.ChangeAt Go.RowKit Go.Deep

theorem inF_in {g : Nat → Int} {n k : Nat} (hn : n ≤ 16) (hk : k < n) (h : ∀ j, j < n → 0 ≤ g j ∧ g j < 2 ^ n) : ∀ i, i ≤ n → ∀ j, j < n → 0 ≤ inF g k i j ∧ inF g k i j < 2 ^ n
  | 0, _ => h
  | i + 1, hi => stF_in hn hk (by omega) (inF_in hn hk h i (by omega))
theorem outF_in {g : Nat → Int} {n : Nat} (hn : n ≤ 16) (h : ∀ j, j < n → 0 ≤ g j ∧ g j < 2 ^ n) : ∀ k, k ≤ n → ∀ j, j < n → 0 ≤ outF g n k j ∧ outF g n k j < 2 ^ n
  | 0, _ => h
  | k + 1, hk => inF_in hn (by omega) (outF_in hn h k (by omega)) n (Nat.le_refl _)
theorem closeRel_row {r : DRelation} (h : relB r = true) {j : Nat} (hj : j < r.fRows.length) : (closeRel r).fRows.getD j default = outF (fun j => r.fRows.getD j default) r.fRows.length r.fRows.length j := by
  rw [closeRel_yes h]
  show ((List.range r.fRows.length).map _).getD j default = _
  rw [List.getD_eq_getElem?_getD, List.getElem?_map, List.getElem?_range hj]
  rfl
theorem closeRel_rows {r : DRelation} (h : relB r = true) {j : Nat} (hj : j < r.fRows.length) : 0 ≤ (closeRel r).fRows.getD j default ∧ (closeRel r).fRows.getD j default < 2 ^ r.fRows.length ∧ r.fRows.length ≤ 16 := by
  obtain ⟨n, hn, hN, hl, hr⟩ := relB_parts h
  subst hl
  rw [closeRel_row h hj]
  have := outF_in hn hr r.fRows.length (Nat.le_refl _) j hj
  exact ⟨this.1, this.2, hn⟩
theorem closeRel_valid {r : DRelation} (h : relB r = true) : relB (closeRel r) = true := by
  obtain ⟨n, hn, hN, hl, hr⟩ := relB_parts h
  rw [relB_yes hn (by rw [closeRel_N, hN]) (by rw [closeRel_len, hl])]
  refine rows_all fun i hi => ?_
  rw [closeRel_len] at hi
  have h1 := closeRel_rows h hi
  unfold rowB
  rw [hl] at h1
  simp only [Bool.and_eq_true, decide_eq_true_eq]
  exact ⟨h1.1, h1.2.1⟩
/-- The closed row i contains i. -/
def loopAt (r : DRelation) (i : Nat) : Bool := bitB ((closeRel r).fRows.getD i default) i
def hasLoop (r : DRelation) : Bool := relB r && (List.range r.fRows.length).any (loopAt r)
theorem hasLoop_no {r : DRelation} (h : relB r = false) : hasLoop r = false := by unfold hasLoop; rw [h]; rfl
theorem hasLoop_at {r : DRelation} (h : relB r = true) {i : Nat} (hi : i < r.fRows.length) (hb : loopAt r i = true) : hasLoop r = true := by
  unfold hasLoop
  rw [h, Bool.true_and, List.any_eq_true]
  exact ⟨i, List.mem_range.2 hi, hb⟩
theorem hasLoop_none {r : DRelation} (h : ∀ i, i < r.fRows.length → loopAt r i = false) : hasLoop r = false := by
  unfold hasLoop
  rw [show (List.range r.fRows.length).any (loopAt r) = false from by
    rw [List.any_eq_false]
    intro x hx
    rw [h x (List.mem_range.1 hx)]
    decide, Bool.and_false]
theorem pair_loop {r : DRelation} (h : relB r = true) {i : Nat} (hi : i < r.fRows.length) : hasPair (closeRel r) i i = loopAt r i := by
  obtain ⟨n, hn, hN, hl, _⟩ := relB_parts h
  rw [hasPair_yes (closeRel_valid h) (inR_yes (by omega) (by rw [closeRel_N]; omega)) (inR_yes (by omega) (by rw [closeRel_N]; omega))]
  rfl
theorem ok_nat {i : Nat} (h : i ≤ 1048576) : okI (i : Int) := ⟨by omega, by omega⟩
theorem closeRel_ok {r : DRelation} (h : relB r = true) : (closeRel r).ok := by
  obtain ⟨n, hn, hN, hl, _⟩ := relB_parts h
  refine ⟨by rw [closeRel_N, hN]; exact ok_nat (by omega), by rw [closeRel_len]; omega, fun x hx => ?_⟩
  obtain ⟨i, hi, rfl⟩ := List.getElem_of_mem hx
  rw [closeRel_len] at hi
  have h1 := closeRel_rows h hi
  have h2 := pow_in (n := r.fRows.length) (by omega)
  rw [List.getD_eq_getElem?_getD, List.getElem?_eq_getElem (by rw [closeRel_len]; exact hi)] at h1
  exact ⟨by have := h1.1; simp only [Option.getD_some] at this; omega, by have := h1.2.1; simp only [Option.getD_some] at this; omega⟩

set_option maxHeartbeats 1600000 in
set_option maxRecDepth 100000 in
theorem impl_HasLoop {lo hi c0_0 : Nat} {a0 : Option Addr} (r : DRelation) (okr : r.ok) (hsz : r.sz ≤ 1048576) (w : World) (hhi : hi ≤ w.heap.size) (hs : Sl lo hi w 1 r.fRows.length (rowsI r.fRows) a0) :
    Calls Try.prog 17 #[.agg #[.int .i64 r.fN, .slice a0 r.fRows.length c0_0]] w fun e w' => e = .returned (.bool (hasLoop r)) ∧ Below w.heap.size w w' := by
  have HL := Lib.hid (rel_len hsz)
  have HZZ := Lib.hid hsz
  have HOKR := Lib.hid okr
  have HB0 := Lib.hid ((Below.refl w.heap.size w).alloc (Nat.le_refl _) (.cells #[.int .i64 r.fN, .slice a0 r.fRows.length c0_0] 27))
  have HS := Lib.hid (hs.later HB0.out hhi)
  have HH := Lib.hid (Nat.le_trans hhi HB0.out.size)
  have HSZ0 := Lib.hid (show w.heap.size < (w.alloc (.cells #[.int .i64 r.fN, .slice a0 r.fRows.length c0_0] 27)).heap.size by simp)
  have HC0 := Lib.hid (show (w.alloc (.cells #[.int .i64 r.fN, .slice a0 r.fRows.length c0_0] 27)).cell? ⟨w.heap.size, 0, none⟩ = some (.int .i64 r.fN) by rw [World.cell?_alloc_new]; rfl)
  have HC1 := Lib.hid (show (w.alloc (.cells #[.int .i64 r.fN, .slice a0 r.fRows.length c0_0] 27)).cell? ⟨w.heap.size, 1, none⟩ = some (.slice a0 r.fRows.length c0_0) by rw [World.cell?_alloc_new]; rfl)
  clear hs hhi hsz okr
  cases hv : relB r with
  | false =>
    have fin := Lib.hid (hasLoop_no hv)
    have HV := Lib.hid (impl_relValid (c0 := c0_0) r HL.out false hv _ HH.out HS.out)
    clear hv
    go_enter Try.func17, Try.ntmps17
    go_wp2_with fail
    refine HV.out.mono ?_
    rintro e w1 ⟨rfl, hb1⟩
    have HB1 := Lib.hid (HB0.out.trans (hb1.mono HB0.out.size))
    clear hb1
    go_wp2
    go_ret
    exact ⟨ret_b fin.out.symm, HB1.out⟩
  | true =>
    have HVT := Lib.hid hv
    have HV := Lib.hid (impl_relValid (c0 := c0_0) r HL.out true hv _ HH.out HS.out)
    obtain ⟨n, hn16, hrN, hrl, _⟩ := relB_parts hv
    have HRN := Lib.hid hrN
    have HRL := Lib.hid hrl
    have hN1 : 0 ≤ r.fN ∧ r.fN ≤ 16 := by have h := HRN.out; omega
    clear hv hrN hrl
    go_enter Try.func17, Try.ntmps17
    go_wp2_with fail
    refine HV.out.mono ?_
    rintro e w1 ⟨rfl, hb1⟩
    have bx1_0 : w1.cell? ⟨w.heap.size, 0, none⟩ = some (.int .i64 r.fN) := (hb1.cell (p := ⟨w.heap.size, 0, none⟩) HSZ0.out).trans HC0.out
    have bx1_1 : w1.cell? ⟨w.heap.size, 1, none⟩ = some (.slice a0 r.fRows.length c0_0) := (hb1.cell (p := ⟨w.heap.size, 1, none⟩) HSZ0.out).trans HC1.out
    have sz1 : w.heap.size < w1.heap.size := Nat.lt_of_lt_of_le HSZ0.out hb1.size
    have HS1 := Lib.hid (HS.out.later hb1 HH.out)
    have HH1 := Lib.hid (Nat.le_trans HH.out hb1.size)
    have HB1 := Lib.hid (HB0.out.trans (hb1.mono HB0.out.size))
    clear hb1
    go_wp2_with fail
    refine (impl_CloseRelation (c0_0 := c0_0) r HOKR.out HZZ.out w1 HH1.out HS1.out).mono ?_
    rintro e w2 ⟨a2, c2, rfl, ho2, hb2⟩
    have bx2_0 := (hb2.cell (p := ⟨w.heap.size, 0, none⟩) sz1).trans bx1_0
    have sz2 : w.heap.size < w2.heap.size := Nat.lt_of_lt_of_le sz1 hb2.size
    have HSC := Lib.hid (Sl.of (ho2.lies (lo := 0) (hi := w2.heap.size) (fun y hy => ⟨Nat.zero_le _, hy.2⟩)))
    have HB2 := Lib.hid (HB1.out.trans (hb2.mono HB1.out.size))
    have HCN := Lib.hid (closeRel_N r)
    have HCL := Lib.hid (closeRel_len r)
    clear hb2 ho2 bx1_0 bx1_1
    have hfld : ∀ w', (Instr.field 27 (.agg #[.int .i64 (closeRel r).fN, .slice a2 (closeRel r).fRows.length c2]) 1).run Try.prog w' = .ok (.slice a2 (closeRel r).fRows.length c2) w' := fun _ => by kernel_rfl
    go_wp2
    go_loop [12] (fun i => ∃ k : Nat, k ≤ n ∧ i = .int .i64 (k : Int) ∧ (∀ j, j < k → loopAt r j = false)) (fun i => n - (intOf i).toNat)
    case atStart => exact ⟨0, Nat.zero_le _, rfl, fun j hj => absurd hj (Nat.not_lt_zero _)⟩
    case round =>
      obtain ⟨k, hk, rfl, hno⟩ := hrel
      have HNO := Lib.hid hno
      clear hno
      have hlen : ((closeRel r).fRows.length : Int) = n := by have h := HRL.out; have h2 := HCL.out; omega
      have HLEN := Lib.hid hlen
      clear hlen
      by_cases hlt : k < n
      · have hkl : k < r.fRows.length := by have h := HRL.out; omega
        have hkc : k < (closeRel r).fRows.length := by have h := HCL.out; omega
        obtain ⟨b, off, rfl, _, _, hc⟩ := HSC.out.at k hkc
        rw [Nat.mul_one] at hc
        have hc0 := open_Int hc
        have hrow := closeRel_rows HVT.out hkl
        have hpw := pow_in hrow.2.2
        have hrow2 : 0 ≤ (closeRel r).fRows.getD k default ∧ (closeRel r).fRows.getD k default ≤ 65535 := by omega
        clear hc hrow hpw
        cases hlp : loopAt r k with
        | true =>
          have fin := Lib.hid (hasLoop_at HVT.out hkl hlp)
          unfold loopAt bitB at hlp
          generalize (closeRel r).fRows.getD k default = row at *
          generalize (closeRel r).fRows.length = cl at *
          go_wp2
          go_ret
          exact ⟨ret_b fin.out.symm, HB2.out⟩
        | false =>
          have HNO2 := Lib.hid (show ∀ j, j < k + 1 → loopAt r j = false from fun j hj => by
            by_cases hjk : j = k
            · rw [hjk]; exact hlp
            · exact HNO.out j (by omega))
          unfold loopAt bitB at hlp
          generalize (closeRel r).fRows.getD k default = row at *
          go_wp2
          go_round
          case rel => exact ⟨k + 1, by omega, by go_num, HNO2.out⟩
          case measure => simp [intOf]; omega
      · obtain rfl : k = n := by omega
        have hge : ¬ (k : Int) < (closeRel r).fRows.length := by have h := HLEN.out; omega
        have fin := Lib.hid (hasLoop_none (r := r) (by rw [HRL.out]; exact HNO.out))
        go_wp2
        go_ret
        exact ⟨ret_b fin.out.symm, HB2.out⟩
end Go.Proofs.Ytkfonlejblcknaa
