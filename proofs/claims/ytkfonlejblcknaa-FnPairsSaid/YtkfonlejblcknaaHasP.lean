/-
  HasPair, in the model and in the program.
-/
import Derived.Test.YtkfonlejblcknaaRelV
namespace Go.Proofs.Ytkfonlejblcknaa
open Go.ChangeShapes Go.WideShapes Go.ChangeAt Go.RowKit Go.Deep

/-- Bit k of a row. -/
def bitB (row : Int) (k : Nat) : Bool := bits BinOp.and IntKind.i64 (row / 2 ^ k) 1 == 1
def hasPair (r : DRelation) (i k : Int) : Bool := relB r && inR i 0 (r.fN - 1) && inR k 0 (r.fN - 1) && bitB (r.fRows.getD i.toNat default) k.toNat
theorem hasPair_no1 {r : DRelation} {i k : Int} (h : relB r = false) : hasPair r i k = false := by unfold hasPair; rw [h]; rfl
theorem hasPair_no2 {r : DRelation} {i k : Int} (h : inR i 0 (r.fN - 1) = false) : hasPair r i k = false := by unfold hasPair; rw [h, Bool.and_false]; rfl
theorem hasPair_no3 {r : DRelation} {i k : Int} (h : inR k 0 (r.fN - 1) = false) : hasPair r i k = false := by unfold hasPair; rw [h, Bool.and_false]; rfl
theorem hasPair_yes {r : DRelation} {i k : Nat} (h : relB r = true) (h1 : inR i 0 (r.fN - 1) = true) (h2 : inR k 0 (r.fN - 1) = true) : hasPair r i k = bitB (r.fRows.getD i default) k := by
  unfold hasPair; rw [h, h1, h2, Int.toNat_natCast, Int.toNat_natCast]; rfl
theorem relB_parts {r : DRelation} (h : relB r = true) : ∃ n : Nat, n ≤ 16 ∧ r.fN = n ∧ r.fRows.length = n ∧ ∀ j, j < n → 0 ≤ r.fRows.getD j default ∧ r.fRows.getD j default < 2 ^ n := by
  unfold relB inR at h
  simp only [Bool.and_eq_true, decide_eq_true_eq] at h
  obtain ⟨⟨⟨h1, h2⟩, h3⟩, h4⟩ := h
  refine ⟨r.fN.toNat, by omega, by omega, by omega, fun j hj => ?_⟩
  unfold rowsB at h4
  rw [List.all_eq_true] at h4
  have := h4 (r.fRows[j]'(by omega)) (List.getElem_mem _)
  unfold rowB at this
  simp only [Bool.and_eq_true, decide_eq_true_eq] at this
  rw [List.getD_eq_getElem?_getD, List.getElem?_eq_getElem (by omega)]
  exact this
theorem inR_nat {n i : Int} (h : inR i 0 n = true) : ∃ j : Nat, i = j ∧ (j : Int) ≤ n := by
  unfold inR at h
  simp only [Bool.and_eq_true, decide_eq_true_eq] at h
  exact ⟨i.toNat, by omega, by omega⟩

set_option maxHeartbeats 1600000 in
set_option maxRecDepth 100000 in
theorem impl_isNumber {a0 : Option Addr} {c0_0 : Nat} (r : DRelation) (i : Int) (v : Bool) (hv : inR i 0 (r.fN - 1) = v) (w : World) :
    Calls Try.prog 43 #[.agg #[.int .i64 r.fN, .slice a0 r.fRows.length c0_0], .int .i64 i] w fun e w' => e = .returned (.bool v) ∧ Below w.heap.size w w' := by
  have HB := Lib.hid ((Below.refl w.heap.size w).alloc (Nat.le_refl _) (.cells #[.int .i64 r.fN, .slice a0 r.fRows.length c0_0] 27))
  by_cases h0 : 0 ≤ i
  · have FIN := Lib.hid (show decide (i < r.fN) = v by rw [← hv]; unfold inR; simp [h0]; omega)
    clear hv
    go_enter Try.func43, Try.ntmps43
    go_wp2
    go_ret
    exact ⟨ret_b (by rw [← FIN.out]), HB.out⟩
  · have FIN := Lib.hid (show false = v by rw [← hv]; exact (inR_no (by omega)).symm)
    have h0' : i < 0 := by omega
    clear hv h0
    go_enter Try.func43, Try.ntmps43
    go_wp2
    go_ret
    exact ⟨ret_b FIN.out, HB.out⟩

theorem spec_l1In_b (n a b : Int) (v : Bool) (hv : inR n a b = v) (w : World) :
    Calls Try.prog 42 #[.int .i64 n, .int .i64 a, .int .i64 b] w fun e w' => e = .returned (.bool v) ∧ Below w.heap.size w w' := (spec_l1In n a b w).mono fun _ _ ⟨h1, h2⟩ => ⟨by rw [h1, hv], by subst h2; exact Below.refl _ _⟩

set_option maxHeartbeats 1600000 in
set_option maxRecDepth 100000 in
theorem spec_HasPair {lo hi c0_0 : Nat} {a0 : Option Addr} (r : DRelation) (_ : r.ok) (hsz : r.sz ≤ 1048576) (i : Int) (_ : okI i) (k : Int) (_ : okI k) (w : World) (hhi : hi ≤ w.heap.size) (hs : Sl lo hi w 1 r.fRows.length (fun k => ictI (r.fRows.getD k default)) a0) :
    Calls Try.prog 19 #[.agg #[.int .i64 r.fN, .slice a0 r.fRows.length c0_0], .int .i64 i, .int .i64 k] w fun e w' => e = .returned (.bool (hasPair r i k)) ∧ Below w.heap.size w w' := by
  have HL := Lib.hid (rel_len hsz)
  have HB := Lib.hid ((Below.refl w.heap.size w).alloc (Nat.le_refl _) (.cells #[.int .i64 r.fN, .slice a0 r.fRows.length c0_0] 27))
  have HS := Lib.hid (hs.later HB.out hhi)
  have HH := Lib.hid (Nat.le_trans hhi HB.out.size)
  have hsz0 := Lib.hid (show w.heap.size < (w.alloc (.cells #[.int .i64 r.fN, .slice a0 r.fRows.length c0_0] 27)).heap.size by simp)
  have hx0 := Lib.hid (show (w.alloc (.cells #[.int .i64 r.fN, .slice a0 r.fRows.length c0_0] 27)).cell? ⟨w.heap.size, 0, none⟩ = some (.int .i64 r.fN) by rw [World.cell?_alloc_new]; rfl)
  have hx1 := Lib.hid (show (w.alloc (.cells #[.int .i64 r.fN, .slice a0 r.fRows.length c0_0] 27)).cell? ⟨w.heap.size, 1, none⟩ = some (.slice a0 r.fRows.length c0_0) by rw [World.cell?_alloc_new]; rfl)
  clear hs hhi hsz
  cases hv : relB r with
  | false =>
    have fin := Lib.hid (hasPair_no1 (i := i) (k := k) hv)
    have HV := Lib.hid (spec_relValid (c0 := c0_0) r HL.out false hv _ HH.out HS.out)
    clear hv
    go_enter Try.func19, Try.ntmps19
    go_wp2_with fail
    refine HV.out.mono ?_
    rintro e w1 ⟨rfl, hb1⟩
    have HB1 := Lib.hid (HB.out.trans (hb1.mono HB.out.size))
    clear hb1
    go_wp2
    go_ret
    exact ⟨ret_b fin.out.symm, HB1.out⟩
  | true =>
    have HV := Lib.hid (spec_relValid (c0 := c0_0) r HL.out true hv _ HH.out HS.out)
    have HP := Lib.hid (relB_parts hv)
    have HVT := Lib.hid hv
    clear hv
    have hN1 : 0 ≤ r.fN ∧ r.fN ≤ 16 := by
      obtain ⟨n, h1, h2, _⟩ := HP.out
      rw [h2]; omega
    cases hi1 : inR i 0 (r.fN - 1) with
    | false =>
      have fin := Lib.hid (hasPair_no2 (k := k) hi1)
      have HI := Lib.hid (fun w => spec_l1In_b i 0 (r.fN - 1) false hi1 w)
      clear hi1
      go_enter Try.func19, Try.ntmps19
      go_wp2_with fail
      refine HV.out.mono ?_
      rintro e w1 ⟨rfl, hb1⟩
      have HS1 := Lib.hid (HS.out.later hb1 HH.out)
      have HH1 := Lib.hid (Nat.le_trans HH.out hb1.size)
      have x1_0 := (hb1.cell (p := ⟨w.heap.size, 0, none⟩) hsz0.out).trans hx0.out
      have x1_1 := (hb1.cell (p := ⟨w.heap.size, 1, none⟩) hsz0.out).trans hx1.out
      have hsz1 := Lib.hid (Nat.lt_of_lt_of_le hsz0.out hb1.size)
      have HB1 := Lib.hid (HB.out.trans (hb1.mono HB.out.size))
      clear hb1
      go_wp2_with fail
      refine (HI.out _).mono ?_
      rintro e w2 ⟨rfl, hb2⟩
      have HB2 := Lib.hid (HB1.out.trans (hb2.mono HB1.out.size))
      clear hb2
      go_wp2
      go_ret
      exact ⟨ret_b fin.out.symm, HB2.out⟩
    | true =>
      have HI := Lib.hid (fun w => spec_l1In_b i 0 (r.fN - 1) true hi1 w)
      cases hk1 : inR k 0 (r.fN - 1) with
      | false =>
        have fin := Lib.hid (hasPair_no3 (i := i) hk1)
        have HK := Lib.hid (fun w => spec_l1In_b k 0 (r.fN - 1) false hk1 w)
        clear hi1 hk1
        go_enter Try.func19, Try.ntmps19
        go_wp2_with fail
        refine HV.out.mono ?_
        rintro e w1 ⟨rfl, hb1⟩
        have HS1 := Lib.hid (HS.out.later hb1 HH.out)
        have HH1 := Lib.hid (Nat.le_trans HH.out hb1.size)
        have x1_0 := (hb1.cell (p := ⟨w.heap.size, 0, none⟩) hsz0.out).trans hx0.out
        have x1_1 := (hb1.cell (p := ⟨w.heap.size, 1, none⟩) hsz0.out).trans hx1.out
        have hsz1 := Lib.hid (Nat.lt_of_lt_of_le hsz0.out hb1.size)
        have HB1 := Lib.hid (HB.out.trans (hb1.mono HB.out.size))
        clear hb1
        go_wp2_with fail
        refine (HI.out _).mono ?_
        rintro e w2 ⟨rfl, hb2⟩
        have HS2 := Lib.hid (HS1.out.later hb2 HH1.out)
        have HH2 := Lib.hid (Nat.le_trans HH1.out hb2.size)
        have x2_0 := (hb2.cell (p := ⟨w.heap.size, 0, none⟩) hsz1.out).trans x1_0
        have x2_1 := (hb2.cell (p := ⟨w.heap.size, 1, none⟩) hsz1.out).trans x1_1
        have hsz2 := Lib.hid (Nat.lt_of_lt_of_le hsz1.out hb2.size)
        have HB2 := Lib.hid (HB1.out.trans (hb2.mono HB1.out.size))
        clear hb2 x1_0 x1_1
        go_wp2_with fail
        refine (HK.out _).mono ?_
        rintro e w3 ⟨rfl, hb3⟩
        have HB3 := Lib.hid (HB2.out.trans (hb3.mono HB2.out.size))
        clear hb3
        go_wp2
        go_ret
        exact ⟨ret_b fin.out.symm, HB3.out⟩
      | true =>
        have HK := Lib.hid (fun w => spec_l1In_b k 0 (r.fN - 1) true hk1 w)
        obtain ⟨i, rfl, hi2⟩ := inR_nat hi1
        obtain ⟨k, rfl, hk2⟩ := inR_nat hk1
        have fin := Lib.hid (hasPair_yes HVT.out hi1 hk1)
        clear hi1 hk1
        have hil : i < r.fRows.length := by
          obtain ⟨n, h1, h2, h3, _⟩ := HP.out
          omega
        have hrow : 0 ≤ r.fRows.getD i default ∧ r.fRows.getD i default ≤ 65535 := by
          obtain ⟨n, h1, h2, h3, h4⟩ := HP.out
          have h5 := h4 i (by omega)
          have h6 := pow_in h1
          omega
        go_enter Try.func19, Try.ntmps19
        go_wp2_with fail
        refine HV.out.mono ?_
        rintro e w1 ⟨rfl, hb1⟩
        have HS1 := Lib.hid (HS.out.later hb1 HH.out)
        have HH1 := Lib.hid (Nat.le_trans HH.out hb1.size)
        have x1_0 := (hb1.cell (p := ⟨w.heap.size, 0, none⟩) hsz0.out).trans hx0.out
        have x1_1 := (hb1.cell (p := ⟨w.heap.size, 1, none⟩) hsz0.out).trans hx1.out
        have hsz1 := Lib.hid (Nat.lt_of_lt_of_le hsz0.out hb1.size)
        have HB1 := Lib.hid (HB.out.trans (hb1.mono HB.out.size))
        clear hb1
        go_wp2_with fail
        refine (HI.out _).mono ?_
        rintro e w2 ⟨rfl, hb2⟩
        have HS2 := Lib.hid (HS1.out.later hb2 HH1.out)
        have HH2 := Lib.hid (Nat.le_trans HH1.out hb2.size)
        have x2_0 := (hb2.cell (p := ⟨w.heap.size, 0, none⟩) hsz1.out).trans x1_0
        have x2_1 := (hb2.cell (p := ⟨w.heap.size, 1, none⟩) hsz1.out).trans x1_1
        have hsz2 := Lib.hid (Nat.lt_of_lt_of_le hsz1.out hb2.size)
        have HB2 := Lib.hid (HB1.out.trans (hb2.mono HB1.out.size))
        clear hb2 x1_0 x1_1
        go_wp2_with fail
        refine (HK.out _).mono ?_
        rintro e w3 ⟨rfl, hb3⟩
        have HS3 := Lib.hid (HS2.out.later hb3 HH2.out)
        have HH3 := Lib.hid (Nat.le_trans HH2.out hb3.size)
        have x3_0 := (hb3.cell (p := ⟨w.heap.size, 0, none⟩) hsz2.out).trans x2_0
        have x3_1 := (hb3.cell (p := ⟨w.heap.size, 1, none⟩) hsz2.out).trans x2_1
        have hsz3 := Lib.hid (Nat.lt_of_lt_of_le hsz2.out hb3.size)
        have HB3 := Lib.hid (HB2.out.trans (hb3.mono HB2.out.size))
        clear hb3 x2_0 x2_1
        obtain ⟨b1, off, rfl, _, _, hc⟩ := HS3.out.at i hil
        rw [Nat.mul_one] at hc
        have hc0 := open_Int hc
        clear hc
        generalize r.fRows.getD i default = row at *
        go_wp2
        go_ret
        exact ⟨ret_b (by rw [fin.out]; rfl), HB3.out⟩

set_option maxHeartbeats 1600000 in
set_option maxRecDepth 100000 in
theorem impl_HasPair {lo hi c0_0 : Nat} {a0 : Option Addr} (r : DRelation) (_ : r.ok) (hsz : r.sz ≤ 1048576) (i : Int) (_ : okI i) (k : Int) (_ : okI k) (w : World) (hhi : hi ≤ w.heap.size) (hs : Sl lo hi w 1 r.fRows.length (fun k => ictI (r.fRows.getD k default)) a0) :
    Calls Try.prog 18 #[.agg #[.int .i64 r.fN, .slice a0 r.fRows.length c0_0], .int .i64 i, .int .i64 k] w fun e w' => e = .returned (.bool (hasPair r i k)) ∧ Below w.heap.size w w' := by
  have HL := Lib.hid (rel_len hsz)
  have HB := Lib.hid ((Below.refl w.heap.size w).alloc (Nat.le_refl _) (.cells #[.int .i64 r.fN, .slice a0 r.fRows.length c0_0] 27))
  have HS := Lib.hid (hs.later HB.out hhi)
  have HH := Lib.hid (Nat.le_trans hhi HB.out.size)
  have hsz0 := Lib.hid (show w.heap.size < (w.alloc (.cells #[.int .i64 r.fN, .slice a0 r.fRows.length c0_0] 27)).heap.size by simp)
  have hx0 := Lib.hid (show (w.alloc (.cells #[.int .i64 r.fN, .slice a0 r.fRows.length c0_0] 27)).cell? ⟨w.heap.size, 0, none⟩ = some (.int .i64 r.fN) by rw [World.cell?_alloc_new]; rfl)
  have hx1 := Lib.hid (show (w.alloc (.cells #[.int .i64 r.fN, .slice a0 r.fRows.length c0_0] 27)).cell? ⟨w.heap.size, 1, none⟩ = some (.slice a0 r.fRows.length c0_0) by rw [World.cell?_alloc_new]; rfl)
  clear hs hhi hsz
  cases hv : relB r with
  | false =>
    have fin := Lib.hid (hasPair_no1 (i := i) (k := k) hv)
    have HV := Lib.hid (impl_relValid (c0 := c0_0) r HL.out false hv _ HH.out HS.out)
    clear hv
    go_enter Try.func18, Try.ntmps18
    go_wp2_with fail
    refine HV.out.mono ?_
    rintro e w1 ⟨rfl, hb1⟩
    have HB1 := Lib.hid (HB.out.trans (hb1.mono HB.out.size))
    clear hb1
    go_wp2
    go_ret
    exact ⟨ret_b fin.out.symm, HB1.out⟩
  | true =>
    have HV := Lib.hid (impl_relValid (c0 := c0_0) r HL.out true hv _ HH.out HS.out)
    have HP := Lib.hid (relB_parts hv)
    have HVT := Lib.hid hv
    clear hv
    have hN1 : 0 ≤ r.fN ∧ r.fN ≤ 16 := by
      obtain ⟨n, h1, h2, _⟩ := HP.out
      rw [h2]; omega
    cases hi1 : inR i 0 (r.fN - 1) with
    | false =>
      have fin := Lib.hid (hasPair_no2 (k := k) hi1)
      have HI := Lib.hid (fun w => impl_isNumber (a0 := a0) (c0_0 := c0_0) r i false hi1 w)
      clear hi1
      go_enter Try.func18, Try.ntmps18
      go_wp2_with fail
      refine HV.out.mono ?_
      rintro e w1 ⟨rfl, hb1⟩
      have HS1 := Lib.hid (HS.out.later hb1 HH.out)
      have HH1 := Lib.hid (Nat.le_trans HH.out hb1.size)
      have x1_0 := (hb1.cell (p := ⟨w.heap.size, 0, none⟩) hsz0.out).trans hx0.out
      have x1_1 := (hb1.cell (p := ⟨w.heap.size, 1, none⟩) hsz0.out).trans hx1.out
      have hsz1 := Lib.hid (Nat.lt_of_lt_of_le hsz0.out hb1.size)
      have HB1 := Lib.hid (HB.out.trans (hb1.mono HB.out.size))
      clear hb1
      go_wp2_with fail
      refine (HI.out _).mono ?_
      rintro e w2 ⟨rfl, hb2⟩
      have HB2 := Lib.hid (HB1.out.trans (hb2.mono HB1.out.size))
      clear hb2
      go_wp2
      go_ret
      exact ⟨ret_b fin.out.symm, HB2.out⟩
    | true =>
      have HI := Lib.hid (fun w => impl_isNumber (a0 := a0) (c0_0 := c0_0) r i true hi1 w)
      cases hk1 : inR k 0 (r.fN - 1) with
      | false =>
        have fin := Lib.hid (hasPair_no3 (i := i) hk1)
        have HK := Lib.hid (fun w => impl_isNumber (a0 := a0) (c0_0 := c0_0) r k false hk1 w)
        clear hi1 hk1
        go_enter Try.func18, Try.ntmps18
        go_wp2_with fail
        refine HV.out.mono ?_
        rintro e w1 ⟨rfl, hb1⟩
        have HS1 := Lib.hid (HS.out.later hb1 HH.out)
        have HH1 := Lib.hid (Nat.le_trans HH.out hb1.size)
        have x1_0 := (hb1.cell (p := ⟨w.heap.size, 0, none⟩) hsz0.out).trans hx0.out
        have x1_1 := (hb1.cell (p := ⟨w.heap.size, 1, none⟩) hsz0.out).trans hx1.out
        have hsz1 := Lib.hid (Nat.lt_of_lt_of_le hsz0.out hb1.size)
        have HB1 := Lib.hid (HB.out.trans (hb1.mono HB.out.size))
        clear hb1
        go_wp2_with fail
        refine (HI.out _).mono ?_
        rintro e w2 ⟨rfl, hb2⟩
        have HS2 := Lib.hid (HS1.out.later hb2 HH1.out)
        have HH2 := Lib.hid (Nat.le_trans HH1.out hb2.size)
        have x2_0 := (hb2.cell (p := ⟨w.heap.size, 0, none⟩) hsz1.out).trans x1_0
        have x2_1 := (hb2.cell (p := ⟨w.heap.size, 1, none⟩) hsz1.out).trans x1_1
        have hsz2 := Lib.hid (Nat.lt_of_lt_of_le hsz1.out hb2.size)
        have HB2 := Lib.hid (HB1.out.trans (hb2.mono HB1.out.size))
        clear hb2 x1_0 x1_1
        go_wp2_with fail
        refine (HK.out _).mono ?_
        rintro e w3 ⟨rfl, hb3⟩
        have HB3 := Lib.hid (HB2.out.trans (hb3.mono HB2.out.size))
        clear hb3
        go_wp2
        go_ret
        exact ⟨ret_b fin.out.symm, HB3.out⟩
      | true =>
        have HK := Lib.hid (fun w => impl_isNumber (a0 := a0) (c0_0 := c0_0) r k true hk1 w)
        obtain ⟨i, rfl, hi2⟩ := inR_nat hi1
        obtain ⟨k, rfl, hk2⟩ := inR_nat hk1
        have fin := Lib.hid (hasPair_yes HVT.out hi1 hk1)
        clear hi1 hk1
        have hil : i < r.fRows.length := by
          obtain ⟨n, h1, h2, h3, _⟩ := HP.out
          omega
        have hrow : 0 ≤ r.fRows.getD i default ∧ r.fRows.getD i default ≤ 65535 := by
          obtain ⟨n, h1, h2, h3, h4⟩ := HP.out
          have h5 := h4 i (by omega)
          have h6 := pow_in h1
          omega
        go_enter Try.func18, Try.ntmps18
        go_wp2_with fail
        refine HV.out.mono ?_
        rintro e w1 ⟨rfl, hb1⟩
        have HS1 := Lib.hid (HS.out.later hb1 HH.out)
        have HH1 := Lib.hid (Nat.le_trans HH.out hb1.size)
        have x1_0 := (hb1.cell (p := ⟨w.heap.size, 0, none⟩) hsz0.out).trans hx0.out
        have x1_1 := (hb1.cell (p := ⟨w.heap.size, 1, none⟩) hsz0.out).trans hx1.out
        have hsz1 := Lib.hid (Nat.lt_of_lt_of_le hsz0.out hb1.size)
        have HB1 := Lib.hid (HB.out.trans (hb1.mono HB.out.size))
        clear hb1
        go_wp2_with fail
        refine (HI.out _).mono ?_
        rintro e w2 ⟨rfl, hb2⟩
        have HS2 := Lib.hid (HS1.out.later hb2 HH1.out)
        have HH2 := Lib.hid (Nat.le_trans HH1.out hb2.size)
        have x2_0 := (hb2.cell (p := ⟨w.heap.size, 0, none⟩) hsz1.out).trans x1_0
        have x2_1 := (hb2.cell (p := ⟨w.heap.size, 1, none⟩) hsz1.out).trans x1_1
        have hsz2 := Lib.hid (Nat.lt_of_lt_of_le hsz1.out hb2.size)
        have HB2 := Lib.hid (HB1.out.trans (hb2.mono HB1.out.size))
        clear hb2 x1_0 x1_1
        go_wp2_with fail
        refine (HK.out _).mono ?_
        rintro e w3 ⟨rfl, hb3⟩
        have HS3 := Lib.hid (HS2.out.later hb3 HH2.out)
        have HH3 := Lib.hid (Nat.le_trans HH2.out hb3.size)
        have x3_0 := (hb3.cell (p := ⟨w.heap.size, 0, none⟩) hsz2.out).trans x2_0
        have x3_1 := (hb3.cell (p := ⟨w.heap.size, 1, none⟩) hsz2.out).trans x2_1
        have hsz3 := Lib.hid (Nat.lt_of_lt_of_le hsz2.out hb3.size)
        have HB3 := Lib.hid (HB2.out.trans (hb3.mono HB2.out.size))
        clear hb3 x2_0 x2_1
        obtain ⟨b1, off, rfl, _, _, hc⟩ := HS3.out.at i hil
        rw [Nat.mul_one] at hc
        have hc0 := open_Int hc
        clear hc
        generalize r.fRows.getD i default = row at *
        go_wp2
        go_ret
        exact ⟨ret_b (by rw [fin.out]; rfl), HB3.out⟩
end Go.Proofs.Ytkfonlejblcknaa
