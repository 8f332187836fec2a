/-
  EqualRelation of the program.
-/
import Derived.Test.YtkfonlejblcknaaRelEqS
import Derived.Test.YtkfonlejblcknaaFree
namespace Go.Proofs.Ytkfonlejblcknaa
open Go.ChangeShapes Go.WideShapes Go.ChangeAt Go.RowKit Go.Deep

def allB (l m : List Int) (i : Nat) : Bool := (List.range 16).all fun j => rowsF l i j == rowsF m i j
theorem allB_yes {l m : List Int} {i : Nat} (h : allB l m i = true) (hp : ∀ k, k < i → l.getD k default = m.getD k default) : ∀ k, k < i + 16 → l.getD k default = m.getD k default := by
  intro k hk
  rcases Nat.lt_or_ge k i with h1 | h1
  · exact hp k h1
  · unfold allB at h
    rw [List.all_eq_true] at h
    have h2 := h (k - i) (List.mem_range.2 (by omega))
    rw [beq_iff_eq] at h2
    unfold rowsF at h2
    rw [show i + (k - i) = k by omega] at h2
    exact h2
theorem allB_no {l m : List Int} {i : Nat} (h : allB l m i = false) : decide (l = m) = false := by
  refine decide_eq_false fun e => ?_
  rw [e] at h
  unfold allB at h
  rw [show ((List.range 16).all fun j => rowsF m i j == rowsF m i j) = true from List.all_eq_true.2 fun j _ => beq_self_eq_true _] at h
  cases h

set_option maxHeartbeats 6400000 in
set_option maxRecDepth 100000 in
theorem impl_EqualRelation {lo hi c0_0 c1_0 : Nat} {a0 b0 : Option Addr} (a : DRelation) (_ : a.ok) (hsz : a.sz ≤ 1048576) (b : DRelation) (_ : b.ok) (hszb : b.sz ≤ 1048576) (hca : a.fRows.length ≤ c0_0) (hcb : b.fRows.length ≤ c1_0) (w : World) (hhi : hi ≤ w.heap.size) (hs : Sl lo hi w 1 a.fRows.length (fun k => ictI (a.fRows.getD k default)) a0) (hsb : Sl lo hi w 1 b.fRows.length (fun k => ictI (b.fRows.getD k default)) b0) :
    Calls Try.prog 9 #[.agg #[.int .i64 a.fN, .slice a0 a.fRows.length c0_0], .agg #[.int .i64 b.fN, .slice b0 b.fRows.length c1_0]] w fun e w' => e = .returned (.bool (relEq a b)) ∧ Below w.heap.size w w' := by
  have hl : a.fRows.length ≤ 1048576 := by unfold DRelation.sz lsz at hsz; omega
  have hm : b.fRows.length ≤ 1048576 := by unfold DRelation.sz lsz at hszb; omega
  clear hsz hszb
  unfold relEq
  generalize a.fRows = l at *
  generalize b.fRows = m at *
  generalize a.fN = x at *
  generalize b.fN = y at *
  have HB := Lib.hid (((Below.refl w.heap.size w).alloc (Nat.le_refl _) (.cells #[.int .i64 x, .slice a0 l.length c0_0] 27)).alloc (by simp) (.cells #[.int .i64 y, .slice b0 m.length c1_0] 27))
  by_cases hN : x = y
  rotate_left
  · have e0 : (x == y) = false := beq_eq_false_iff_ne.2 hN
    have e0b : (x != y) = true := by show (!(x == y)) = true; rw [e0]; rfl
    have FIN := Lib.hid (show ∀ d : Bool, (x == y && d) = false from fun d => by rw [e0]; rfl)
    go_enter Try.func9, Try.ntmps9
    go_wp2
    go_ret
    exact ⟨by rw [FIN.out]; rfl, HB.out⟩
  have HF : Hid ((x == y && decide (l = m)) = decide (l = m)) := by show _ = _; rw [beq_iff_eq.2 hN, Bool.true_and]
  have e0 : (x == y) = true := beq_iff_eq.2 hN
  have e0b : (x != y) = false := by show (!(x == y)) = false; rw [e0]; rfl
  rw [HF.out]
  clear hN HF
  by_cases hn : l.length = m.length
  rotate_left
  · have e1 : ((l.length : Int) == (m.length : Int)) = false := beq_eq_false_iff_ne.2 (by omega)
    have e1b : ((l.length : Int) != (m.length : Int)) = true := by show (!((l.length : Int) == (m.length : Int))) = true; rw [e1]; rfl
    have FIN := Lib.hid (show decide (l = m) = false from decide_eq_false fun e => hn (by rw [e]))
    generalize decide (l = m) = d at *
    go_enter Try.func9, Try.ntmps9
    go_wp2
    go_ret
    exact ⟨by rw [FIN.out]; rfl, HB.out⟩
  have e1 : ((l.length : Int) == (m.length : Int)) = true := by rw [hn]; exact beq_self_eq_true _
  have e1b : ((l.length : Int) != (m.length : Int)) = false := by show (!((l.length : Int) == (m.length : Int))) = false; rw [e1]; rfl
  have HN := Lib.hid hn
  have HHI := Lib.hid hhi
  have HS := Lib.hid hs
  have HSB := Lib.hid hsb
  have HL := Lib.hid hl
  have HM := Lib.hid hm
  have HCA := Lib.hid hca
  have HCB := Lib.hid hcb
  clear hs hsb hhi hm hca hcb hn
  go_enter Try.func9, Try.ntmps9
  go_wp2
  go_loopw [5] (fun iv wr => ∃ i : Nat, iv = .int .i64 (i : Int) ∧ i ≤ l.length + 15 ∧ (∀ k, k < i → l.getD k default = m.getD k default) ∧ Below (w.heap.size + 2) ((w.alloc (.cells #[.int .i64 x, .slice a0 l.length c0_0] 27)).alloc (.cells #[.int .i64 y, .slice b0 m.length c1_0] 27)) wr) (fun iv _ => l.length + 16 - (intOf iv).toNat)
  case atStart => exact ⟨0, rfl, Nat.zero_le _, fun k hk => absurd hk (Nat.not_lt_zero _), Below.refl _ _⟩
  case round =>
    obtain ⟨i, rfl, hi15, heq, hbl⟩ := hrel
    have HEQ := Lib.hid heq
    have HBL := Lib.hid hbl
    have hszr : w.heap.size + 2 ≤ wr.heap.size := by have h := hbl.size; simpa using h
    have r0 : wr.cell? ⟨w.heap.size, 0, none⟩ = some (.int .i64 x) := (hbl.cell (p := ⟨w.heap.size, 0, none⟩) (by dsimp only; omega)).trans (by go_simp)
    have s0 : wr.cell? ⟨w.heap.size + 1, 0, none⟩ = some (.int .i64 y) := (hbl.cell (p := ⟨w.heap.size + 1, 0, none⟩) (by dsimp only; omega)).trans (by go_simp)
    have r1 : wr.cell? ⟨w.heap.size, 1, none⟩ = some (.slice a0 l.length c0_0) := (hbl.cell (p := ⟨w.heap.size, 1, none⟩) (by dsimp only; omega)).trans (by go_simp)
    have s1 : wr.cell? ⟨w.heap.size + 1, 1, none⟩ = some (.slice b0 m.length c1_0) := (hbl.cell (p := ⟨w.heap.size + 1, 1, none⟩) (by dsimp only; omega)).trans (by go_simp)
    have HSR := Lib.hid (HS.out.later (HB.out.trans (hbl.mono (by omega))) HHI.out)
    have HSQ := Lib.hid (HSB.out.later (HB.out.trans (hbl.mono (by omega))) HHI.out)
    have HHR := Lib.hid (show hi ≤ wr.heap.size by have := HHI.out; omega)
    have HLAST := Lib.hid (show Below w.heap.size w wr from HB.out.trans (hbl.mono (by omega)))
    clear heq hbl
    by_cases hlt : i < l.length
    · have HLT := Lib.hid hlt
      go_wp2_with fail
      refine wp_region_free [([], none), ([], none), ([0, 1], none), ([], none), ([], none), ([3, 4], none), ([2, 5], none)] [0, 1, 2, 3, 4, 5, 6] (fun jq9 V L H wx => match jq9 with | 0 => V 0 = .agg #[.int .i64 x, .slice a0 l.length c0_0] | 1 => V 1 = .int .i64 (i : Int) | 2 => V 2 = .agg (rowA (rowsF l i)) | 3 => V 3 = .agg #[.int .i64 y, .slice b0 m.length c1_0] | 4 => V 4 = .int .i64 (i : Int) | 5 => V 5 = .agg (rowA (rowsF m i)) | 6 => V 6 = .bool (!allB l m i) | _ => True) (by kernel_rfl) (by kernel_rfl) ?loc ?lasts ?walk
      case loc =>
        intro k V V' L H wx h0 h1 hG
        match k with
        | 0 =>
          try dsimp only at hG ⊢
          rw [← h0]
          exact hG
        | 1 =>
          try dsimp only at hG ⊢
          rw [← h0]
          exact hG
        | 2 =>
          try dsimp only at hG ⊢
          rw [← h0]
          exact hG
        | 3 =>
          try dsimp only at hG ⊢
          rw [← h0]
          exact hG
        | 4 =>
          try dsimp only at hG ⊢
          rw [← h0]
          exact hG
        | 5 =>
          try dsimp only at hG ⊢
          rw [← h0]
          exact hG
        | 6 =>
          try dsimp only at hG ⊢
          rw [← h0]
          exact hG
        | n + 7 => trivial
      case lasts =>
        intro i hi V L H wx wy hB hH hk
        match i, hi with
        | 0, _ => exact fun h => h
        | 1, _ => exact fun h => h
        | 2, _ => exact fun h => h
        | 3, _ => exact fun h => h
        | 4, _ => exact fun h => h
        | 5, _ => exact fun h => h
        | 6, _ => exact fun h => h
        | n + 7, hn => exact absurd hn (by simp)
      case walk =>
        simp only [free, Nat.reduceAdd, Act.put, List.setIfInBounds_toArray, List.set_cons_succ, List.set_cons_zero]
        refine ⟨?_, ?_, ?_, ?_, ?_, ?_, ?_, ?_⟩
        · intro V L H w1 hb1 hd
          clear hd
          have r0 : w1.cell? ⟨w.heap.size, 0, none⟩ = some (.int .i64 x) := (hb1.cell (p := ⟨w.heap.size, 0, none⟩) (by dsimp only; omega)).trans r0
          have r1 : w1.cell? ⟨w.heap.size, 1, none⟩ = some (.slice a0 l.length c0_0) := (hb1.cell (p := ⟨w.heap.size, 1, none⟩) (by dsimp only; omega)).trans r1
          go_wp2_with fail
          exact freePost _ rfl ⟨Below.refl _ _, upd_self⟩
        · intro V L H w1 hb1 hd
          clear hd
          go_wp2_with fail
          exact freePost _ rfl ⟨Below.refl _ _, upd_self⟩
        · intro V L H w1 hb1 hd
          obtain ⟨⟨hL0, hM0, hH0, hv0⟩, ⟨hL1, hM1, hH1, hv1⟩, -⟩ := hd
          rw [hv0, hv1]
          have HV0 := Lib.hid hv0
          have HV1 := Lib.hid hv1
          clear hv0 hv1
          go_wp2_with fail
          refine (impl_rowsFrom (c1 := c0_0) x l HL.out i HLT.out HCA.out _ (Nat.le_trans HHR.out hb1.size) (HSR.out.later hb1 HHR.out)).mono ?_
          rintro e w2 ⟨rfl, hb2⟩
          go_wp2_with fail
          exact freePost _ rfl ⟨hb2, upd_self⟩
        · intro V L H w1 hb1 hd
          clear hd
          have s0 : w1.cell? ⟨w.heap.size + 1, 0, none⟩ = some (.int .i64 y) := (hb1.cell (p := ⟨w.heap.size + 1, 0, none⟩) (by dsimp only; omega)).trans s0
          have s1 : w1.cell? ⟨w.heap.size + 1, 1, none⟩ = some (.slice b0 m.length c1_0) := (hb1.cell (p := ⟨w.heap.size + 1, 1, none⟩) (by dsimp only; omega)).trans s1
          go_wp2_with fail
          exact freePost _ rfl ⟨Below.refl _ _, upd_self⟩
        · intro V L H w1 hb1 hd
          clear hd
          go_wp2_with fail
          exact freePost _ rfl ⟨Below.refl _ _, upd_self⟩
        · intro V L H w1 hb1 hd
          obtain ⟨⟨hL3, hM3, hH3, hv3⟩, ⟨hL4, hM4, hH4, hv4⟩, -⟩ := hd
          rw [hv3, hv4]
          have HV3 := Lib.hid hv3
          have HV4 := Lib.hid hv4
          clear hv3 hv4
          go_wp2_with fail
          refine (impl_rowsFrom (c1 := c1_0) y m HM.out i (by have h1 := HLT.out; have h2 := HN.out; omega) HCB.out _ (Nat.le_trans HHR.out hb1.size) (HSQ.out.later hb1 HHR.out)).mono ?_
          rintro e w2 ⟨rfl, hb2⟩
          go_wp2_with fail
          exact freePost _ rfl ⟨hb2, upd_self⟩
        · intro V L H w1 hb1 hd
          obtain ⟨⟨hL2, hM2, hH2, hv2⟩, ⟨hL5, hM5, hH5, hv5⟩, -⟩ := hd
          rw [hv2, hv5]
          have HV2 := Lib.hid hv2
          have HV5 := Lib.hid hv5
          clear hv2 hv5
          have HQ : ∀ W : World, (Op.equalIn 10000 50 (.agg (rowA (rowsF l i))) (.agg (rowA (rowsF m i)))).run Try.prog W = .ok (allB l m i) W := fun W => rows_eq W _ _
          go_wp2_with fail
          exact freePost _ rfl ⟨Below.refl _ _, upd_self⟩
        · intro V L H w1 hb1 hd hap hdead
          obtain ⟨⟨hL0, hM0, hH0, hv0⟩, ⟨hL1, hM1, hH1, hv1⟩, ⟨hL2, hM2, hH2, hv2⟩, ⟨hL3, hM3, hH3, hv3⟩, ⟨hL4, hM4, hH4, hv4⟩, ⟨hL5, hM5, hH5, hv5⟩, ⟨hL6, hM6, hH6, hv6⟩, -⟩ := hd
          rw [hv0, hv1, hv2, hv3, hv4, hv5, hv6]
          clear hv0 hv1 hv2 hv3 hv4 hv5 hv6
          have HB1 := Lib.hid (HLAST.out.trans (hb1.mono (by omega)))
          have HB2 := Lib.hid (HBL.out.trans (hb1.mono (by omega)))
          have HNO := Lib.hid (fun h : allB l m i = false => allB_no h)
          have HYES := Lib.hid (fun h : allB l m i = true => allB_yes h HEQ.out)
          generalize allB l m i = ab at *
          cases ab
          · have FIN := Lib.hid (HNO.out rfl)
            go_wp2
            go_ret
            exact ⟨congrArg (fun d => Ending.returned (.bool d)) FIN.out.symm, HB1.out⟩
          · have HE2 := Lib.hid (HYES.out rfl)
            go_wp2
            go_roundw
            case rel => exact ⟨i + 16, by go_num, by have := HLT.out; omega, HE2.out, HB2.out⟩
            case measure => simp [intOf]; omega
    · have FIN := Lib.hid (show decide (l = m) = true from decide_eq_true (getD_ext HN.out fun k hk => HEQ.out k (by omega)))
      go_wp2
      go_ret
      exact ⟨congrArg (fun d => Ending.returned (.bool d)) FIN.out.symm, HLAST.out⟩

    end Go.Proofs.Ytkfonlejblcknaa
