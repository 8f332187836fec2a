/-
  SharedSize of the program.
-/
import Derived.Test.YtjlcbbaicengbaaDoorSharedT
import Derived.Test.YtjlcbbaicengbaaDoorStoreLaw
namespace Go.Proofs.YtjlcbbaicengbaaDoor
open Go.ChangeShapes Go.WideShapes Go.ChangeAt Go.RowKit Go.Deep

section
variable {P : Program} (w : World) {ops : Array Oper} {rest : List Oper} {o : Oper} {a : Act} {Q : Exit → Act → World → Prop}
variable {t k e : TypeId} {κ β : Type} {okK : κ → Prop} {emb : κ → Value} {okV : β → Prop} {vv : β → Value} {vl : β → Lit} {z : β} {b n : Nat} {f : κ → β}
theorem wpList_insert_mapF (hg : o.guard = none) (m x v : Operand) (hop : o.op = Op.insert t m x v) (K : MapK P t k e okK emb okV vv vl z) (h : MapF P k e okK emb vl z w b n f) (hn : n < maxLen) (hm : a.eval m = .map (some b))
    {y : κ} (hy : okK y) {u : β} (hu : okV u) (hx : a.eval x = emb y) (hv : a.eval v = vv u) {f' : κ → β} (h1 : f' y = u) (h2 : ∀ q, okK q → q ≠ y → f' q = f q)
    (hK : ∀ w', MapF P k e okK emb vl z w' b (n + 1) f' → w.grownBy w' (some b) → wpList P ops Q rest (a.put o.dst undef) w') : wpList P ops Q (o :: rest) a w := by
  refine wpList_plain hg fun K' hK' => ?_
  obtain ⟨w', hrun, r1, r2⟩ := h.put K hn hy hu h1 h2
  unfold Oper.wp
  simp [execOp, hop, hm, hx, hv, hrun, Result.andThen]
  exact hK' _ _ (hK w' r1 r2)
end
theorem mapK_IBQ : MapK Tryd.prog 50 3 4 okMI valI (fun _ => True) valB litB false := mapK_IB Tryd.underlying50 Tryd.underlying3 Tryd.underlying4 (fun w => by kernel_rfl)
theorem WritesF.grownQ {F : Nat → Prop} {a w w' : World} {row : Option Nat} (h : WritesF F a w) (hg : w.grownBy w' row) (hF : ∀ g, row = some g → F g) : WritesF F a w' :=
  h.trans ⟨hg.os, hg.tape, hg.output, hg.size, fun b hb hn => hg.block b hb fun e => hn (hF b e.symm)⟩

set_option maxHeartbeats 12800000 in
set_option maxRecDepth 100000 in
theorem impl_hasCell {n c : Nat} {a : Option Addr} (_ : n ≤ 1048576) (i : Int) (w : World) :
    Calls Tryd.prog 21 #[.agg #[.slice a n c], .int .i64 i] w fun e w' => e = .returned (.bool (decide (0 ≤ i) && decide (i < (n : Int)))) ∧ Below w.heap.size w w' := by
  have HB := Lib.hid (show Below w.heap.size w (w.alloc (.cells #[.slice a n c] 29)) from (Below.refl w.heap.size w).alloc (Nat.le_refl _) (.cells #[.slice a n c] 29))
  by_cases h : 0 ≤ i
  · have fin := Lib.hid (show (decide (0 ≤ i) && decide (i < (n : Int))) = decide (i < (n : Int)) by rw [decide_eq_true h, Bool.true_and])
    go_enter Tryd.func21, Tryd.ntmps21
    go_wp2
    go_ret
    exact ⟨ret_b fin.out.symm, HB.out⟩
  · have fin := Lib.hid (show (decide (0 ≤ i) && decide (i < (n : Int))) = false by rw [decide_eq_false h, Bool.false_and])
    go_enter Tryd.func21, Tryd.ntmps21
    go_wp2
    go_ret
    exact ⟨ret_b fin.out.symm, HB.out⟩

set_option maxHeartbeats 12800000 in
set_option maxRecDepth 100000 in
theorem impl_SharedSizeL {lo hi c : Nat} {a : Option Addr} (l : List DCell) (hok : okL DCell.ok l) (hsz : lsz DCell.sz l ≤ 1048576) (i : Int) (w : World) (hhi : hi ≤ w.heap.size) (hs : Sl lo hi w 3 l.length (fun k => DCell.ct (l.getD k default)) a) (hp : Pow w) :
    Calls Tryd.prog 11 #[.agg #[.slice a l.length c], .int .i64 i] w fun e w' => e = .returned (.int .i64 (sharedN l i)) ∧ Below w.heap.size w w' := by
  have hn : l.length ≤ 1048576 := by unfold lsz at hsz; omega
  have HB := Lib.hid (show Below w.heap.size w (w.alloc (.cells #[.slice a l.length c] 29)) from (Below.refl w.heap.size w).alloc (Nat.le_refl _) (.cells #[.slice a l.length c] 29))
  have HBS := Lib.hid (show (w.alloc (.cells #[.slice a l.length c] 29)).heap[w.heap.size]? = some (.cells #[.slice a l.length c] 29) from blk_new rfl)
  have HZ := Lib.hid (show (w.alloc (.cells #[.slice a l.length c] 29)).heap.size = w.heap.size + 1 by simp)
  have HS := Lib.hid (fun (W : World) (hW : Below w.heap.size w W) => hs.later hW hhi)
  have HHI := Lib.hid hhi
  have HLN := Lib.hid (fun k (hk : k < l.length) => kids_len hsz hk)
  have HOK := Lib.hid hok
  have HV := Lib.hid (fun (W : World) (hW : Below w.heap.size w W) => impl_IsValidStoreL (c := c) l hok hsz W (Nat.le_trans hhi hW.size) (hs.later hW hhi) (hp.below hW))
  have HC := Lib.hid (fun (W : World) => impl_hasCell (c := c) (a := a) hn i W)
  clear hs hhi hsz hok hp
  have hmm := @run_makeMap Tryd.prog
  go_enter Tryd.func11, Tryd.ntmps11
  go_wp2_with fail
  generalize (w.alloc (.cells #[.slice a l.length c] 29)) = w0 at *
  refine (HV.out _ HB.out).mono ?_
  rintro e w1 ⟨rfl, hb1⟩
  have HB1 := Lib.hid (HB.out.trans (hb1.mono HB.out.size))
  have hz1' : w.heap.size + 1 ≤ w1.heap.size := HZ.out ▸ hb1.size
  have HS1 := Lib.hid ((hb1.block w.heap.size (by rw [HZ.out]; omega)).trans HBS.out)
  have s1 : w1.cell? ⟨w.heap.size, 0, none⟩ = some (.slice a l.length c) := pblk_cell HS1.out rfl
  clear hb1 HV
  cases hok : storeOk l
  · have FIN := Lib.hid (shared_no1 hok i)
    clear hok
    go_wp2
    go_ret
    exact ⟨ret_i FIN.out.symm, HB1.out⟩
  have HVL := Lib.hid (kidsLow_of hok)
  have HOKS := Lib.hid hok
  clear hok
  go_wp2_with fail
  refine (HC.out _).mono ?_
  rintro e w2 ⟨rfl, hb2⟩
  have HB2 := Lib.hid (HB1.out.trans (hb2.mono HB1.out.size))
  have hz2' : w.heap.size + 1 ≤ w2.heap.size := Nat.le_trans hz1' hb2.size
  have HS2 := Lib.hid ((hb2.block w.heap.size (by omega)).trans HS1.out)
  clear hb2 s1 HC
  by_cases hin : 0 ≤ i ∧ i < l.length
  · obtain ⟨A, rfl⟩ : ∃ A : Nat, i = (A : Int) := ⟨i.toNat, by omega⟩
    have hA : A < l.length := by omega
    have hr : (decide (0 ≤ (A : Int)) && decide ((A : Int) < (l.length : Int))) = true := by rw [decide_eq_true hin.1, decide_eq_true hin.2]; rfl
    have FIN := Lib.hid (shared_yes HOKS.out hA)
    rw [hr]
    clear hr
    have HM0 := Lib.hid (show MapF Tryd.prog 3 4 okMI valI litB false (w2.alloc (.map #[] 0)) w2.heap.size (0) (fun _ => false) from MapF.made w2)
    go_wp2_with (refine wpList_insert_mapF _ rfl (.tmp 19) (.tmp 20) (.const (.bool true)) rfl mapK_IBQ HM0.out (by unfold maxLen; omega) rfl (y := (A : Int)) (show okMI (A : Int) from ⟨by omega, by omega⟩) (u := true) trivial rfl rfl (f' := markF l A 0) (decide_eq_true rfl) (fun q _ hq => decide_eq_false hq) ?_; intro w3 hm3 hg3)
    clear hmm
    have HM3 := Lib.hid hm3
    have HW3 := Lib.hid (show WritesF (fun y => y = w2.heap.size) (w2.alloc (.map #[] 0)) w3 from (WritesF.refl _ _).grownQ hg3 (fun g hg => by injection hg with e; exact e.symm))
    have HMB := Lib.hid (show (w2.alloc (.map #[] 0)).heap.size = w2.heap.size + 1 by simp)
    have HB3 := Lib.hid (show Below w.heap.size w (w2.alloc (.map #[] 0)) from HB2.out.alloc HB2.out.size _)
    have HS3 := Lib.hid (show (w2.alloc (.map #[] 0)).heap[w.heap.size]? = some (.cells #[.slice a l.length c] 29) from blk_alloc (by omega) HS2.out)
    clear hm3 hg3 HM0
    generalize w2.alloc (.map #[] 0) = wm at *
    go_wp2

    go_loopw [6, 7] (fun s i wr => ∃ t : Nat, t ≤ A + 1 ∧ i = .int .i64 ((A : Int) - (t : Int)) ∧ s = .int .i64 (cntF l A t : Int) ∧ (∃ n, n ≤ 1 + t * 1048576 ∧ MapF Tryd.prog 3 4 okMI valI litB false wr w2.heap.size (n) (markF l A t)) ∧ WritesF (fun y => y = w2.heap.size) wm wr) (fun _ i _ => (intOf i + 1).toNat)
    case atStart => exact ⟨0, Nat.zero_le _, by simp, rfl, ⟨1, by omega, HM3.out⟩, HW3.out⟩
    case round =>
      obtain ⟨t, ht, rfl, rfl, ⟨n, hnt, hm⟩, hw⟩ := hrel
      have HM := Lib.hid hm
      have HW := Lib.hid hw
      have hmlt : w2.heap.size < wr.heap.size := hm.lt
      have hzm := hw.size
      have HBR := Lib.hid (show Below w.heap.size w wr from HB3.out.trans (hw.below (fun x h => by show w.heap.size ≤ x; have : x = w2.heap.size := h; omega) (by have := HMB.out; omega)))
      have HSW := Lib.hid ((hw.block w.heap.size (by have := HMB.out; omega) (by show ¬ w.heap.size = w2.heap.size; omega)).trans HS3.out)
      have hcl := cnt_le l A t
      clear hm hw
      by_cases hlt : t ≤ A
      · have hAt : A - t < l.length := by omega
        have hiI : (A : Int) - (t : Int) = ((A - t : Nat) : Int) := by omega
        have hmI : (0 : Int) ≤ ((A - t : Nat) : Int) ∧ ((A - t : Nat) : Int) < (l.length : Int) := by omega
        have HMR := Lib.hid (mark_reach HVL.out hA hlt)
        have hOKI : okMI ((A : Int) - (t : Int)) := ⟨by omega, by omega⟩
        cases hf : markF l A t ((A : Int) - (t : Int))
        · have HF := Lib.hid hf
          have HSK := Lib.hid (mark_skip hf)
          have HCN := Lib.hid (cnt_no (HMR.out.symm.trans hf))
          have HNT := Lib.hid (show n ≤ 1 + (t + 1) * 1048576 from Nat.le_trans hnt (Nat.add_le_add_left (Nat.mul_le_mul_right _ (Nat.le_succ t)) 1))
          clear hf
          go_wp2_with (refine wpList_look_mapF _ rfl (.tmp 27) (.tmp 28) rfl mapK_IBQ HM.out rfl (y := (A : Int) - (t : Int)) hOKI rfl ?_; rw [show valB (markF l A t ((A : Int) - (t : Int))) = .bool false from by rw [HF.out]; rfl])
          go_roundw
          case rel => exact ⟨t + 1, by omega, by first | go_num | (congr 1; omega), congrArg (fun x : Nat => Value.int .i64 (x : Int)) HCN.out.symm, ⟨n, HNT.out, by rw [HSK.out]; exact HM.out⟩, HW.out⟩
          case measure => simp [intOf]; omega
        · have HF := Lib.hid hf
          have HCN := Lib.hid (cnt_yes (HMR.out.symm.trans hf))
          have HJA := Lib.hid (markJ_all hf)
          have HJZ := Lib.hid (markJ_zero l A t)
          have HJP := Lib.hid (fun j hj => @markJ_put l A t j hj)
          have HJO := Lib.hid (fun j hj y hy => @markJ_other l A t j hj y hy)
          obtain ⟨b0, off, rfl, _, hbh, hc⟩ := (HS.out wm HB3.out).at (A - t) hAt
          obtain ⟨a2, c2, hc0, hc1, hc2, hs3⟩ := DCell.open hc
          have hb01 := Lib.hid (show b0 < w.heap.size by have := HHI.out; omega)
          have HL3 := Lib.hid (HLN.out (A - t) hAt)
          have HKO := Lib.hid ((HOK.out.at hAt).2.2)
          have HSK := Lib.hid (fun (W : World) (hW : WritesF (fun y => y = w2.heap.size) wm W) => hs3.frame fun b o h1 h2 => (hW.kept (G := fun y => y < hi) (fun x hx e => by have h3 : x < hi := hx; have h4 : x = w2.heap.size := e; have := HHI.out; omega)).cell (p := ⟨b, o, none⟩) h2 (by have := HHI.out; have := HMB.out; show b < _; omega))
          have hc2r : wr.cell? ⟨b0, off + (A - t) * 3 + 2, none⟩ = some (.slice a2 (l.getD (A - t) default).fChildren.length c2) := ((HW.out.kept (G := fun y => y < hi) (fun x hx e => by have h3 : x < hi := hx; have h4 : x = w2.heap.size := e; have := HHI.out; omega)).cell (p := ⟨b0, off + (A - t) * 3 + 2, none⟩) hbh (by have := HHI.out; have := HMB.out; show b0 < _; omega)).trans hc2
          have s0 : wr.cell? ⟨w.heap.size, 0, none⟩ = some (.slice (some ⟨b0, off, none⟩) l.length c) := pblk_cell HSW.out rfl
          clear hf hc hs3 hc0 hc1 hc2
          generalize (l.getD (A - t) default).fChildren = ch at *
          have HMZ := HM.out
          rw [← HJZ.out] at HMZ
          have HMZ := Lib.hid HMZ
          go_wp2_with (refine wpList_look_mapF _ rfl (.tmp 27) (.tmp 28) rfl mapK_IBQ HM.out rfl (y := (A : Int) - (t : Int)) hOKI rfl ?_; rw [show valB (markF l A t ((A : Int) - (t : Int))) = .bool true from by rw [HF.out]; rfl]; rw [hiI])
          go_loopw [40] (fun i wq => ∃ j : Nat, j ≤ ch.length ∧ i = .int .i64 (j : Int) ∧ (∃ n, n ≤ 1 + t * 1048576 + j ∧ MapF Tryd.prog 3 4 okMI valI litB false wq w2.heap.size (n) (markJ l A t j)) ∧ WritesF (fun y => y = w2.heap.size) wm wq) (fun i _ => ch.length - (intOf i).toNat)
          case atStart => exact ⟨0, Nat.zero_le _, rfl, ⟨n, by omega, HMZ.out⟩, HW.out⟩
          case round =>
            obtain ⟨j, hj, rfl, ⟨n2, hn2, hm2⟩, hw2⟩ := hrel
            have HM2 := Lib.hid hm2
            have HW2 := Lib.hid hw2
            have hzq := hw2.size
            have HBQ := Lib.hid (show Below w.heap.size w wr from HB3.out.trans (hw2.below (fun x h => by show w.heap.size ≤ x; have : x = w2.heap.size := h; omega) (by have := HMB.out; omega)))
            have hn3 : ch.length ≤ 1048576 := HL3.out
            clear hm2 hw2
            by_cases hjl : j < ch.length
            · have hjI : (0 : Int) ≤ (j : Int) ∧ (j : Int) < (ch.length : Int) := by omega
              have hslq : Sl lo hi wr 1 ch.length (fun k => ictI (ch.getD k default)) a2 := HSK.out wr HW2.out
              obtain ⟨b3, off3, rfl, _, _, hcc⟩ := hslq.at j hjl
              rw [Nat.mul_one] at hcc
              have hcc0 := open_Int hcc
              have hko := HKO.out.at hjl
              have hnx : n2 < maxLen := by unfold maxLen; omega
              have HP1 := Lib.hid (HJP.out j hjl)
              have HP2 := Lib.hid (HJO.out j hjl)
              clear hcc hslq
              generalize ch.getD j default = cc at *
              go_wp2_with (at_mapUpdate; refine wpList_put_mapF _ rfl (.tmp 44) (.tmp 45) (.const (.bool true)) rfl mapK_IBQ HM2.out hnx rfl (y := cc) (show okMI cc from hko) (u := true) trivial rfl rfl (f' := markJ l A t (j + 1)) HP1.out (fun q _ hq => HP2.out q hq) ?_; intro w9 hm9 hg9)
              have R1 := Lib.hid hm9
              have R2 := Lib.hid (HW2.out.grownQ hg9 (fun g hg => by injection hg with e; exact e.symm))
              clear hm9 hg9
              go_wp2
              go_roundw
              case rel => exact ⟨j + 1, by omega, by go_num, ⟨n2 + 1, by omega, R1.out⟩, R2.out⟩
              case measure => simp [intOf]; omega
            · obtain rfl : j = ch.length := by omega
              have hm3 := HM2.out
              rw [HJA.out] at hm3
              have HM4 := Lib.hid hm3
              clear hm3
              go_wp2
              go_roundw
              case rel => exact ⟨t + 1, by omega, by first | go_num | (congr 1; omega), by rw [HCN.out]; first | go_num | (congr 1; omega), ⟨n2, by omega, HM4.out⟩, HW2.out⟩
              case measure => simp [intOf]; omega
      · obtain rfl : t = A + 1 := by omega
        have hneg : ¬ (0 : Int) ≤ (A : Int) - ((A + 1 : Nat) : Int) := by omega
        go_wp2
        go_ret
        exact ⟨ret_i FIN.out.symm, HBR.out⟩
  · have hr : (decide (0 ≤ i) && decide (i < (l.length : Int))) = false := by
      by_cases h0 : 0 ≤ i
      · rw [decide_eq_false (show ¬ i < (l.length : Int) by omega), Bool.and_false]
      · rw [decide_eq_false h0, Bool.false_and]
    have FIN := Lib.hid (shared_no2 hin)
    rw [hr]
    clear hr hmm
    go_wp2
    go_ret
    exact ⟨ret_i FIN.out.symm, HB2.out⟩
end Go.Proofs.YtjlcbbaicengbaaDoor
