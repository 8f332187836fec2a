/-
  Until when the values of a trace's steps are needed, in the program.
-/
import Derived.Test.YtopcpgbhmnlcnaaLastUseL
namespace Go.Proofs.Ytopcpgbhmnlcnaa
open Go.ChangeShapes Go.WideShapes Go.ChangeAt Go.RowKit Go.Deep

/-- The last uses were computed, apart from the blocks X. -/
def LUd2 (w : World) (b : Nat) (X : Nat → Prop) (aT : Option Addr) (cT : Nat) (tr : List DTraceStep) (kk : Option Value) : Prop :=
  ∃ (a : Option Addr) (c lo9 hi9 : Nat), b < lo9 ∧ hi9 ≤ w.heap.size ∧ (∀ g, X g → g < lo9 ∨ hi9 ≤ g) ∧ UB w b (.slice aT tr.length cT) (.int .u32 1) (.int .i32 0) (.slice a tr.length c) kk ∧ Own w (fun y => lo9 ≤ y ∧ y < hi9) (.sl 1 tr.length (fun i => ictI ((lastL tr tr.length).getD i default))) (.slice a tr.length c)
def LU2 (w : World) (b : Nat) (X : Nat → Prop) (aT : Option Addr) (cT : Nat) (tr : List DTraceStep) (kk : Option Value) : Prop :=
  UB w b (.slice aT tr.length cT) (.int .u32 0) (.int .i32 0) (.slice none 0 0) kk ∨ LUd2 w b X aT cT tr kk
theorem LUd2.keep {w w' : World} {b : Nat} {X : Nat → Prop} {aT : Option Addr} {cT : Nat} {tr : List DTraceStep} {kk : Option Value} (h : LUd2 w b X aT cT tr kk) (hk : Kept (fun y => ¬ X y) w w') (hX : ¬ X b) (hb : b < w.heap.size) : LUd2 w' b X aT cT tr kk := by
  obtain ⟨a, c, lo9, hi9, h1, h2, h0, h3, h4⟩ := h
  exact ⟨a, c, lo9, hi9, h1, Nat.le_trans h2 hk.1, h0, h3.block (hk.2 b hX hb), h4.kept (hk.sub fun y hy hx => by have := h0 y hx; have := hy.1; have := hy.2; omega)⟩
theorem LU2.keep {w w' : World} {b : Nat} {X : Nat → Prop} {aT : Option Addr} {cT : Nat} {tr : List DTraceStep} {kk : Option Value} (h : LU2 w b X aT cT tr kk) (hk : Kept (fun y => ¬ X y) w w') (hX : ¬ X b) (hb : b < w.heap.size) : LU2 w' b X aT cT tr kk := by
  rcases h with h | h
  · exact .inl (h.block (hk.2 b hX hb))
  · exact .inr (h.keep hk hX hb)
theorem LU2.keep' {w w' : World} {b : Nat} {X : Nat → Prop} {aT : Option Addr} {cT : Nat} {tr : List DTraceStep} {kk : Option Value} (h : LU2 w b X aT cT tr kk) (hk : Kept (fun _ => True) w w') (hb : b < w.heap.size) : LU2 w' b X aT cT tr kk := by
  rcases h with h | ⟨a, c, lo9, hi9, h1, h2, h0, h3, h4⟩
  · exact .inl (h.block (hk.2 b trivial hb))
  · exact .inr ⟨a, c, lo9, hi9, h1, Nat.le_trans h2 hk.1, h0, h3.block (hk.2 b trivial hb), h4.kept (hk.sub fun _ _ => trivial)⟩
theorem LU2.sub {w : World} {b : Nat} {X X' : Nat → Prop} {aT : Option Addr} {cT : Nat} {tr : List DTraceStep} {kk : Option Value} (h : LU2 w b X aT cT tr kk) (hX : ∀ g, X' g → X g ∨ w.heap.size ≤ g) : LU2 w b X' aT cT tr kk := by
  rcases h with h | ⟨a, c, lo9, hi9, h1, h2, h0, h3⟩
  · exact .inl h
  · exact .inr ⟨a, c, lo9, hi9, h1, h2, fun g hg => (hX g hg).elim (h0 g) (fun e => .inr (Nat.le_trans h2 e)), h3⟩

set_option maxRecDepth 100000 in
theorem do_uses2 {lo hi : Nat} {aT : Option Addr} {cT b : Nat} {X : Nat → Prop} {kk : Option Value} (tr : List DTraceStep) (hn : tr.length ≤ 1048576) (hin : ∀ k, k < tr.length → (tr.getD k default).fInputs.length ≤ 1048576) (hok : ∀ k, k < tr.length → okMO (tr.getD k default).fAt ∧ ∀ j, j < (tr.getD k default).fInputs.length → okMO ((tr.getD k default).fInputs.getD j default)) (w : World) (hhi : hi ≤ b) (hb0 : 0 < b) (hb : b < w.heap.size) (hX : ∀ g, X g → g < w.heap.size) (hs : Sl lo hi w 3 tr.length (fun k => DTraceStep.ct (tr.getD k default)) aT) (hl : LU2 w b X aT cT tr kk) :
    Calls Try.prog 40 #[.pointer (some ⟨b, 1, none⟩), .func (.func 41) #[.pointer (some ⟨b, 0, none⟩)] #[]] w fun e w' => e = .returned (.tuple #[]) ∧ LUd2 w' b X aT cT tr kk ∧ WritesF (fun y => y = b) w w' := by
  rcases hl with h | h
  · have hw2 : WritesF (fun y => y = b) w (w.setCell ⟨b, 2, none⟩ (.int .i32 1)) := (WritesF.refl _ _).setCell (p := ⟨b, 2, none⟩) rfl
    have hc := impl_compute (lo := lo) (hi := hi) (aT := aT) (cT := cT) (b := b) (kk := kk) tr hn hin hok (w.setCell ⟨b, 2, none⟩ (.int .i32 1)) hhi hb0 (by rw [show (w.setCell ⟨b, 2, none⟩ (.int .i32 1)).heap.size = w.heap.size by simp [World.setCell]]; exact hb) (hs.frame fun b9 o h1 h2 => hw2.cellN (p := ⟨b9, o, none⟩) (by show b9 < _; omega) (by show ¬ b9 = b; omega)) (h.set2 (.int .i32 1))
    refine (do_first b 1 ⟨b, 0, none⟩ _ w hc (fun w' hr => ?_) h.c1 h.c2 h.f2).mono ?_
    · obtain ⟨a, c, lo9, _, hu, _, _⟩ := hr
      exact ⟨hu.c1, hu.c2, hu.f1, hu.f2⟩
    · rintro e w' ⟨rfl, w1, ⟨a, c, lo9, hlo, hu, ho, hw⟩, rfl⟩
      have hsz : w.heap.size ≤ lo9 := by rw [show (w.setCell ⟨b, 2, none⟩ (.int .i32 1)).heap.size = w.heap.size by simp [World.setCell]] at hlo; exact hlo
      have hw3 : WritesF (fun y => y = b) w1 ((w1.drew.setCell ⟨b, 1, none⟩ (.int .u32 1)).setCell ⟨b, 2, none⟩ (.int .i32 0)) := (((WritesF.refl (fun y => y = b) w1).later ((Below.refl _ _).drew)).setCell (p := ⟨b, 1, none⟩) rfl).setCell (p := ⟨b, 2, none⟩) rfl
      refine ⟨rfl, ⟨a, c, lo9, w1.heap.size, by omega, hw3.size, fun g hg => .inl (by have := hX g hg; omega), (hu.drew.set1 (.int .u32 1)).set2 (.int .i32 0), ho.kept (hw3.kept fun y hy => by have := hy.1; omega)⟩, (hw2.trans hw).trans hw3⟩
  · exact (do_done ⟨b, 1, none⟩ 1 (by decide) _ w (by obtain ⟨a, c, lo9, hi9, _, _, _, hu, _⟩ := h; exact hu.c1)).mono fun e w' ⟨he, hw⟩ => by subst hw; exact ⟨he, h, WritesF.refl _ _⟩

set_option maxHeartbeats 1600000 in
set_option maxRecDepth 100000 in
theorem impl_of2 {lo hi : Nat} {aT : Option Addr} {cT b : Nat} {X : Nat → Prop} {kk : Option Value} (tr : List DTraceStep) (hn : tr.length ≤ 1048576) (hin : ∀ k, k < tr.length → (tr.getD k default).fInputs.length ≤ 1048576) (hok : ∀ k, k < tr.length → okMO (tr.getD k default).fAt ∧ ∀ j, j < (tr.getD k default).fInputs.length → okMO ((tr.getD k default).fInputs.getD j default)) (w : World) (hhi : hi ≤ b) (hb0 : 0 < b) (hb : b < w.heap.size) (hX : ∀ g, X g → g < w.heap.size) (hs : Sl lo hi w 3 tr.length (fun k => DTraceStep.ct (tr.getD k default)) aT) (hl : LU2 w b X aT cT tr kk) (i : Nat) (hi' : i < tr.length) :
    Calls Try.prog 28 #[.pointer (some ⟨b, 0, none⟩), .int .i64 (i : Int)] w fun e w' => e = .returned (.int .i64 (lastU tr i)) ∧ LUd2 w' b X aT cT tr kk ∧ WritesF (fun y => y = b) w w' := by
  have HD := Lib.hid (do_uses2 tr hn hin hok w hhi hb0 hb hX hs hl)
  have hmf : ∀ (fn : Fn) (first cap : Array Value) (w : World), (Instr.makeFunc fn first cap).run Try.prog w = .ok (.func fn first cap) w := fun _ _ _ _ => rfl
  have HLA := Lib.hid (lastL_at tr hi')
  clear hin hok hs hl
  go_enter Try.func28, Try.ntmps28
  go_wp2_with fail
  refine HD.out.mono ?_
  rintro e w1 ⟨rfl, hd, hw⟩
  have HLD := Lib.hid hd
  have HW := Lib.hid hw
  obtain ⟨a, c, lo9, hi9, h1, h2, h0, hu, ho⟩ := hd
  have g4 := hu.c4
  obtain ⟨b9, off, rfl, _, _, hc⟩ := (Sl.of (ho.lies (lo := lo9) (hi := hi9) fun y hy => hy)).at i hi'
  obtain ⟨u, hcu, hlu⟩ := hc 0 (by decide)
  have hcs : w1.cell? ⟨b9, off + i, none⟩ = some (.int .i64 (lastU tr i)) := by
    rw [← HLA.out, ← lies_lit hlu]; simpa using hcu
  have hiI : (0 : Int) ≤ (i : Int) ∧ (i : Int) < (tr.length : Int) := by omega
  clear hmf hw hu ho hc hcu hlu HD h0
  go_wp2
  go_ret
  exact ⟨rfl, HLD.out, HW.out⟩

/-- When a step's cell is free. -/
def freeT (tr : List DTraceStep) (kp : List DInstance) (i : Nat) : Int := if hasI kp (tr.getD i default).fAt = true then 9223372036854775807 else lastU tr i
theorem freeT_bd (tr : List DTraceStep) (kp : List DInstance) {i : Nat} (hi : i < tr.length) (hn : tr.length ≤ 1048576) : (i : Int) ≤ freeT tr kp i ∧ freeT tr kp i ≤ 9223372036854775807 := by
  have h := lastU_bd tr hi
  unfold freeT
  split <;> omega
theorem freeT_gt (tr : List DTraceStep) (kp : List DInstance) {j i : Nat} (hi : i < tr.length) (hn : tr.length ≤ 1048576) : decide ((i : Int) < freeT tr kp j) = (decide ((i : Int) < lastU tr j) || hasI kp (tr.getD j default).fAt) := by
  unfold freeT
  split
  · next h => rw [h, Bool.or_true]; exact decide_eq_true (by omega)
  · next h => rw [show hasI kp (tr.getD j default).fAt = false by simpa using h, Bool.or_false]

set_option maxHeartbeats 3200000 in
set_option maxRecDepth 100000 in
theorem impl_needsOf {lo hi : Nat} {aT aK : Option Addr} {cT cK : Nat} (tr : List DTraceStep) (kp : List DInstance) (hkn : kp.length ≤ 1048576) (hkok : ∀ j, j < kp.length → okMO (kp.getD j default)) (w : World) (hhi : hi ≤ w.heap.size)
    (hs : Sl lo hi w 2 kp.length (fun k => DInstance.ct (kp.getD k default)) aK) :
    Calls Try.prog 32 #[.slice aT tr.length cT, .slice aK kp.length cK] w fun e w' => e = .returned (.pointer (some ⟨w.heap.size + 1, 0, none⟩)) ∧
      UB w' (w.heap.size + 1) (.slice aT tr.length cT) (.int .u32 0) (.int .i32 0) (.slice none 0 0) (some (.map (some w.heap.size))) ∧ (∃ n, MapF Try.prog 51 4 okMO embO litB false w' w.heap.size n (hasI kp)) ∧ Below w.heap.size w w' := by
  have HB := Lib.hid (show Below w.heap.size w ((w.alloc (.map #[] 0)).alloc (.cells #[.slice aT tr.length cT, .int .u32 0, .int .i32 0, .int .u32 0, .slice none 0 0, .map (some w.heap.size)] 87)) from ((Below.refl _ _).alloc (Nat.le_refl _) _).alloc (by simp) _)
  have HBK := Lib.hid (show ((w.alloc (.map #[] 0)).alloc (.cells #[.slice aT tr.length cT, .int .u32 0, .int .i32 0, .int .u32 0, .slice none 0 0, .map (some w.heap.size)] 87)).heap[w.heap.size + 1]? = some (.cells #[.slice aT tr.length cT, .int .u32 0, .int .i32 0, .int .u32 0, .slice none 0 0, .map (some w.heap.size)] 87) from blk_new (by simp))
  have HM0 := Lib.hid (show MapF Try.prog 51 4 okMO embO litB false ((w.alloc (.map #[] 0)).alloc (.cells #[.slice aT tr.length cT, .int .u32 0, .int .i32 0, .int .u32 0, .slice none 0 0, .map (some w.heap.size)] 87)) w.heap.size 0 (fun _ => false) from (MapF.made w).later ((Below.refl _ _).alloc (Nat.le_refl _) _))
  have HZ := Lib.hid (show ((w.alloc (.map #[] 0)).alloc (.cells #[.slice aT tr.length cT, .int .u32 0, .int .i32 0, .int .u32 0, .slice none 0 0, .map (some w.heap.size)] 87)).heap.size = w.heap.size + 2 by simp)
  have HS := Lib.hid (fun (W : World) (hW : Below w.heap.size w W) => hs.later hW hhi)
  have HK := Lib.hid hkok
  have HE := Lib.hid (show (fun _ => false) = hasI (kp.take 0) from by funext x; unfold hasI; simp)
  rw [HE.out] at HM0
  clear hs hkok HE
  have hmm := @run_makeMap Try.prog
  go_enter Try.func32, Try.ntmps32
  go_wp2
  clear hmm
  generalize hW0 : (w.alloc (.map #[] 0)).alloc (.cells #[.slice aT tr.length cT, .int .u32 0, .int .i32 0, .int .u32 0, .slice none 0 0, .map (some w.heap.size)] 87) = W0 at *
  clear hW0
  go_loopw [15] (fun i wr => ∃ j : Nat, j ≤ kp.length ∧ i = .int .i64 (j : Int) ∧ (∃ n, n ≤ j ∧ MapF Try.prog 51 4 okMO embO litB false wr w.heap.size n (hasI (kp.take j))) ∧ WritesF (fun y => y = w.heap.size) W0 wr) (fun i _ => kp.length - (intOf i).toNat)
  case atStart => exact ⟨0, Nat.zero_le _, rfl, ⟨0, Nat.le_refl _, HM0.out⟩, WritesF.refl _ _⟩
  case round =>
    obtain ⟨j, hj, rfl, ⟨n, hnj, hm⟩, hw⟩ := hrel
    have HM := Lib.hid hm
    have HW := Lib.hid hw
    have hmlt : w.heap.size < wr.heap.size := hm.lt
    have hsz := hw.size
    have hz := HZ.out
    have HBR := Lib.hid (show Below w.heap.size w wr from HB.out.trans (hw.below (fun x h => by omega) (by omega)))
    have HNB := Lib.hid ((hw.block (w.heap.size + 1) (by omega) (by show ¬ w.heap.size + 1 = w.heap.size; omega)).trans HBK.out)
    clear hm hw
    by_cases hlt : j < kp.length
    · obtain ⟨bk, off, rfl, _, hbk, hc⟩ := (HS.out _ HBR.out).at j hlt
      obtain ⟨hc0, hc1⟩ := DInstance.open hc
      have hjI : (0 : Int) ≤ (j : Int) ∧ (j : Int) < (kp.length : Int) := by omega
      have HOK := Lib.hid (HK.out j hlt)
      have HT1 := Lib.hid (fun x => hasI_take hlt x)
      clear hc
      generalize hx : kp.getD j default = x at *
      clear hx
      have HBA := Lib.hid (show Below wr.heap.size wr (wr.alloc (.cells #[.int .i64 x.fNode, .string x.fName] 51)) from (Below.refl _ _).alloc (Nat.le_refl _) _)
      have HX := Lib.hid (show (wr.alloc (.cells #[.int .i64 x.fNode, .string x.fName] 51)).heap[wr.heap.size]? = some (.cells #[.int .i64 x.fNode, .string x.fName] 51) from blk_new rfl)
      have HMA := Lib.hid (HM.out.later HBA.out)
      have HNA := Lib.hid ((HBA.out.block (w.heap.size + 1) (by omega)).trans HNB.out)
      have HWA := Lib.hid (HW.out.later HBA.out)
      clear hsz
      go_wp2
      clear hc0 hc1
      generalize hW1 : wr.alloc (.cells #[.int .i64 x.fNode, .string x.fName] 51) = W1 at *
      clear hW1
      have c5 : W1.cell? ⟨w.heap.size + 1, 5, none⟩ = some (.map (some w.heap.size)) := pblk_cell HNA.out rfl
      have x0 : W1.cell? ⟨wr.heap.size, 0, none⟩ = some (.int .i64 x.fNode) := pblk_cell HX.out rfl
      have x1 : W1.cell? ⟨wr.heap.size, 1, none⟩ = some (.string x.fName) := pblk_cell HX.out rfl
      have hnx : n < maxLen := by unfold maxLen; omega
      obtain ⟨w9, hrun, hm9, hg9⟩ := MapF.put (w := W1.drew) mapK_OB (HMA.out.block rfl) hnx (x := x) HOK.out (v := true) trivial (f' := hasI (kp.take (j + 1))) (by rw [HT1.out, decide_eq_true rfl, Bool.or_true]) (fun q _ hq => by rw [HT1.out, decide_eq_false hq, Bool.or_false])
      have hrun' : (Instr.mapUpdate 85 (.map (some w.heap.size)) (.agg #[.int .i64 x.fNode, .string x.fName]) (.bool true)).run Try.prog W1.drew = .ok () w9 := hrun
      have HG9 := Lib.hid hg9
      have HM9 := Lib.hid hm9
      clear hrun hg9 hm9
      go_region
      all_goals (
        have R1 := Lib.hid HM9.out
        have R2 := Lib.hid (WritesF.grownN (F := fun y => y = w.heap.size) (a := W0) (h := by first | exact HWA.out | exact HWA.out.later (Below.refl _ _).drew | exact HWA.out.later (below_drewN (Below.refl _ _) _)) (hg := HG9.out) (fun g hg => by injection hg with e; exact e.symm))
        go_wp2
        go_roundw
        case rel => exact ⟨j + 1, by omega, by go_num, ⟨n + 1, by omega, R1.out⟩, R2.out⟩
        case measure => simp [intOf]; omega)
    · obtain rfl : j = kp.length := by omega
      have HMX := Lib.hid HM.out
      rw [List.take_length] at HMX
      have HUX := Lib.hid (show UB wr (w.heap.size + 1) (.slice aT tr.length cT) (.int .u32 0) (.int .i32 0) (.slice none 0 0) (some (.map (some w.heap.size))) from
        ⟨pblk_cell HNB.out rfl, pblk_cell HNB.out rfl, pblk_cell HNB.out rfl, pblk_cell HNB.out rfl, pblk_cell HNB.out rfl, pblk_frozen HNB.out, pblk_frozen HNB.out, pblk_frozen HNB.out⟩)
      go_wp2
      go_ret
      exact ⟨rfl, HUX.out, ⟨n, HMX.out⟩, HBR.out⟩

set_option maxHeartbeats 3200000 in
set_option maxRecDepth 100000 in
theorem impl_freeAt {lo hi : Nat} {aT : Option Addr} {cT b mb : Nat} {X : Nat → Prop} (tr : List DTraceStep) (hn : tr.length ≤ 1048576) (hin : ∀ k, k < tr.length → (tr.getD k default).fInputs.length ≤ 1048576) (hok : ∀ k, k < tr.length → okMO (tr.getD k default).fAt ∧ ∀ j, j < (tr.getD k default).fInputs.length → okMO ((tr.getD k default).fInputs.getD j default)) (kp : List DInstance) (w : World) (hhi : hi ≤ b) (hb0 : 0 < b) (hb : b < w.heap.size) (hX : ∀ g, X g → g < w.heap.size) (hs : Sl lo hi w 3 tr.length (fun k => DTraceStep.ct (tr.getD k default)) aT) (hl : LU2 w b X aT cT tr (some (.map (some mb)))) (hm : ∃ n, MapF Try.prog 51 4 okMO embO litB false w mb n (hasI kp)) (i : Nat) (hi' : i < tr.length) :
    Calls Try.prog 33 #[.pointer (some ⟨b, 0, none⟩), .int .i64 (i : Int)] w fun e w' => e = .returned (.int .i64 (freeT tr kp i)) ∧ LU2 w' b X aT cT tr (some (.map (some mb))) ∧ WritesF (fun y => y = b) w w' := by
  obtain ⟨nm, hm⟩ := hm
  obtain ⟨d, s, l, hu⟩ : ∃ d s l, UB w b (.slice aT tr.length cT) d s l (some (.map (some mb))) := by
    rcases hl with h | ⟨_, _, _, _, _, _, _, h, _⟩
    · exact ⟨_, _, _, h⟩
    · exact ⟨_, _, _, h⟩
  have HU := Lib.hid hu
  have HM := Lib.hid hm
  have HOF := Lib.hid (fun (W : World) (hW : Below w.heap.size w W) (h : LU2 W b X aT cT tr (some (.map (some mb)))) => impl_of2 (kk := some (.map (some mb))) tr hn hin hok W hhi hb0 (Nat.lt_of_lt_of_le hb hW.size) (fun g hg => Nat.lt_of_lt_of_le (hX g hg) hW.size) (hs.later hW (by omega)) h i hi')
  have HLK := Lib.hid (fun (W : World) (hW : Below w.heap.size w W) => LU2.keep' hl (Kept.of_below_all (F := fun _ => True) hW) hb)
  have HBL := Lib.hid hb
  have HML := Lib.hid hm.lt
  have hiI : (0 : Int) ≤ (i : Int) ∧ (i : Int) < (tr.length : Int) := by omega
  have HOX := Lib.hid (hok i hi').1
  obtain ⟨bt, off, rfl, _, hbt, hc⟩ := hs.at i hi'
  obtain ⟨a2, c2, h0, h1, h2, _⟩ := DTraceStep.open hc
  have HC0 := Lib.hid h0
  have HC1 := Lib.hid h1
  have HLT := Lib.hid (show bt < w.heap.size by omega)
  have HFT := Lib.hid (show freeT tr kp i = if hasI kp (tr.getD i default).fAt = true then 9223372036854775807 else lastU tr i from rfl)
  clear hs hin hok hl hm hu hc h0 h1 h2 hX hb hbt hhi
  generalize freeT tr kp i = ft at *
  generalize (tr.getD i default).fAt = x at *
  go_enter Try.func33, Try.ntmps33
  go_wp2
  refine wp_region_freeK [([], .none, []), ([0], .none, []), ([1], .none, []), ([2], .none, []), ([], .none, []), ([4], .none, []), ([5], .none, []), ([6], .none, []), ([7], .none, []), ([], .none, []), ([8, 9], .none, []), ([10], .none, []), ([11], .none, []), ([3, 12], .none, [])] [0, 1, 2, 3, 4, 5, 6, 7, 8, 9, 10, 11, 12, 13] [] (fun _ => False) (fun _ => True) (fun _ => 0) (fun jq9 V L H wx => match jq9 with | 0 => V 0 = .pointer (some ⟨b, 0, none⟩) | 1 => V 1 = .pointer (some ⟨b, 0, none⟩) | 2 => V 2 = .pointer (some ⟨b, 5, none⟩) | 3 => V 3 = .map (some mb) | 4 => V 4 = .pointer (some ⟨b, 0, none⟩) | 5 => V 5 = .pointer (some ⟨b, 0, none⟩) | 6 => V 6 = .pointer (some ⟨b, 0, none⟩) | 7 => V 7 = .pointer (some ⟨b, 0, none⟩) | 8 => V 8 = .slice (some ⟨bt, off, none⟩) tr.length cT | 9 => V 9 = .int .i64 (i : Int) | 10 => V 10 = .pointer (some ⟨bt, off + i * 3, none⟩) | 11 => V 11 = .pointer (some ⟨bt, off + i * 3, none⟩) | 12 => V 12 = .agg #[.int .i64 x.fNode, .string x.fName] | 13 => V 13 = .bool (hasI kp x) | _ => True) (by kernel_rfl) (by kernel_rfl) ?obs (fun _ h => h.elim) trivial (fun _ _ _ _ _ => trivial) ?loc ?lasts ?walk
  case obs =>
    trivial
  case loc =>
    intro k V V' L H wx h0 h1 hG
    match k with
    | 0 =>
      try dsimp only at hG ⊢
      rw [← h0]
      exact hG
    | 1 =>
      try dsimp only at hG ⊢
      rw [← h0]
      exact hG
    | 2 =>
      try dsimp only at hG ⊢
      rw [← h0]
      exact hG
    | 3 =>
      try dsimp only at hG ⊢
      rw [← h0]
      exact hG
    | 4 =>
      try dsimp only at hG ⊢
      rw [← h0]
      exact hG
    | 5 =>
      try dsimp only at hG ⊢
      rw [← h0]
      exact hG
    | 6 =>
      try dsimp only at hG ⊢
      rw [← h0]
      exact hG
    | 7 =>
      try dsimp only at hG ⊢
      rw [← h0]
      exact hG
    | 8 =>
      try dsimp only at hG ⊢
      rw [← h0]
      exact hG
    | 9 =>
      try dsimp only at hG ⊢
      rw [← h0]
      exact hG
    | 10 =>
      try dsimp only at hG ⊢
      rw [← h0]
      exact hG
    | 11 =>
      try dsimp only at hG ⊢
      rw [← h0]
      exact hG
    | 12 =>
      try dsimp only at hG ⊢
      rw [← h0]
      exact hG
    | 13 =>
      try dsimp only at hG ⊢
      rw [← h0]
      exact hG
    | n + 14 => trivial
  case lasts =>
    intro i hi V L H wx wy hB hH hk
    match i, hi with
    | 0, _ => exact fun h => h
    | 1, _ => exact fun h => h
    | 2, _ => exact fun h => h
    | 3, _ => exact fun h => h
    | 4, _ => exact fun h => h
    | 5, _ => exact fun h => h
    | 6, _ => exact fun h => h
    | 7, _ => exact fun h => h
    | 8, _ => exact fun h => h
    | 9, _ => exact fun h => h
    | 10, _ => exact fun h => h
    | 11, _ => exact fun h => h
    | 12, _ => exact fun h => h
    | 13, _ => exact fun h => h
    | n + 14, hn => exact absurd hn (by simp)
  case walk =>
    simp (maxSteps := 4000000) only [freeK, Nat.reduceAdd, Act.put, List.setIfInBounds_toArray, List.set_cons_succ, List.set_cons_zero]
    refine ⟨?_, ?_, ?_, ?_, ?_, ?_, ?_, ?_, ?_, ?_, ?_, ?_, ?_, ?_, ?_⟩
    · intro V L H wq hw hk hj hd
      clear hd
      go_wp2_with fail
      exact freePost _ rfl ⟨⟨WritesF.refl _ _, hj⟩, upd_self⟩
    · intro V L H wq hw hk hj hd
      obtain ⟨⟨hL0, hM0, hH0, hv0⟩, -⟩ := hd
      rw [hv0]
      have HV0 := Lib.hid hv0
      clear hv0
      go_wp2_with fail
      exact freePost _ rfl ⟨⟨WritesF.refl _ _, hj⟩, upd_self⟩
    · intro V L H wq hw hk hj hd
      obtain ⟨⟨hL1, hM1, hH1, hv1⟩, -⟩ := hd
      rw [hv1]
      have HV1 := Lib.hid hv1
      clear hv1
      go_wp2_with fail
      exact freePost _ rfl ⟨⟨WritesF.refl _ _, hj⟩, upd_self⟩
    · intro V L H wq hw hk hj hd
      obtain ⟨⟨hL2, hM2, hH2, hv2⟩, -⟩ := hd
      rw [hv2]
      have HV2 := Lib.hid hv2
      clear hv2
      have r5 : wq.cell? ⟨b, 5, none⟩ = some (.map (some mb)) := (hk.cell (p := ⟨b, 5, none⟩) ⟨HBL.out, id, trivial⟩ HBL.out).trans (HU.out.c5)
      go_wp2_with fail
      exact freePost _ rfl ⟨⟨WritesF.refl _ _, hj⟩, upd_self⟩
    · intro V L H wq hw hk hj hd
      clear hd
      go_wp2_with fail
      exact freePost _ rfl ⟨⟨WritesF.refl _ _, hj⟩, upd_self⟩
    · intro V L H wq hw hk hj hd
      obtain ⟨⟨hL4, hM4, hH4, hv4⟩, -⟩ := hd
      rw [hv4]
      have HV4 := Lib.hid hv4
      clear hv4
      go_wp2_with fail
      exact freePost _ rfl ⟨⟨WritesF.refl _ _, hj⟩, upd_self⟩
    · intro V L H wq hw hk hj hd
      obtain ⟨⟨hL5, hM5, hH5, hv5⟩, -⟩ := hd
      rw [hv5]
      have HV5 := Lib.hid hv5
      clear hv5
      go_wp2_with fail
      exact freePost _ rfl ⟨⟨WritesF.refl _ _, hj⟩, upd_self⟩
    · intro V L H wq hw hk hj hd
      obtain ⟨⟨hL6, hM6, hH6, hv6⟩, -⟩ := hd
      rw [hv6]
      have HV6 := Lib.hid hv6
      clear hv6
      go_wp2_with fail
      exact freePost _ rfl ⟨⟨WritesF.refl _ _, hj⟩, upd_self⟩
    · intro V L H wq hw hk hj hd
      obtain ⟨⟨hL7, hM7, hH7, hv7⟩, -⟩ := hd
      rw [hv7]
      have HV7 := Lib.hid hv7
      clear hv7
      have r0 : wq.cell? ⟨b, 0, none⟩ = some (.slice (some ⟨bt, off, none⟩) tr.length cT) := (hk.cell (p := ⟨b, 0, none⟩) ⟨HBL.out, id, trivial⟩ HBL.out).trans (HU.out.c0)
      go_wp2_with fail
      exact freePost _ rfl ⟨⟨WritesF.refl _ _, hj⟩, upd_self⟩
    · intro V L H wq hw hk hj hd
      clear hd
      go_wp2_with fail
      exact freePost _ rfl ⟨⟨WritesF.refl _ _, hj⟩, upd_self⟩
    · intro V L H wq hw hk hj hd
      obtain ⟨⟨hL8, hM8, hH8, hv8⟩, ⟨hL9, hM9, hH9, hv9⟩, -⟩ := hd
      rw [hv8, hv9]
      have HV8 := Lib.hid hv8
      have HV9 := Lib.hid hv9
      clear hv8 hv9
      go_wp2_with fail
      exact freePost _ rfl ⟨⟨WritesF.refl _ _, hj⟩, upd_self⟩
    · intro V L H wq hw hk hj hd
      obtain ⟨⟨hL10, hM10, hH10, hv10⟩, -⟩ := hd
      rw [hv10]
      have HV10 := Lib.hid hv10
      clear hv10
      go_wp2_with fail
      exact freePost _ rfl ⟨⟨WritesF.refl _ _, hj⟩, upd_self⟩
    · intro V L H wq hw hk hj hd
      obtain ⟨⟨hL11, hM11, hH11, hv11⟩, -⟩ := hd
      rw [hv11]
      have HV11 := Lib.hid hv11
      clear hv11
      have r0 : wq.cell? ⟨bt, off + i * 3, none⟩ = some (.int .i64 x.fNode) := (hk.cell (p := ⟨bt, off + i * 3, none⟩) ⟨HLT.out, id, trivial⟩ HLT.out).trans (HC0.out)
      have r1 : wq.cell? ⟨bt, off + i * 3 + 1, none⟩ = some (.string x.fName) := (hk.cell (p := ⟨bt, off + i * 3 + 1, none⟩) ⟨HLT.out, id, trivial⟩ HLT.out).trans (HC1.out)
      go_wp2_with fail
      exact freePost _ rfl ⟨⟨WritesF.refl _ _, hj⟩, upd_self⟩
    · intro V L H wq hw hk hj hd
      obtain ⟨⟨hL3, hM3, hH3, hv3⟩, ⟨hL12, hM12, hH12, hv12⟩, -⟩ := hd
      rw [hv3, hv12]
      have HV3 := Lib.hid hv3
      have HV12 := Lib.hid hv12
      clear hv3 hv12
      go_wp2_with (refine wpList_look_mapF _ rfl (.tmp 8) (.tmp 17) rfl mapK_OB (HM.out.block (hk.2 mb ⟨HML.out, fun h => h, trivial⟩ HML.out)) rfl (y := x) HOX.out rfl ?_)
      exact freePost _ rfl ⟨⟨WritesF.refl _ _, hj⟩, upd_self⟩
    · intro V L H wq hw hj hd hap hdead
      obtain ⟨⟨hL0, hM0, hH0, hv0⟩, ⟨hL1, hM1, hH1, hv1⟩, ⟨hL2, hM2, hH2, hv2⟩, ⟨hL3, hM3, hH3, hv3⟩, ⟨hL4, hM4, hH4, hv4⟩, ⟨hL5, hM5, hH5, hv5⟩, ⟨hL6, hM6, hH6, hv6⟩, ⟨hL7, hM7, hH7, hv7⟩, ⟨hL8, hM8, hH8, hv8⟩, ⟨hL9, hM9, hH9, hv9⟩, ⟨hL10, hM10, hH10, hv10⟩, ⟨hL11, hM11, hH11, hv11⟩, ⟨hL12, hM12, hH12, hv12⟩, ⟨hL13, hM13, hH13, hv13⟩, -⟩ := hd
      rw [hv0, hv1, hv2, hv3, hv4, hv5, hv6, hv7, hv8, hv9, hv10, hv11, hv12, hv13]
      clear hv0 hv1 hv2 hv3 hv4 hv5 hv6 hv7 hv8 hv9 hv10 hv11 hv12 hv13
      have HW := Lib.hid (fa_noneK hw)
      have HL1 := Lib.hid (HLK.out wq HW.out)
      clear hw hj hap hdead
      by_cases hh : hasI kp x = true
      · have HE := Lib.hid (HFT.out.trans (if_pos hh))
        rw [hh]
        go_wp2
        go_ret
        exact ⟨congrArg (fun z => Ending.returned (Value.int .i64 z)) HE.out.symm, HL1.out, (WritesF.refl _ _).later HW.out⟩
      · have hf : hasI kp x = false := by simpa using hh
        have HE := Lib.hid (HFT.out.trans (if_neg hh))
        clear hh
        rw [hf]
        have HOF1 := Lib.hid (HOF.out wq HW.out HL1.out)
        go_wp2_with fail
        refine HOF1.out.mono ?_
        rintro e w2 ⟨rfl, hl2, hw2⟩
        have HL2 := Lib.hid hl2
        have HW2 := Lib.hid (hw2.of_below HW.out)
        clear hl2 hw2
        go_wp2
        go_ret
        exact ⟨congrArg (fun z => Ending.returned (Value.int .i64 z)) HE.out.symm, .inr HL2.out, HW2.out⟩
end Go.Proofs.Ytopcpgbhmnlcnaa
