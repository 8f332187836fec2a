/-
  The last uses of a trace, in the program: computed once.
-/
import Derived.Test.YtopcpgbhmnlcnaaSlotsT
import Derived.Test.YtopcpgbhmnlcnaaOnce
import Derived.Test.YtopcpgbhmnlcnaaFreeA
import Derived.Test.YtopcpgbhmnlcnaaNumF
namespace Go.Proofs.Ytopcpgbhmnlcnaa
open Go.ChangeShapes Go.WideShapes Go.ChangeAt Go.RowKit Go.Deep

/-- What a lastUses holds (and the map behind it). -/
structure UB (w : World) (b : Nat) (t d s l : Value) (k : Option Value) : Prop where
  c0 : w.cell? ⟨b, 0, none⟩ = some t
  c1 : w.cell? ⟨b, 1, none⟩ = some d
  c2 : w.cell? ⟨b, 2, none⟩ = some s
  c4 : w.cell? ⟨b, 4, none⟩ = some l
  c5 : w.cell? ⟨b, 5, none⟩ = k
  f1 : w.frozen? ⟨b, 1, none⟩ = false
  f2 : w.frozen? ⟨b, 2, none⟩ = false
  f4 : w.frozen? ⟨b, 4, none⟩ = false
theorem UB.block {w w' : World} {b : Nat} {t d s l : Value} {k : Option Value} (h : UB w b t d s l k) (hb : w'.heap[b]? = w.heap[b]?) : UB w' b t d s l k :=
  ⟨(World.cell?_of_block (a := ⟨b, 0, none⟩) hb).trans h.c0, (World.cell?_of_block (a := ⟨b, 1, none⟩) hb).trans h.c1, (World.cell?_of_block (a := ⟨b, 2, none⟩) hb).trans h.c2, (World.cell?_of_block (a := ⟨b, 4, none⟩) hb).trans h.c4, (World.cell?_of_block (a := ⟨b, 5, none⟩) hb).trans h.c5,
    (World.frozen?_of_block (a := ⟨b, 1, none⟩) hb).trans h.f1, (World.frozen?_of_block (a := ⟨b, 2, none⟩) hb).trans h.f2, (World.frozen?_of_block (a := ⟨b, 4, none⟩) hb).trans h.f4⟩
theorem UB.set1 {w : World} {b : Nat} {t d s l : Value} {k : Option Value} (h : UB w b t d s l k) (v : Value) : UB (w.setCell ⟨b, 1, none⟩ v) b t v s l k :=
  ⟨(World.cell?_setCell_other _ ⟨b, 1, none⟩ ⟨b, 0, none⟩ _ (by simp)).trans h.c0, World.cell?_setCell_same w _ _ h.c1, (World.cell?_setCell_other _ ⟨b, 1, none⟩ ⟨b, 2, none⟩ _ (by simp)).trans h.c2, (World.cell?_setCell_other _ ⟨b, 1, none⟩ ⟨b, 4, none⟩ _ (by simp)).trans h.c4, (World.cell?_setCell_other _ ⟨b, 1, none⟩ ⟨b, 5, none⟩ _ (by simp)).trans h.c5, by simp [h.f1], by simp [h.f2], by simp [h.f4]⟩
theorem UB.set2 {w : World} {b : Nat} {t d s l : Value} {k : Option Value} (h : UB w b t d s l k) (v : Value) : UB (w.setCell ⟨b, 2, none⟩ v) b t d v l k :=
  ⟨(World.cell?_setCell_other _ ⟨b, 2, none⟩ ⟨b, 0, none⟩ _ (by simp)).trans h.c0, (World.cell?_setCell_other _ ⟨b, 2, none⟩ ⟨b, 1, none⟩ _ (by simp)).trans h.c1, World.cell?_setCell_same w _ _ h.c2, (World.cell?_setCell_other _ ⟨b, 2, none⟩ ⟨b, 4, none⟩ _ (by simp)).trans h.c4, (World.cell?_setCell_other _ ⟨b, 2, none⟩ ⟨b, 5, none⟩ _ (by simp)).trans h.c5, by simp [h.f1], by simp [h.f2], by simp [h.f4]⟩
theorem UB.set4 {w : World} {b : Nat} {t d s l : Value} {k : Option Value} (h : UB w b t d s l k) (v : Value) : UB (w.setCell ⟨b, 4, none⟩ v) b t d s v k :=
  ⟨(World.cell?_setCell_other _ ⟨b, 4, none⟩ ⟨b, 0, none⟩ _ (by simp)).trans h.c0, (World.cell?_setCell_other _ ⟨b, 4, none⟩ ⟨b, 1, none⟩ _ (by simp)).trans h.c1, (World.cell?_setCell_other _ ⟨b, 4, none⟩ ⟨b, 2, none⟩ _ (by simp)).trans h.c2, World.cell?_setCell_same w _ _ h.c4, (World.cell?_setCell_other _ ⟨b, 4, none⟩ ⟨b, 5, none⟩ _ (by simp)).trans h.c5, by simp [h.f1], by simp [h.f2], by simp [h.f4]⟩
theorem UB.drew {w : World} {b : Nat} {t d s l : Value} {k : Option Value} (h : UB w b t d s l k) : UB w.drew b t d s l k := h.block rfl

def vU (z : Int) : List Value := [.int .i64 z]
theorem vU_len (z : Int) : (vU z).length = 1 := rfl
theorem vU_ct (z : Int) (c : Nat) (h : c < 1) : ictI z c = .lit ((vU z).getD c .nilFunc) := match c, h with | 0, _ => rfl

set_option maxHeartbeats 6400000 in
set_option maxRecDepth 100000 in
theorem impl_compute {lo hi : Nat} {aT : Option Addr} {cT b : Nat} {dn st : Value} {kk : Option Value} (tr : List DTraceStep) (hn : tr.length ≤ 1048576) (hin : ∀ k, k < tr.length → (tr.getD k default).fInputs.length ≤ 1048576) (hok : ∀ k, k < tr.length → okMO (tr.getD k default).fAt ∧ ∀ j, j < (tr.getD k default).fInputs.length → okMO ((tr.getD k default).fInputs.getD j default)) (w : World) (hhi : hi ≤ b) (hb0 : 0 < b) (hb : b < w.heap.size)
    (hs : Sl lo hi w 3 tr.length (fun k => DTraceStep.ct (tr.getD k default)) aT) (hu : UB w b (.slice aT tr.length cT) dn st (.slice none 0 0) kk) :
    Calls Try.prog 41 #[.pointer (some ⟨b, 0, none⟩)] w fun e w' => e = .returned (.tuple #[]) ∧ ∃ a c lo9, w.heap.size ≤ lo9 ∧ UB w' b (.slice aT tr.length cT) dn st (.slice a tr.length c) kk ∧ Own w' (fun y => lo9 ≤ y ∧ y < w'.heap.size) (.sl 1 tr.length (fun i => ictI ((lastL tr tr.length).getD i default))) (.slice a tr.length c) ∧ WritesF (fun y => y = b) w w' := by
  have HS := Lib.hid (fun (W : World) (hW : Below w.heap.size w W) => hs.later hW (show hi ≤ w.heap.size by omega))
  have HB0 := Lib.hid (show Below w.heap.size w (w.alloc (.map #[] 0)) from (Below.refl w.heap.size w).alloc (Nat.le_refl _) _)
  have HU0 := Lib.hid (hu.block (HB0.out.block b hb))
  have HM0 := Lib.hid (show MapF Try.prog 51 3 okMO embO litI 0 (w.alloc (.map #[] 0)) w.heap.size 0 (fun x => lastI tr x 0) from MapF.made w)
  have HIN := Lib.hid hin
  have HOK := Lib.hid hok
  have HZ0 := Lib.hid (show (w.alloc (.map #[] 0)).heap.size = w.heap.size + 1 by simp)
  have g0 : (w.alloc (.map #[] 0)).cell? ⟨b, 0, none⟩ = some (.slice aT tr.length cT) := HU0.out.c0
  clear hs hu hin hok
  have hmm := @run_makeMap Try.prog
  go_enter Try.func41, Try.ntmps41
  go_wp2
  clear hmm g0
  go_loopw [15] (fun i wr => ∃ k n : Nat, k ≤ tr.length ∧ i = .int .i64 (k : Int) ∧ n ≤ k * 1048576 ∧ MapF Try.prog 51 3 okMO embO litI 0 wr w.heap.size n (fun x => lastI tr x k) ∧ WritesF (fun y => y = w.heap.size) (w.alloc (.map #[] 0)) wr) (fun i _ => tr.length - (intOf i).toNat)
  case atStart => exact ⟨0, 0, Nat.zero_le _, rfl, Nat.zero_le _, HM0.out, WritesF.refl _ _⟩
  case round =>
    obtain ⟨k, n, hk, rfl, hnn, hm, hw⟩ := hrel
    obtain ⟨wq, rfl⟩ : ∃ wq : World, wq = wr := ⟨_, rfl⟩
    have HM := Lib.hid hm
    have HW := Lib.hid hw
    have hmlt : w.heap.size < wq.heap.size := hm.lt
    have HBK := Lib.hid (show Below w.heap.size w wq from HB0.out.trans (hw.below (fun x h => by omega) (by rw [HZ0.out]; omega)))
    clear hm hw
    by_cases hlt : k < tr.length
    · obtain ⟨bt, off, rfl, hbl, hbt, hc⟩ := (HS.out _ HBK.out).at k hlt
      obtain ⟨a2, c2, h0, h1, h2, hsin⟩ := DTraceStep.open hc
      have HSI := Lib.hid hsin
      have HIK := Lib.hid (HIN.out k hlt)
      have HOKK := Lib.hid ((HOK.out k hlt).2)
      have HJ0 := Lib.hid (show (fun x => lastI tr x k) = lastJ tr k 0 from funext fun x => (lastJ_zero tr k x).symm)
      have HJL := Lib.hid (show lastJ tr k (tr.getD k default).fInputs.length = (fun x => lastI tr x (k + 1)) from funext fun x => lastJ_all tr k x)
      have HJP := Lib.hid (fun j (hj : j < (tr.getD k default).fInputs.length) => lastJ_put (tr := tr) (k := k) hj)
      have HJO := Lib.hid (fun j (hj : j < (tr.getD k default).fInputs.length) (y : DInstance) (hy : y ≠ (tr.getD k default).fInputs.getD j default) => lastJ_other (tr := tr) (k := k) hj hy)
      rw [HJ0.out] at HM
      have hkI : (0 : Int) ≤ (k : Int) ∧ (k : Int) < (tr.length : Int) := by omega
      clear hc hsin HJ0
      generalize hx : tr.getD k default = x at *
      clear hx
      have HBA := Lib.hid (show Below wq.heap.size wq (wq.alloc (.cells #[.int .i64 x.fAt.fNode, .string x.fAt.fName, .slice a2 x.fInputs.length c2] 53)) from (Below.refl _ _).alloc (Nat.le_refl _) _)
      have HMA := Lib.hid (HM.out.later HBA.out)
      have hil := HIK.out
      go_wp2
      go_loopw [23] (fun i wv => ∃ j : Nat, j ≤ x.fInputs.length ∧ i = .int .i64 (j : Int) ∧ MapF Try.prog 51 3 okMO embO litI 0 wv w.heap.size (n + j) (lastJ tr k j) ∧ WritesF (fun y => y = w.heap.size) wq wv) (fun i _ => x.fInputs.length - (intOf i).toNat)
      case atStart => exact ⟨0, Nat.zero_le _, rfl, HMA.out, (WritesF.refl _ _).later HBA.out⟩
      case round =>
        obtain ⟨j, hj, rfl, hm, hw⟩ := hrel
        have HMJ := Lib.hid hm
        have HWJ := Lib.hid hw
        have HSJ := Lib.hid (HSI.out.frame (w' := wr) fun b off h1 h2 => hw.cellN (p := ⟨b, off, none⟩) (by show b < _; omega) (by show ¬ b = w.heap.size; omega))
        clear hm hw
        by_cases hlj : j < x.fInputs.length
        · obtain ⟨bi, offi, rfl, _, hbi, hc⟩ := HSJ.out.at j hlj
          obtain ⟨hc0, hc1⟩ := DInstance.open hc
          have hjI : (0 : Int) ≤ (j : Int) ∧ (j : Int) < (x.fInputs.length : Int) := by omega
          have HOY := Lib.hid (HOKK.out j hlj)
          have HP1 := Lib.hid (HJP.out j hlj)
          have HP2 := Lib.hid (HJO.out j hlj)
          have hnx : n + j < maxLen := by unfold maxLen; omega
          clear hc
          generalize hy : x.fInputs.getD j default = y at *
          clear hy
          have HMI := Lib.hid (HMJ.out.later (show Below wr.heap.size wr (wr.alloc (.cells #[.int .i64 y.fNode, .string y.fName] 51)) from (Below.refl _ _).alloc (Nat.le_refl _) _))
          have HWI := Lib.hid (HWJ.out.later (show Below wr.heap.size wr (wr.alloc (.cells #[.int .i64 y.fNode, .string y.fName] 51)) from (Below.refl _ _).alloc (Nat.le_refl _) _))
          go_wp2_with (at_mapUpdate; refine wpList_put_mapF _ rfl (.tmp 27) (.tmp 28) (.tmp 29) rfl mapK_OI HMI.out hnx rfl (y := y) HOY.out (u := (k : Int)) (show okMI (k : Int) from ⟨by omega, by omega⟩) rfl rfl (f' := lastJ tr k (j + 1)) HP1.out (fun q _ hq => HP2.out q hq) ?_; intro w9 hm9 hg9)
          have R1 := Lib.hid hm9
          have R2 := Lib.hid (HWI.out.grownN hg9 (fun g hg => by injection hg with e; exact e.symm))
          clear hm9 hg9
          go_wp2
          go_roundw
          case rel => exact ⟨j + 1, by omega, by go_num, R1.out, R2.out⟩
          case measure => simp [intOf]; omega
        · obtain rfl : j = x.fInputs.length := by omega
          have HMK := Lib.hid HMJ.out
          rw [HJL.out] at HMK
          have HWK := Lib.hid (HW.out.trans HWJ.out)
          go_wp2
          go_roundw
          case rel => exact ⟨k + 1, n + x.fInputs.length, by omega, by go_num, by omega, HMK.out, HWK.out⟩
          case measure => simp [intOf]; omega
    · obtain rfl : k = tr.length := by omega
      have HU1 := Lib.hid (HU0.out.block (HW.out.block b (by rw [HZ0.out]; omega) (by show ¬ b = w.heap.size; omega)))
      have g0 := HU1.out.c0
      clear HU0 HM0 HB0 HW HIN
      have HMX := Lib.hid (fun (z : DInstance) => lastI_le tr z tr.length)
      obtain ⟨iq, hi', hz0, hz1, hz2⟩ := info_parts info_Int
      have hszb : b < wq.heap.size := by omega
      generalize hW1 : wq = W1 at *
      clear hW1
      go_wp2
      clear g0
      go_loopw [37] (fun i wr => ∃ (k : Nat) (a : Option Addr) (c : Nat), k ≤ tr.length ∧ i = .int .i64 (k : Int) ∧ UB wr b (.slice aT tr.length cT) dn st (.slice a k c) kk ∧ wr.ownsRow W1.heap.size 3 1 (.slice a k c) k ((lastL tr k).flatMap vU) ∧ WritesF (fun y => y = b) W1 wr) (fun i _ => tr.length - (intOf i).toNat)
      case atStart => exact ⟨0, none, 0, Nat.zero_le _, rfl, HU1.out, grown_nil, WritesF.refl _ _⟩
      case round =>
        obtain ⟨k, a, c, hk, rfl, hub, how, hw⟩ := hrel
        have HUB := Lib.hid hub
        have HOW := Lib.hid how
        have HWR := Lib.hid hw
        have hszr := hw.size
        have HMR := Lib.hid (HM.out.block (hw.block w.heap.size (by omega) (by show ¬ w.heap.size = b; omega)))
        have HSR := Lib.hid ((HS.out _ HBK.out).frame (w' := wr) fun b9 off h1 h2 => hw.cellN (p := ⟨b9, off, none⟩) (by show b9 < _; omega) (by show ¬ b9 = b; omega))
        clear hub how hw
        by_cases hlt : k < tr.length
        · obtain ⟨bt, off, rfl, hbl, hbt, hc⟩ := HSR.out.at k hlt
          obtain ⟨a2, c2, h0, h1, h2, hsin⟩ := DTraceStep.open hc
          have hkI : (0 : Int) ≤ (k : Int) ∧ (k : Int) < (tr.length : Int) := by omega
          have HOX := Lib.hid (HOK.out k hlt).1
          have HLU := Lib.hid (show lastU tr k = max (k : Int) (lastI tr (tr.getD k default).fAt tr.length) from rfl)
          have HLS := Lib.hid (show (lastL tr (k + 1)).flatMap vU = (lastL tr k).flatMap vU ++ [.int .i64 (lastU tr k)] from by rw [lastL_step, List.flatMap_append]; rfl)
          clear hc hsin
          generalize hx : tr.getD k default = x at *
          clear hx
          go_wp2
          have HBA := Lib.hid (show Below wr.heap.size wr (wr.alloc (.cells #[.int .i64 x.fAt.fNode, .string x.fAt.fName, .slice a2 x.fInputs.length c2] 53)) from (Below.refl _ _).alloc (Nat.le_refl _) _)
          have HT8 := Lib.hid (show (wr.alloc (.cells #[.int .i64 x.fAt.fNode, .string x.fAt.fName, .slice a2 x.fInputs.length c2] 53)).heap[wr.heap.size]? = some (.cells #[.int .i64 x.fAt.fNode, .string x.fAt.fName, .slice a2 x.fInputs.length c2] 53) from blk_new rfl)
          have HZ2 := Lib.hid (show (wr.alloc (.cells #[.int .i64 x.fAt.fNode, .string x.fAt.fName, .slice a2 x.fInputs.length c2] 53)).heap.size = wr.heap.size + 1 by simp)
          generalize hW2 : wr.alloc (.cells #[.int .i64 x.fAt.fNode, .string x.fAt.fName, .slice a2 x.fInputs.length c2] 53) = W2 at *
          clear hW2
          have hz2' : W2.heap.size = wr.heap.size + 1 := HZ2.out
          have HUB2 := Lib.hid (HUB.out.block (HBA.out.block b (by omega)))
          have HOW2 := Lib.hid (ownsRow_below HOW.out HBA.out)
          have HMR2 := Lib.hid (HMR.out.later HBA.out)
          have HLTB := Lib.hid (show b < W2.heap.size by omega)
          have HLTM := Lib.hid (show w.heap.size < W2.heap.size by omega)
          have HLT8 := Lib.hid (show wr.heap.size < W2.heap.size by omega)
          have HGL := Lib.hid (show rowAt (.slice a k c) 0 < W2.heap.size from rowAt_lt (by omega) fun z hz => (HOW2.out.lt z hz).2)
          have hgn : rowAt (.slice a k c) 0 ≠ b := rowAt_ne (by omega) fun z hz => by have := (HOW2.out.lt z hz).1; omega
          have HMXI := Lib.hid (HMX.out x.fAt)
          clear h0 h1 h2 HUB HOW HMR HSR hz2'
          generalize (lastL tr k).flatMap vU = ls at *
          generalize hl1 : (lastL tr (k + 1)).flatMap vU = ls1 at HLS
          have HL1 := Lib.hid hl1
          clear hl1
          generalize lastU tr k = lu at *
          refine wp_region_freeK [([], .none, [12]), ([], .none, []), ([1], .none, []), ([2], .none, []), ([3], .none, []), ([], .none, []), ([], .none, []), ([], .none, []), ([7], .none, []), ([6, 8], .none, []), ([5, 9], .none, []), ([10], .none, []), ([4, 10, 11], .old, []), ([0], .none, [12]), ([13], .none, [12]), ([12, 14], .old, [12])] [0, 1, 2, 3, 4, 5, 6, 7, 8, 9, 10, 11, 12, 13, 14, 15] [12, 15] (fun _ => False) (fun _ => True) (fun jq9 => match jq9 with | 12 => rowAt (Value.slice a k c) 0 | 15 => b | _ => 0) (fun jq9 V L H wx => match jq9 with | 0 => V 0 = .pointer (some ⟨b, 0, none⟩) | 1 => V 1 = .pointer (some ⟨b, 0, none⟩) | 2 => V 2 = .pointer (some ⟨b, 0, none⟩) | 3 => V 3 = .pointer (some ⟨b, 4, none⟩) | 4 => V 4 = .slice a k c | 5 => V 5 = .int .i64 (k : Int) | 6 => V 6 = .map (some w.heap.size) | 7 => V 7 = .pointer (some ⟨wr.heap.size, 0, none⟩) | 8 => V 8 = .agg #[.int .i64 x.fAt.fNode, .string x.fAt.fName] | 9 => V 9 = .int .i64 (lastI tr x.fAt tr.length) | 10 => V 10 = .int .i64 lu | 11 => V 11 = .slice (some ⟨L, 0, none⟩) 1 1 ∧ L < H ∧ wx.heap[L]? = some (.cells #[V 10] 3) | 12 => wx.ownsRow (W1.heap.size) 3 1 (V 12) (k + 1) (ls ++ [V 10]) ∧ (∀ g, (V 12).ownBlock = some g → (g = rowAt (Value.slice a k c) 0 ∧ ((Value.slice a k c)).ownBlock = some g) ∨ (L ≤ g ∧ g < H)) ∧ (((Value.slice a k c)).ownBlock ≠ some (rowAt (Value.slice a k c) 0) → wx.heap[rowAt (Value.slice a k c) 0]? = (W2).heap[rowAt (Value.slice a k c) 0]?) | 13 => V 13 = .pointer (some ⟨b, 0, none⟩) | 14 => V 14 = .pointer (some ⟨b, 4, none⟩) | 15 => (wx.heap[b]? = (World.setCell W2 ⟨b, 4, none⟩ (V 12)).heap[b]?) | _ => True) (by kernel_rfl) (by kernel_rfl) ?obs (fun _ h => h.elim) trivial (fun _ _ _ _ _ => trivial) ?loc ?lasts ?walk
          case obs =>
            exact (And.intro (And.intro HGL.out (fun h => h)) (And.intro (And.intro hgn (trivial)) (And.intro (And.intro HLTB.out (fun h => h)) (And.intro (trivial) (trivial)))))
          case loc =>
            intro k V V' L H wx h0 h1 hG
            match k with
            | 0 =>
              try dsimp only at hG ⊢
              rw [← h0]
              exact hG
            | 1 =>
              try dsimp only at hG ⊢
              rw [← h0]
              exact hG
            | 2 =>
              try dsimp only at hG ⊢
              rw [← h0]
              exact hG
            | 3 =>
              try dsimp only at hG ⊢
              rw [← h0]
              exact hG
            | 4 =>
              try dsimp only at hG ⊢
              rw [← h0]
              exact hG
            | 5 =>
              try dsimp only at hG ⊢
              rw [← h0]
              exact hG
            | 6 =>
              try dsimp only at hG ⊢
              rw [← h0]
              exact hG
            | 7 =>
              try dsimp only at hG ⊢
              rw [← h0]
              exact hG
            | 8 =>
              try dsimp only at hG ⊢
              rw [← h0]
              exact hG
            | 9 =>
              try dsimp only at hG ⊢
              rw [← h0]
              exact hG
            | 10 =>
              try dsimp only at hG ⊢
              rw [← h0]
              exact hG
            | 11 =>
              have e10 := h1 10 (by decide)
              try dsimp only at hG ⊢
              rw [← h0, ← e10]
              exact hG
            | 12 =>
              have e10 := h1 10 (by decide)
              try dsimp only at hG ⊢
              rw [← h0, ← e10]
              exact hG
            | 13 =>
              try dsimp only at hG ⊢
              rw [← h0]
              exact hG
            | 14 =>
              try dsimp only at hG ⊢
              rw [← h0]
              exact hG
            | 15 =>
              have e12 := h1 12 (by decide)
              try dsimp only at hG ⊢
              rw [← e12]
              exact hG
            | n + 16 => trivial
          case lasts =>
            intro i hi V L H wx wy hB hH hk
            match i, hi with
            | 0, _ => exact fun h => h
            | 1, _ => exact fun h => h
            | 2, _ => exact fun h => h
            | 3, _ => exact fun h => h
            | 4, _ => exact fun h => h
            | 5, _ => exact fun h => h
            | 6, _ => exact fun h => h
            | 7, _ => exact fun h => h
            | 8, _ => exact fun h => h
            | 9, _ => exact fun h => h
            | 10, _ => exact fun h => h
            | 11, _ => exact fun h => ⟨h.1, h.2.1, (hk.2 L (.inr (.inl ⟨Nat.le_refl _, h.2.1⟩)) (Nat.lt_of_lt_of_le h.2.1 hH)).trans h.2.2⟩
            | 12, _ => exact fun h => ⟨ownsRow_keptAt h.1 fun g hg => hk.2 g ((h.2.1 g hg).elim (fun e => .inr (.inr ⟨rfl, e.1⟩)) fun e => .inr (.inl e)) (h.1.lt g hg).2, h.2.1, fun hne => (hk.2 (rowAt (Value.slice a k c) 0) (.inr (.inr ⟨rfl, rfl⟩)) (Nat.lt_of_lt_of_le HGL.out hB)).trans (h.2.2 hne)⟩
            | 13, _ => exact fun h => h
            | 14, _ => exact fun h => h
            | 15, _ => exact fun h => (hk.2 (b) (.inr (.inr ⟨rfl, rfl⟩)) (Nat.lt_of_lt_of_le HLTB.out hB)).trans h
            | n + 16, hn => exact absurd hn (by simp)
          case walk =>
            simp (maxSteps := 4000000) only [freeK, Nat.reduceAdd, Act.put, List.setIfInBounds_toArray, List.set_cons_succ, List.set_cons_zero]
            refine ⟨?_, ?_, ?_, ?_, ?_, ?_, ?_, ?_, ?_, ?_, ?_, ?_, ?_, ?_, ?_, ?_, ?_⟩
            · intro V L H wq hw hk hj hd
              clear hd
              go_wp2_with fail
              exact freePost _ rfl ⟨⟨WritesF.refl _ _, hj⟩, upd_self⟩
            · intro V L H wq hw hk hj hd
              clear hd
              go_wp2_with fail
              exact freePost _ rfl ⟨⟨WritesF.refl _ _, hj⟩, upd_self⟩
            · intro V L H wq hw hk hj hd
              obtain ⟨⟨hL1, hM1, hH1, hv1⟩, -⟩ := hd
              rw [hv1]
              have HV1 := Lib.hid hv1
              clear hv1
              go_wp2_with fail
              exact freePost _ rfl ⟨⟨WritesF.refl _ _, hj⟩, upd_self⟩
            · intro V L H wq hw hk hj hd
              obtain ⟨⟨hL2, hM2, hH2, hv2⟩, -⟩ := hd
              rw [hv2]
              have HV2 := Lib.hid hv2
              clear hv2
              go_wp2_with fail
              exact freePost _ rfl ⟨⟨WritesF.refl _ _, hj⟩, upd_self⟩
            · intro V L H wq hw hk hj hd
              obtain ⟨⟨hL3, hM3, hH3, hv3⟩, -⟩ := hd
              rw [hv3]
              have HV3 := Lib.hid hv3
              clear hv3
              have r4 : wq.cell? ⟨b, 4, none⟩ = some (.slice a k c) := (hk.cell (p := ⟨b, 4, none⟩) ⟨HLTB.out, id, trivial⟩ HLTB.out).trans (HUB2.out.c4)
              go_wp2_with fail
              exact freePost _ rfl ⟨⟨WritesF.refl _ _, hj⟩, upd_self⟩
            · intro V L H wq hw hk hj hd
              clear hd
              go_wp2_with fail
              exact freePost _ rfl ⟨⟨WritesF.refl _ _, hj⟩, upd_self⟩
            · intro V L H wq hw hk hj hd
              clear hd
              go_wp2_with fail
              exact freePost _ rfl ⟨⟨WritesF.refl _ _, hj⟩, upd_self⟩
            · intro V L H wq hw hk hj hd
              clear hd
              go_wp2_with fail
              exact freePost _ rfl ⟨⟨WritesF.refl _ _, hj⟩, upd_self⟩
            · intro V L H wq hw hk hj hd
              obtain ⟨⟨hL7, hM7, hH7, hv7⟩, -⟩ := hd
              rw [hv7]
              have HV7 := Lib.hid hv7
              clear hv7
              have r0 : wq.cell? ⟨wr.heap.size, 0, none⟩ = some (.int .i64 x.fAt.fNode) := (hk.cell (p := ⟨wr.heap.size, 0, none⟩) ⟨HLT8.out, id, trivial⟩ HLT8.out).trans (pblk_cell HT8.out rfl)
              have r1 : wq.cell? ⟨wr.heap.size, 1, none⟩ = some (.string x.fAt.fName) := (hk.cell (p := ⟨wr.heap.size, 1, none⟩) ⟨HLT8.out, id, trivial⟩ HLT8.out).trans (pblk_cell HT8.out rfl)
              go_wp2_with fail
              exact freePost _ rfl ⟨⟨WritesF.refl _ _, hj⟩, upd_self⟩
            · intro V L H wq hw hk hj hd
              obtain ⟨⟨hL6, hM6, hH6, hv6⟩, ⟨hL8, hM8, hH8, hv8⟩, -⟩ := hd
              rw [hv6, hv8]
              have HV6 := Lib.hid hv6
              have HV8 := Lib.hid hv8
              clear hv6 hv8
              go_wp2_with (refine wpList_look_mapF _ rfl (.tmp 48) (.tmp 50) rfl mapK_OI (HMR2.out.block (hk.2 (w.heap.size) ⟨HLTM.out, fun h => h, trivial⟩ HLTM.out)) rfl (y := x.fAt) HOX.out rfl ?_)
              exact freePost _ rfl ⟨⟨WritesF.refl _ _, hj⟩, upd_self⟩
            · intro V L H wq hw hk hj hd
              obtain ⟨⟨hL5, hM5, hH5, hv5⟩, ⟨hL9, hM9, hH9, hv9⟩, -⟩ := hd
              rw [hv5, hv9]
              have HV5 := Lib.hid hv5
              have HV9 := Lib.hid hv9
              clear hv5 hv9
              go_wp2_with fail
              all_goals exact freePost _ rfl ⟨⟨WritesF.refl _ _, hj⟩, upd_self.trans (congrArg (Value.int .i64) (by have := HLU.out; omega))⟩
            · intro V L H wq hw hk hj hd
              obtain ⟨⟨hL10, hM10, hH10, hv10⟩, -⟩ := hd
              rw [hv10]
              have HV10 := Lib.hid hv10
              clear hv10
              go_wp2_with fail
              refine freePost _ rfl ⟨⟨(WritesF.refl _ _).later ((Below.refl _ _).alloc (Nat.le_refl _) _), trivial⟩, ?_⟩
              exact ⟨upd_self, by simp, by rw [upd_ne (by decide), HV10.out]; exact blk_new rfl⟩
            · intro V L H wq hw hk hj hd
              obtain ⟨⟨hL4, hM4, hH4, hv4⟩, ⟨hL10, hM10, hH10, hv10⟩, ⟨hL11, hM11, hH11, hst11_⟩, -⟩ := hd
              rw [hv4, hv10]
              have HV4 := Lib.hid hv4
              have HV10 := Lib.hid hv10
              clear hv4 hv10
              obtain ⟨hv11, hlt11, hc11⟩ := hst11_
              rw [HV10.out] at hc11
              rw [hv11]
              have hown1 : wq.ownsRow (W1.heap.size) 3 1 ((Value.slice a k c)) (k) (ls) := ownsRow_keptAt HOW2.out fun g hg => hk.2 g ⟨(HOW2.out.lt g hg).2, fun h => h, trivial⟩ (HOW2.out.lt g hg).2
              have HOWN1 := Lib.hid hown1
              clear hown1
              have hnews := cells_at hc11
              have HNEWS := Lib.hid hnews
              clear hnews hc11
              have hbw1 : (W1.heap.size) ≤ wq.heap.size := by have := hk.1; have := HLT8.out; omega
              go_wp2_with (at_builtin; refine wpList_append_at rfl (.tmp 46) (.tmp 53) 30 rfl (W1.heap.size) 3 iq (.int .i64 0) 1 8 Try.underlying30 hi' hz0 hz1 hz2 rfl (by decide) _ _ _ rfl HOWN1.out ⟨L 11, 0, none⟩ 1 1 [.int .i64 lu] rfl rfl HNEWS.out (by intro u hu; simp at hu; rcases hu with rfl <;> rfl) (by unfold maxLen; omega) (by omega) hbw1 ?_; intro v' w2 hown' hgrow hat)
              refine freePost v' rfl ⟨touches_grown hgrow (fun x h => rowAt_of x h), ?_⟩
              refine ⟨by rw [upd_self, upd_ne (by decide), HV10.out]; exact hown', fun g hg => ?_, fun hne => (hgrow.block (rowAt (Value.slice a k c) 0) (Nat.lt_of_lt_of_le HGL.out hk.1) (fun e => hne e.symm)).trans (hk.2 (rowAt (Value.slice a k c) 0) ⟨HGL.out, fun h => h, trivial⟩ HGL.out)⟩
              rw [upd_self] at hg
              rcases hat with e | e
              · left; exact ⟨(fun x h => rowAt_of x h) g (e ▸ hg), e ▸ hg⟩
              · right; rw [e] at hg; simp only [Option.some.injEq] at hg; have := (hown'.lt g (by rw [e, hg])).2; omega
            · intro V L H wq hw hk hj hd
              obtain ⟨⟨hL0, hM0, hH0, hv0⟩, -⟩ := hd
              rw [hv0]
              have HV0 := Lib.hid hv0
              clear hv0
              go_wp2_with fail
              exact freePost _ rfl ⟨⟨WritesF.refl _ _, hj⟩, upd_self⟩
            · intro V L H wq hw hk hj hd
              obtain ⟨⟨hL13, hM13, hH13, hv13⟩, -⟩ := hd
              rw [hv13]
              have HV13 := Lib.hid hv13
              clear hv13
              go_wp2_with fail
              exact freePost _ rfl ⟨⟨WritesF.refl _ _, hj⟩, upd_self⟩
            · intro V L H wq hw hk hj hd
              obtain ⟨⟨hL12, hM12, hH12, hst12_⟩, ⟨hL14, hM14, hH14, hv14⟩, -⟩ := hd
              rw [hv14]
              have HV14 := Lib.hid hv14
              clear hv14
              obtain ⟨hownS, -⟩ := hst12_
              obtain ⟨aS, cS, hvS⟩ := own_form hownS
              rw [hvS]
              clear hownS
              have hbe : wq.heap[b]? = W2.heap[b]? := hk.2 b ⟨HLTB.out, fun h => h, ⟨Ne.symm hgn, trivial⟩⟩ HLTB.out
              have hc_0 := (World.cell?_of_block (a := ⟨b, 4, none⟩) hbe).trans HUB2.out.c4
              have hf_0 := (World.frozen?_of_block (a := ⟨b, 4, none⟩) hbe).trans HUB2.out.f4
              have HBE := Lib.hid hbe
              clear hbe
              go_wp2_with fail
              exact freePost undef rfl ⟨Touches.put (L := b) (H := b + 1) Touches.refl (p := ⟨b, 4, none⟩) ⟨Nat.le_refl _, Nat.lt_succ_self _⟩ _, by show _ = (World.setCell W2 ⟨b, 4, none⟩ (upd V 15 undef 12)).heap[b]?; rw [upd_ne (by decide)]; exact (by rw [hvS]; exact heap_set_sameR HBE.out)⟩
            · intro V L H wq hw hj hd hap hdead
              obtain ⟨⟨hL0, hM0, hH0, hv0⟩, ⟨hL1, hM1, hH1, hv1⟩, ⟨hL2, hM2, hH2, hv2⟩, ⟨hL3, hM3, hH3, hv3⟩, ⟨hL4, hM4, hH4, hv4⟩, ⟨hL5, hM5, hH5, hv5⟩, ⟨hL6, hM6, hH6, hv6⟩, ⟨hL7, hM7, hH7, hv7⟩, ⟨hL8, hM8, hH8, hv8⟩, ⟨hL9, hM9, hH9, hv9⟩, ⟨hL10, hM10, hH10, hv10⟩, ⟨hL11, hM11, hH11, hst11_⟩, ⟨hL12, hM12, hH12, hst12_⟩, ⟨hL13, hM13, hH13, hv13⟩, ⟨hL14, hM14, hH14, hv14⟩, ⟨hL15, hM15, hH15, hst15_⟩, -⟩ := hd
              obtain ⟨hv11, -, -⟩ := hst11_  
              obtain ⟨hown12, hrow12, hgb12⟩ := hst12_  
              rw [hv10] at hown12
              obtain ⟨vA12, hv12⟩ : ∃ z, V 12 = z := ⟨_, rfl⟩
              rw [hv12] at hown12 hrow12
              have pb15 := hst15_
              rw [hv12] at pb15
              rw [hv0, hv1, hv2, hv3, hv4, hv5, hv6, hv7, hv8, hv9, hv10, hv11, hv12, hv13, hv14]
              clear hv0 hv1 hv2 hv3 hv4 hv5 hv6 hv7 hv8 hv9 hv10 hv11 hv12 hv13 hv14
              obtain ⟨aV, capV, rfl⟩ := own_form hown12
              have hq1 : ∀ z, z < W2.heap.size → z ≠ b → (Value.slice a k c).ownBlock ≠ some z → wq.heap[z]? = W2.heap[z]? := fun z hz hne hnb => by
                by_cases hbg : z = rowAt (Value.slice a k c) 0
                · subst hbg
                  exact hgb12 hnb
                · exact hw.block z hz (fun hfa => hfa.elim id (fun h => h ⟨hbg, hne, trivial⟩))
              have R1 := Lib.hid ((HUB2.out.set4 (.slice aV (k + 1) capV)).block pb15)
              have R2 := Lib.hid hown12
              rw [← HLS.out] at R2
              have R3 := Lib.hid (show WritesF (fun y => y = b) W1 wq from ⟨hw.os.trans (HBA.out.os.trans HWR.out.os), hw.tape.trans (HBA.out.tape.trans HWR.out.tape), hw.output.trans (HBA.out.output.trans HWR.out.output), Nat.le_trans hszr (Nat.le_trans HBA.out.size hw.size), fun z hz hne => (hq1 z (by have := HZ2.out; omega) hne (fun e => by have := (HOW2.out.lt z e).1; omega)).trans ((HBA.out.block z (by omega)).trans (HWR.out.block z hz hne))⟩)
              clear hq1 hown12 hrow12 hgb12 pb15 hw hj hap hdead
              go_wp2
              go_roundw
              case rel => exact ⟨k + 1, aV, capV, by omega, by go_num, R1.out, by rw [HL1.out]; exact R2.out, R3.out⟩
              case measure => simp [intOf]; omega
        · obtain rfl : k = tr.length := by omega
          obtain ⟨a', c', he, ho⟩ := grown_own (l := lastL tr tr.length) (ct := ictI) (by decide) vU_len vU_ct (by rw [lastL_len]; exact HOW.out)
          rw [lastL_len] at he ho
          cases he
          have HO := Lib.hid ho
          clear ho
          go_wp2
          go_end0
          exact ⟨rfl, a, c, W1.heap.size, HBK.out.size, HUB.out, HO.out, HWR.out.of_below HBK.out⟩
end Go.Proofs.Ytopcpgbhmnlcnaa
