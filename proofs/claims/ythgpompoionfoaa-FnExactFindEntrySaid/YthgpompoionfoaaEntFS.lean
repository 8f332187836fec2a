/-
  FindEntry of the model: the entry whole, in memory of the call's own.
-/
import Derived.Test.YthgpompoionfoaaEntOwn
namespace Go.Proofs.Ythgpompoionfoaa
open Go.ChangeShapes Go.WideShapes Go.ChangeAt Go.RowKit Go.Deep

/-- An entry of the call's own, and whether there is one. -/
def EntAns (B : Nat) (y : DEntry) (b : Bool) (w' : World) (e : Ending) : Prop := ∃ (a6 a7 a8 : Option Addr) (c6 c7 c8 : Nat), e = .returned (.tuple #[.agg #[.int .i64 y.fAt.fNode, .string y.fAt.fName, .int .i64 y.fValue, .int .i64 y.fOwner, .int .i64 y.fLiteral, .string y.fRule, .slice a6 y.fIds.length c6, .slice a7 y.fShape.length c7, .slice a8 y.fReads.length c8], .bool b]) ∧ OwnR w' (fun z => B ≤ z ∧ z < w'.heap.size) 9 y.ct (fun j => [.int .i64 y.fAt.fNode, .string y.fAt.fName, .int .i64 y.fValue, .int .i64 y.fOwner, .int .i64 y.fLiteral, .string y.fRule, .slice a6 y.fIds.length c6, .slice a7 y.fShape.length c7, .slice a8 y.fReads.length c8].getD j .nilFunc)
theorem noEnt_own (w : World) (F : Nat → Prop) : OwnR w F 9 noEnt.ct (fun j => [.int .i64 0, .string ⟨#[]⟩, .int .i64 0, .int .i64 0, .int .i64 0, .string ⟨#[]⟩, .slice none 0 0, .slice none 0 0, .slice none 0 0].getD j .nilFunc) := by
  refine OwnR.append (F1 := F) (F2 := fun _ => False) (m := 6) (n := 3) ?_ ?_ (fun _ _ h => h) (fun _ h => h) (fun _ h => h.elim)
  · refine OwnR.lits (F := F) fun j hj => ?_
    match j, hj with
    | 0, _ | 1, _ | 2, _ | 3, _ | 4, _ | 5, _ => rfl
  · refine OwnR.append (F1 := fun _ => False) (F2 := fun _ => False) (m := 1) (n := 2) (OwnR.one (.nil _ _ _ _ _)) ?_ (fun _ h _ => h) (fun _ h => h) (fun _ h => h)
    exact OwnR.append (F1 := fun _ => False) (F2 := fun _ => False) (m := 1) (n := 1) (OwnR.one (.nil _ _ _ _ _)) (OwnR.one (.nil _ _ _ _ _)) (fun _ h _ => h) (fun _ h => h) (fun _ h => h)

set_option maxHeartbeats 12800000 in
set_option maxRecDepth 100000 in
theorem spec_FindEntryO {lo hi n1 c0 c1 : Nat} {a0 a1 : Option Addr} (l : List DEntry) (hzl : lsz DEntry.sz l ≤ 1048576) (x : DInstance) (w : World) (hhi : hi ≤ w.heap.size) (hs : Sl lo hi w 9 l.length (fun k => DEntry.ct (l.getD k default)) a0) :
    Calls Try.prog 6 #[.agg #[.slice a0 l.length c0, .slice a1 n1 c1], .agg #[.int .i64 x.fNode, .string x.fName]] w fun e w' => EntAns w.heap.size (entE l x) (entB l x) w' e ∧ Below w.heap.size w w' := by
  have hn : l.length ≤ 1048576 := by unfold lsz at hzl; omega
  have HB := Lib.hid (show Below w.heap.size w (((w.alloc (.cells #[.slice a0 l.length c0, .slice a1 n1 c1] 40)).alloc (.cells #[.int .i64 x.fNode, .string x.fName] 30)).alloc (.cells #[.int .i64 0, .string ⟨#[]⟩, .int .i64 0, .int .i64 0, .int .i64 0, .string ⟨#[]⟩, .slice none 0 0, .slice none 0 0, .slice none 0 0] 34)) from (((Below.refl w.heap.size w).alloc (Nat.le_refl _) (.cells #[.slice a0 l.length c0, .slice a1 n1 c1] 40)).alloc (by simp) (.cells #[.int .i64 x.fNode, .string x.fName] 30)).alloc (by simp <;> omega) (.cells #[.int .i64 0, .string ⟨#[]⟩, .int .i64 0, .int .i64 0, .int .i64 0, .string ⟨#[]⟩, .slice none 0 0, .slice none 0 0, .slice none 0 0] 34))
  have HBM := Lib.hid (show (((w.alloc (.cells #[.slice a0 l.length c0, .slice a1 n1 c1] 40)).alloc (.cells #[.int .i64 x.fNode, .string x.fName] 30)).alloc (.cells #[.int .i64 0, .string ⟨#[]⟩, .int .i64 0, .int .i64 0, .int .i64 0, .string ⟨#[]⟩, .slice none 0 0, .slice none 0 0, .slice none 0 0] 34)).heap[w.heap.size]? = some (.cells #[.slice a0 l.length c0, .slice a1 n1 c1] 40) from blk_alloc (by simp <;> omega) (blk_alloc (by simp) (blk_new rfl)))
  have HBX := Lib.hid (show (((w.alloc (.cells #[.slice a0 l.length c0, .slice a1 n1 c1] 40)).alloc (.cells #[.int .i64 x.fNode, .string x.fName] 30)).alloc (.cells #[.int .i64 0, .string ⟨#[]⟩, .int .i64 0, .int .i64 0, .int .i64 0, .string ⟨#[]⟩, .slice none 0 0, .slice none 0 0, .slice none 0 0] 34)).heap[w.heap.size + 1]? = some (.cells #[.int .i64 x.fNode, .string x.fName] 30) from blk_alloc (by simp <;> omega) (blk_new (by simp)))
  have HBZ := Lib.hid (show (((w.alloc (.cells #[.slice a0 l.length c0, .slice a1 n1 c1] 40)).alloc (.cells #[.int .i64 x.fNode, .string x.fName] 30)).alloc (.cells #[.int .i64 0, .string ⟨#[]⟩, .int .i64 0, .int .i64 0, .int .i64 0, .string ⟨#[]⟩, .slice none 0 0, .slice none 0 0, .slice none 0 0] 34)).heap[w.heap.size + 2]? = some (.cells #[.int .i64 0, .string ⟨#[]⟩, .int .i64 0, .int .i64 0, .int .i64 0, .string ⟨#[]⟩, .slice none 0 0, .slice none 0 0, .slice none 0 0] 34) from blk_new (by simp))
  have HZ := Lib.hid (show (((w.alloc (.cells #[.slice a0 l.length c0, .slice a1 n1 c1] 40)).alloc (.cells #[.int .i64 x.fNode, .string x.fName] 30)).alloc (.cells #[.int .i64 0, .string ⟨#[]⟩, .int .i64 0, .int .i64 0, .int .i64 0, .string ⟨#[]⟩, .slice none 0 0, .slice none 0 0, .slice none 0 0] 34)).heap.size = w.heap.size + 3 by simp)
  have HS := Lib.hid (fun (W : World) (hW : Below w.heap.size w W) => hs.later hW hhi)
  have HHI := Lib.hid hhi
  have HLN := Lib.hid (fun k (hk : k < l.length) => ent_lens hzl hk)
  have HE1 := Lib.hid (fun (k : Nat) (h : idxI (PEnt x) l = k) => And.intro (entE_at h) (entB_at h))
  have HE0 := Lib.hid (fun (h : idxI (PEnt x) l = -1) => And.intro (entE_none h) (entB_none h))
  clear hs hhi hzl
  go_enter Try.func6, Try.ntmps6
  go_wp2
  generalize (((w.alloc (.cells #[.slice a0 l.length c0, .slice a1 n1 c1] 40)).alloc (.cells #[.int .i64 x.fNode, .string x.fName] 30)).alloc (.cells #[.int .i64 0, .string ⟨#[]⟩, .int .i64 0, .int .i64 0, .int .i64 0, .string ⟨#[]⟩, .slice none 0 0, .slice none 0 0, .slice none 0 0] 34)) = w0 at *
  go_loopw [6] (fun i wr => ∃ k : Nat, k ≤ l.length ∧ i = .int .i64 (k : Int) ∧ noneBelow (PEnt x) l k ∧ Below w0.heap.size w0 wr) (fun i _ => l.length - (intOf i).toNat)
  case atStart => exact ⟨0, Nat.zero_le _, rfl, noneBelow_zero _ _, Below.refl _ _⟩
  case round =>
    obtain ⟨k, hk, rfl, hno, hb⟩ := hrel
    have HN := Lib.hid hno
    have HBW := Lib.hid hb
    have HBT := Lib.hid (HB.out.trans (hb.mono HB.out.size))
    have hzw : w.heap.size + 3 ≤ wr.heap.size := HZ.out ▸ hb.size
    have HMW := Lib.hid ((hb.block w.heap.size (by rw [HZ.out]; omega)).trans HBM.out)
    have HXW := Lib.hid ((hb.block (w.heap.size + 1) (by rw [HZ.out]; omega)).trans HBX.out)
    have HZW := Lib.hid ((hb.block (w.heap.size + 2) (by rw [HZ.out]; omega)).trans HBZ.out)
    clear hno hb
    have x0 : wr.cell? ⟨w.heap.size + 1, 0, none⟩ = some (.int .i64 x.fNode) := pblk_cell HXW.out rfl
    have x1 : wr.cell? ⟨w.heap.size + 1, 1, none⟩ = some (.string x.fName) := pblk_cell HXW.out rfl
    have m0 : wr.cell? ⟨w.heap.size, 0, none⟩ = some (.slice a0 l.length c0) := pblk_cell HMW.out rfl
    by_cases hlt : k < l.length
    · have hkI : (0 : Int) ≤ (k : Int) ∧ (k : Int) < (l.length : Int) := by omega
      obtain ⟨b, off, rfl, _, hbh, hc⟩ := (HS.out wr HBT.out).at k hlt
      obtain ⟨a6, c6, a7, c7, a8, c8, hc0, hc1, hc2, hc3, hc4, hc5, hc6, hc7, hc8, hs6, hs7, hs8⟩ := DEntry.open hc
      have HL3 := Lib.hid (HLN.out k hlt)
      clear hc HLN
      by_cases h1 : (l.getD k default).fAt.fNode = x.fNode
      · by_cases h2 : (l.getD k default).fAt.fName = x.fName
        · have HIX := Lib.hid (HE1.out k (idxI_at (p := PEnt x) hlt (PEnt_yes h1 h2) HN.out))
          have HC := Lib.hid (fun (W : World) (hW : Below wr.heap.size wr W) => spec_l36EntryO (c6 := c6) (c7 := c7) (c8 := c8) (l.getD k default) HL3.out.1 HL3.out.2.1 HL3.out.2.2 W (Nat.le_trans HHI.out (Nat.le_trans HBT.out.size hW.size)) (hs6.later hW (Nat.le_trans HHI.out HBT.out.size)) (hs7.later hW (Nat.le_trans HHI.out HBT.out.size)) (hs8.later hW (Nat.le_trans HHI.out HBT.out.size)))
          rw [h1] at hc0 HC
          rw [h2] at hc1 HC
          clear h1 h2 hs6 hs7 hs8 HL3
          generalize l.getD k default = y at *
          go_wp2_with fail
          go_quiet (fail)
          go_wp2_with fail
          refine (HC.out _ (by repeat (first | (with_reducible exact Below.refl _ _) | (with_reducible apply Below.drew) | (with_reducible refine below_drewN ?_ _)))).mono ?_
          rintro e w1 ⟨⟨b6, b7, b8, d6, d7, d8, rfl, hown⟩, hb1⟩
          have HOW := Lib.hid (hown.sub (F' := fun z => wr.heap.size ≤ z ∧ z < w1.heap.size) fun z hz => hz)
          have hszw : wr.heap.size ≤ w1.heap.size := hb1.size
          have HZ1 := Lib.hid ((hb1.block (w.heap.size + 2) (show w.heap.size + 2 < wr.heap.size by omega)).trans (show _ = some (.cells #[.int .i64 0, .string ⟨#[]⟩, .int .i64 0, .int .i64 0, .int .i64 0, .string ⟨#[]⟩, .slice none 0 0, .slice none 0 0, .slice none 0 0] 34) from HZW.out))
          have HB1 := Lib.hid (HBT.out.trans ((Below.trans (show Below wr.heap.size wr _ from by repeat (first | (with_reducible exact Below.refl _ _) | (with_reducible apply Below.drew) | (with_reducible refine below_drewN ?_ _))) (hb1.mono (Nat.le_refl _))).mono HBT.out.size))
          clear hown hb1 HC hc0 hc1 hc2 hc3 hc4 hc5 hc6 hc7 hc8 x0 x1 m0
          go_wp2_with (refine wpList_store_rowTo rfl 34 (.tmp 4) (.tmp 27) rfl rfl (w.heap.size + 2) _ rfl rfl 34 _ HZ1.out (by kernel_rfl) rfl (by simp [Value.oneCell']) ?_)
          refine bodyPost_ret (v := .tuple #[.agg #[.int .i64 y.fAt.fNode, .string y.fAt.fName, .int .i64 y.fValue, .int .i64 y.fOwner, .int .i64 y.fLiteral, .string y.fRule, .slice b6 y.fIds.length d6, .slice b7 y.fShape.length d7, .slice b8 y.fReads.length d8], .bool true]) (results_cell_tmp Try.results6 _ _ (w.heap.size + 2) 34 #[.int .i64 y.fAt.fNode, .string y.fAt.fName, .int .i64 y.fValue, .int .i64 y.fOwner, .int .i64 y.fLiteral, .string y.fRule, .slice b6 y.fIds.length d6, .slice b7 y.fShape.length d7, .slice b8 y.fReads.length d8] (0, 0) _ rfl (setRow_heap _ _ _ _ _ _ HZ1.out) Try.underlying34 rfl (by kernel_rfl)) rfl ⟨?_, ?_⟩
          · rw [HIX.out.1, HIX.out.2]
            have hk : Kept (fun z => wr.heap.size ≤ z) w1 (w1.setRow (w.heap.size + 2) #[.int .i64 y.fAt.fNode, .string y.fAt.fName, .int .i64 y.fValue, .int .i64 y.fOwner, .int .i64 y.fLiteral, .string y.fRule, .slice b6 y.fIds.length d6, .slice b7 y.fShape.length d7, .slice b8 y.fReads.length d8]) := kept_setRow Kept.refl (by show ¬ wr.heap.size ≤ w.heap.size + 2; omega)
            refine ⟨b6, b7, b8, d6, d7, d8, rfl, ?_⟩
            have ho := (HOW.out.kept (hk.sub fun z hz => hz.1)).sub (F' := fun z => w.heap.size ≤ z ∧ z < (w1.setRow (w.heap.size + 2) #[.int .i64 y.fAt.fNode, .string y.fAt.fName, .int .i64 y.fValue, .int .i64 y.fOwner, .int .i64 y.fLiteral, .string y.fRule, .slice b6 y.fIds.length d6, .slice b7 y.fShape.length d7, .slice b8 y.fReads.length d8]).heap.size) fun z hz => ⟨by have := hz.1; omega, Nat.lt_of_lt_of_le hz.2 hk.1⟩
            exact ho
          · exact pile_setRow HB1.out (by omega) _
        · have HN2 := Lib.hid (noneBelow_succ HN.out (k := k) (PEnt_no2 h2))
          rw [h1] at hc0
          have q2 : ((l.getD k default).fAt.fName.toList == x.fName.toList) = false := beq_eq_false_iff_ne.2 (fun e => h2 (toList_inj' e))
          have q3 : (x.fName.toList == (l.getD k default).fAt.fName.toList) = false := beq_eq_false_iff_ne.2 (fun e => h2 (toList_inj' e).symm)
          clear h1 h2
          clear hs6 hs7 hs8 HL3
          generalize l.getD k default = y at *
          generalize y.fAt.fName = q1 at *
          go_wp2_with fail
          go_quiet (fail)
          go_wp2_with fail
          go_roundw
          case rel => exact ⟨k + 1, by omega, by go_num, HN2.out, HBW.out.trans ((by repeat (first | (with_reducible exact Below.refl _ _) | (with_reducible apply Below.drew) | (with_reducible refine below_drewN ?_ _)) : Below wr.heap.size wr _).mono HBW.out.size)⟩
          case measure => simp [intOf]; omega
      · have HN2 := Lib.hid (noneBelow_succ HN.out (k := k) (PEnt_no1 h1))
        have q2 : ((l.getD k default).fAt.fNode == x.fNode) = false := beq_eq_false_iff_ne.2 h1
        have q3 : (x.fNode == (l.getD k default).fAt.fNode) = false := beq_eq_false_iff_ne.2 (Ne.symm h1)
        clear h1
        clear hs6 hs7 hs8 HL3
        generalize l.getD k default = y at *
        generalize y.fAt.fName = q1 at *
        generalize y.fAt.fNode = q0 at *
        go_wp2_with fail
        go_quiet (fail)
        go_wp2_with fail
        go_roundw
        case rel => exact ⟨k + 1, by omega, by go_num, HN2.out, HBW.out.trans ((by repeat (first | (with_reducible exact Below.refl _ _) | (with_reducible apply Below.drew) | (with_reducible refine below_drewN ?_ _)) : Below wr.heap.size wr _).mono HBW.out.size)⟩
        case measure => simp [intOf]; omega
    · obtain rfl : k = l.length := by omega
      have HIX := Lib.hid (HE0.out (idxI_none HN.out))
      go_wp2_with (first | (refine wpList_buildTo rfl 34 _ rfl (some 28) rfl #[.int .i64 0, .string ⟨#[]⟩, .int .i64 0, .int .i64 0, .int .i64 0, .string ⟨#[]⟩, .slice none 0 0, .slice none 0 0, .slice none 0 0] (by kernel_rfl) ?_) | (refine wpList_store_rowTo rfl 34 (.tmp 4) (.tmp 28) rfl rfl (w.heap.size + 2) #[.int .i64 0, .string ⟨#[]⟩, .int .i64 0, .int .i64 0, .int .i64 0, .string ⟨#[]⟩, .slice none 0 0, .slice none 0 0, .slice none 0 0] rfl rfl 34 _ HZW.out (by kernel_rfl) rfl (by kernel_rfl) ?_))
      refine bodyPost_ret (v := .tuple #[.agg #[.int .i64 0, .string ⟨#[]⟩, .int .i64 0, .int .i64 0, .int .i64 0, .string ⟨#[]⟩, .slice none 0 0, .slice none 0 0, .slice none 0 0], .bool false]) (results_cell_tmp Try.results6 _ _ (w.heap.size + 2) 34 #[.int .i64 0, .string ⟨#[]⟩, .int .i64 0, .int .i64 0, .int .i64 0, .string ⟨#[]⟩, .slice none 0 0, .slice none 0 0, .slice none 0 0] (0, 0) _ rfl (setRow_heap _ _ _ _ _ _ HZW.out) Try.underlying34 rfl (by kernel_rfl)) rfl ⟨?_, ?_⟩
      · rw [HIX.out.1, HIX.out.2]
        exact ⟨none, none, none, 0, 0, 0, rfl, noEnt_own _ _⟩
      · exact pile_setRow HBT.out (by omega) _
end Go.Proofs.Ythgpompoionfoaa
