/-
  The entry of an instance: entryAt of the program.
-/
import Derived.Test.YthgpompoionfoaaTMemo
import Derived.Test.YthgpompoionfoaaIdx
import Derived.Lib.Strings
namespace Go.Proofs.Ythgpompoionfoaa
open Go.ChangeShapes Go.WideShapes Go.ChangeAt Go.RowKit Go.Deep

theorem toList_inj' {x y : ByteArray} (h : x.toList = y.toList) : x = y := by
  rw [Lib.toList_data, Lib.toList_data] at h
  cases x; cases y
  simp only at h
  rw [ByteArray.mk.injEq]
  exact Array.toList_inj.1 h
/-- The entry is of instance x. -/
def PEnt (x : DInstance) (y : DEntry) : Bool := y.fAt.fNode == x.fNode && y.fAt.fName.toList == x.fName.toList
theorem PEnt_yes {x : DInstance} {y : DEntry} (h1 : y.fAt.fNode = x.fNode) (h2 : y.fAt.fName = x.fName) : PEnt x y = true := by unfold PEnt; rw [h1, h2]; simp
theorem PEnt_no1 {x : DInstance} {y : DEntry} (h1 : y.fAt.fNode ≠ x.fNode) : PEnt x y = false := by unfold PEnt; simp [h1]
theorem PEnt_no2 {x : DInstance} {y : DEntry} (h1 : y.fAt.fName ≠ x.fName) : PEnt x y = false := by
  unfold PEnt
  rw [show (y.fAt.fName.toList == x.fName.toList) = false from beq_eq_false_iff_ne.2 (fun e => h1 (toList_inj' e)), Bool.and_false]
def entB (l : List DEntry) (x : DInstance) : Bool := decide (0 ≤ idxI (PEnt x) l)
/-- The value of the first entry of x. -/
def entV (l : List DEntry) (x : DInstance) : Int := if 0 ≤ idxI (PEnt x) l then (l.getD (idxI (PEnt x) l).toNat default).fValue else 0
theorem entB_at {l : List DEntry} {x : DInstance} {k : Nat} (h : idxI (PEnt x) l = k) : entB l x = true := by unfold entB; rw [h]; exact decide_eq_true (by omega)
theorem entV_at {l : List DEntry} {x : DInstance} {k : Nat} (h : idxI (PEnt x) l = k) : entV l x = (l.getD k default).fValue := by unfold entV; rw [h, if_pos (by omega), Int.toNat_natCast]
theorem entB_none {l : List DEntry} {x : DInstance} (h : idxI (PEnt x) l = -1) : entB l x = false := by unfold entB; rw [h]; exact decide_eq_false (by omega)
theorem entV_none {l : List DEntry} {x : DInstance} (h : idxI (PEnt x) l = -1) : entV l x = 0 := by unfold entV; rw [h, if_neg (by omega)]
/-- An entry with the value v, and whether there is one. -/
def EntOut (v : Int) (b : Bool) (e : Ending) : Prop := ∃ (i0 : Int) (s1 : ByteArray) (i3 i4 : Int) (s5 : ByteArray) (a6 a7 a8 : Option Addr) (n6 n7 n8 c6 c7 c8 : Nat), e = .returned (.tuple #[.agg #[.int .i64 i0, .string s1, .int .i64 v, .int .i64 i3, .int .i64 i4, .string s5, .slice a6 n6 c6, .slice a7 n7 c7, .slice a8 n8 c8], .bool b])

set_option maxHeartbeats 6400000 in
set_option maxRecDepth 100000 in
theorem impl_entryAt {lo hi n1 c0 c1 : Nat} {a0 a1 : Option Addr} (l : List DEntry) (hn : l.length ≤ 1048576) (x : DInstance) (w : World) (hhi : hi ≤ w.heap.size) (hs : Sl lo hi w 9 l.length (fun k => DEntry.ct (l.getD k default)) a0) :
    Calls Try.prog 20 #[.agg #[.slice a0 l.length c0, .slice a1 n1 c1], .agg #[.int .i64 x.fNode, .string x.fName]] w fun e w' => EntOut (entV l x) (entB l x) e ∧ Below w.heap.size w w' := by
  have HB := Lib.hid ((((Below.refl w.heap.size w).alloc (Nat.le_refl _) (.cells #[.slice a0 l.length c0, .slice a1 n1 c1] 40)).alloc (by simp <;> omega) (.cells #[.int .i64 x.fNode, .string x.fName] 30)).alloc (by simp <;> omega) (.cells #[.int .i64 0, .string ⟨#[]⟩, .int .i64 0, .int .i64 0, .int .i64 0, .string ⟨#[]⟩, .slice none 0 0, .slice none 0 0, .slice none 0 0] 34))
  have HSZ := Lib.hid (show (((w.alloc (.cells #[.slice a0 l.length c0, .slice a1 n1 c1] 40)).alloc (.cells #[.int .i64 x.fNode, .string x.fName] 30)).alloc (.cells #[.int .i64 0, .string ⟨#[]⟩, .int .i64 0, .int .i64 0, .int .i64 0, .string ⟨#[]⟩, .slice none 0 0, .slice none 0 0, .slice none 0 0] 34)).heap.size = w.heap.size + 3 by simp)
  have HE := Lib.hid (show Below (w.heap.size + 3) (((w.alloc (.cells #[.slice a0 l.length c0, .slice a1 n1 c1] 40)).alloc (.cells #[.int .i64 x.fNode, .string x.fName] 30)).alloc (.cells #[.int .i64 0, .string ⟨#[]⟩, .int .i64 0, .int .i64 0, .int .i64 0, .string ⟨#[]⟩, .slice none 0 0, .slice none 0 0, .slice none 0 0] 34)) (((w.alloc (.cells #[.slice a0 l.length c0, .slice a1 n1 c1] 40)).alloc (.cells #[.int .i64 x.fNode, .string x.fName] 30)).alloc (.cells #[.int .i64 0, .string ⟨#[]⟩, .int .i64 0, .int .i64 0, .int .i64 0, .string ⟨#[]⟩, .slice none 0 0, .slice none 0 0, .slice none 0 0] 34)) from Below.refl _ _)
  have HX0 := Lib.hid (show (((w.alloc (.cells #[.slice a0 l.length c0, .slice a1 n1 c1] 40)).alloc (.cells #[.int .i64 x.fNode, .string x.fName] 30)).alloc (.cells #[.int .i64 0, .string ⟨#[]⟩, .int .i64 0, .int .i64 0, .int .i64 0, .string ⟨#[]⟩, .slice none 0 0, .slice none 0 0, .slice none 0 0] 34)).cell? ⟨w.heap.size + 1, 0, none⟩ = some (.int .i64 x.fNode) by go_simp)
  have HX1 := Lib.hid (show (((w.alloc (.cells #[.slice a0 l.length c0, .slice a1 n1 c1] 40)).alloc (.cells #[.int .i64 x.fNode, .string x.fName] 30)).alloc (.cells #[.int .i64 0, .string ⟨#[]⟩, .int .i64 0, .int .i64 0, .int .i64 0, .string ⟨#[]⟩, .slice none 0 0, .slice none 0 0, .slice none 0 0] 34)).cell? ⟨w.heap.size + 1, 1, none⟩ = some (.string x.fName) by go_simp)
  have HG := Lib.hid (show (((w.alloc (.cells #[.slice a0 l.length c0, .slice a1 n1 c1] 40)).alloc (.cells #[.int .i64 x.fNode, .string x.fName] 30)).alloc (.cells #[.int .i64 0, .string ⟨#[]⟩, .int .i64 0, .int .i64 0, .int .i64 0, .string ⟨#[]⟩, .slice none 0 0, .slice none 0 0, .slice none 0 0] 34)).heap[w.heap.size + 2]? = some (.cells #[.int .i64 0, .string ⟨#[]⟩, .int .i64 0, .int .i64 0, .int .i64 0, .string ⟨#[]⟩, .slice none 0 0, .slice none 0 0, .slice none 0 0] 34) from blk_new (by simp))
  have HS := Lib.hid (hs.later HB.out hhi)
  have HHI := Lib.hid hhi
  clear hs hhi
  go_enter Try.func20, Try.ntmps20
  go_wp2
  go_loopw [11] (fun i wr => ∃ k : Nat, k ≤ l.length ∧ i = .int .i64 (k : Int) ∧ noneBelow (PEnt x) l k ∧ Below (w.heap.size + 3) (((w.alloc (.cells #[.slice a0 l.length c0, .slice a1 n1 c1] 40)).alloc (.cells #[.int .i64 x.fNode, .string x.fName] 30)).alloc (.cells #[.int .i64 0, .string ⟨#[]⟩, .int .i64 0, .int .i64 0, .int .i64 0, .string ⟨#[]⟩, .slice none 0 0, .slice none 0 0, .slice none 0 0] 34)) wr) (fun i _ => l.length - (intOf i).toNat)
  case atStart => exact ⟨0, Nat.zero_le _, rfl, noneBelow_zero _ _, HE.out⟩
  case round =>
    obtain ⟨k, hk, rfl, hno, hbl⟩ := hrel
    have HN := Lib.hid hno
    have HBL := Lib.hid hbl
    have hsz1 : w.heap.size + 3 ≤ wr.heap.size := by have := hbl.size; rw [HSZ.out] at this; exact this
    have hw1 : w.heap.size + 1 < wr.heap.size := by omega
    have hw2 : w.heap.size + 2 < wr.heap.size := by omega
    have HGR := Lib.hid ((hbl.block (w.heap.size + 2) (by omega)).trans HG.out)
    clear hno hbl
    by_cases hlt : k < l.length
    · obtain ⟨b, off, rfl, _, hbh, hc⟩ := (HS.out.later (HBL.out.mono (Nat.le_trans HHI.out (by omega))) (Nat.le_refl _)).at k hlt
      obtain ⟨a6, c6, a7, c7, a8, c8, hc0, hc1, hc2, hc3, hc4, hc5, hc6, hc7, hc8, hs6, hs7, hs8⟩ := DEntry.open hc
      have hbw : b < wr.heap.size := Nat.lt_of_lt_of_le hbh (Nat.le_trans HHI.out (by omega))
      have x0 : wr.cell? ⟨w.heap.size + 1, 0, none⟩ = some (.int .i64 x.fNode) := (HBL.out.cell (p := ⟨w.heap.size + 1, 0, none⟩) (show w.heap.size + 1 < w.heap.size + 3 by omega)).trans HX0.out
      have x1 : wr.cell? ⟨w.heap.size + 1, 1, none⟩ = some (.string x.fName) := (HBL.out.cell (p := ⟨w.heap.size + 1, 1, none⟩) (show w.heap.size + 1 < w.heap.size + 3 by omega)).trans HX1.out
      have y0 : wr.cell? ⟨w.heap.size + 2, 0, none⟩ = some (.int .i64 0) := (cell_of_row _ _ _ _ _ _ HGR.out).trans rfl
      have f0 : wr.frozen? ⟨w.heap.size + 2, 0, none⟩ = false := frozen_of_row _ _ _ _ _ HGR.out
      have y1 : wr.cell? ⟨w.heap.size + 2, 1, none⟩ = some (.string ⟨#[]⟩) := (cell_of_row _ _ _ _ _ _ HGR.out).trans rfl
      have f1 : wr.frozen? ⟨w.heap.size + 2, 1, none⟩ = false := frozen_of_row _ _ _ _ _ HGR.out
      have y2 : wr.cell? ⟨w.heap.size + 2, 2, none⟩ = some (.int .i64 0) := (cell_of_row _ _ _ _ _ _ HGR.out).trans rfl
      have f2 : wr.frozen? ⟨w.heap.size + 2, 2, none⟩ = false := frozen_of_row _ _ _ _ _ HGR.out
      have y3 : wr.cell? ⟨w.heap.size + 2, 3, none⟩ = some (.int .i64 0) := (cell_of_row _ _ _ _ _ _ HGR.out).trans rfl
      have f3 : wr.frozen? ⟨w.heap.size + 2, 3, none⟩ = false := frozen_of_row _ _ _ _ _ HGR.out
      have y4 : wr.cell? ⟨w.heap.size + 2, 4, none⟩ = some (.int .i64 0) := (cell_of_row _ _ _ _ _ _ HGR.out).trans rfl
      have f4 : wr.frozen? ⟨w.heap.size + 2, 4, none⟩ = false := frozen_of_row _ _ _ _ _ HGR.out
      have y5 : wr.cell? ⟨w.heap.size + 2, 5, none⟩ = some (.string ⟨#[]⟩) := (cell_of_row _ _ _ _ _ _ HGR.out).trans rfl
      have f5 : wr.frozen? ⟨w.heap.size + 2, 5, none⟩ = false := frozen_of_row _ _ _ _ _ HGR.out
      have y6 : wr.cell? ⟨w.heap.size + 2, 6, none⟩ = some (.slice none 0 0) := (cell_of_row _ _ _ _ _ _ HGR.out).trans rfl
      have f6 : wr.frozen? ⟨w.heap.size + 2, 6, none⟩ = false := frozen_of_row _ _ _ _ _ HGR.out
      have y7 : wr.cell? ⟨w.heap.size + 2, 7, none⟩ = some (.slice none 0 0) := (cell_of_row _ _ _ _ _ _ HGR.out).trans rfl
      have f7 : wr.frozen? ⟨w.heap.size + 2, 7, none⟩ = false := frozen_of_row _ _ _ _ _ HGR.out
      have y8 : wr.cell? ⟨w.heap.size + 2, 8, none⟩ = some (.slice none 0 0) := (cell_of_row _ _ _ _ _ _ HGR.out).trans rfl
      have f8 : wr.frozen? ⟨w.heap.size + 2, 8, none⟩ = false := frozen_of_row _ _ _ _ _ HGR.out
      clear hc hs6 hs7 hs8
      by_cases h1 : (l.getD k default).fAt.fNode = x.fNode
      · by_cases h2 : (l.getD k default).fAt.fName = x.fName
        · have hix := idxI_at (p := PEnt x) hlt (PEnt_yes h1 h2) HN.out
          have fin := Lib.hid (show EntOut (entV l x) (entB l x) = EntOut (l.getD k default).fValue true by rw [entV_at hix, entB_at hix])
          rw [h1] at hc0
          rw [h2] at hc1
          clear h1 h2 hix
          generalize (l.getD k default).fValue = v2 at *
          generalize (l.getD k default).fOwner = v3 at *
          generalize (l.getD k default).fLiteral = v4 at *
          generalize (l.getD k default).fRule = v5 at *
          generalize (l.getD k default).fIds.length = n6 at *
          generalize (l.getD k default).fShape.length = n7 at *
          generalize (l.getD k default).fReads.length = n8 at *
          go_wp2
          refine bodyPost_ret (v := .tuple #[.agg #[.int .i64 x.fNode, .string x.fName, .int .i64 v2, .int .i64 v3, .int .i64 v4, .string v5, .slice a6 n6 c6, .slice a7 n7 c7, .slice a8 n8 c8], .bool true]) (results_cell_tmp Try.results20 _ _ (w.heap.size + 2) 34 #[.int .i64 x.fNode, .string x.fName, .int .i64 v2, .int .i64 v3, .int .i64 v4, .string v5, .slice a6 n6 c6, .slice a7 n7 c7, .slice a8 n8 c8] (0, 0) _ rfl (by refine blk_alloc (by simp [World.setCell] <;> omega) ?_; refine Eq.trans (blk_set (cs := #[.int .i64 x.fNode, .string x.fName, .int .i64 v2, .int .i64 v3, .int .i64 v4, .string v5, .slice a6 n6 c6, .slice a7 n7 c7, .slice none 0 0]) (t := 34) (fr := (0, 0)) ?_) rfl; refine Eq.trans (blk_set (cs := #[.int .i64 x.fNode, .string x.fName, .int .i64 v2, .int .i64 v3, .int .i64 v4, .string v5, .slice a6 n6 c6, .slice none 0 0, .slice none 0 0]) (t := 34) (fr := (0, 0)) ?_) rfl; refine Eq.trans (blk_set (cs := #[.int .i64 x.fNode, .string x.fName, .int .i64 v2, .int .i64 v3, .int .i64 v4, .string v5, .slice none 0 0, .slice none 0 0, .slice none 0 0]) (t := 34) (fr := (0, 0)) ?_) rfl; refine Eq.trans (blk_set (cs := #[.int .i64 x.fNode, .string x.fName, .int .i64 v2, .int .i64 v3, .int .i64 v4, .string ⟨#[]⟩, .slice none 0 0, .slice none 0 0, .slice none 0 0]) (t := 34) (fr := (0, 0)) ?_) rfl; refine Eq.trans (blk_set (cs := #[.int .i64 x.fNode, .string x.fName, .int .i64 v2, .int .i64 v3, .int .i64 0, .string ⟨#[]⟩, .slice none 0 0, .slice none 0 0, .slice none 0 0]) (t := 34) (fr := (0, 0)) ?_) rfl; refine Eq.trans (blk_set (cs := #[.int .i64 x.fNode, .string x.fName, .int .i64 v2, .int .i64 0, .int .i64 0, .string ⟨#[]⟩, .slice none 0 0, .slice none 0 0, .slice none 0 0]) (t := 34) (fr := (0, 0)) ?_) rfl; refine Eq.trans (blk_set (cs := #[.int .i64 x.fNode, .string x.fName, .int .i64 0, .int .i64 0, .int .i64 0, .string ⟨#[]⟩, .slice none 0 0, .slice none 0 0, .slice none 0 0]) (t := 34) (fr := (0, 0)) ?_) rfl; refine Eq.trans (blk_set (cs := #[.int .i64 x.fNode, .string ⟨#[]⟩, .int .i64 0, .int .i64 0, .int .i64 0, .string ⟨#[]⟩, .slice none 0 0, .slice none 0 0, .slice none 0 0]) (t := 34) (fr := (0, 0)) ?_) rfl; refine Eq.trans (blk_set (cs := #[.int .i64 0, .string ⟨#[]⟩, .int .i64 0, .int .i64 0, .int .i64 0, .string ⟨#[]⟩, .slice none 0 0, .slice none 0 0, .slice none 0 0]) (t := 34) (fr := (0, 0)) ?_) rfl; exact HGR.out) Try.underlying34 rfl (by kernel_rfl)) rfl ⟨by rw [fin.out]; exact ⟨_, _, _, _, _, _, _, _, _, _, _, _, _, _, rfl⟩, ?_⟩
          have HBW := Lib.hid (HB.out.trans (HBL.out.mono (show w.heap.size ≤ w.heap.size + 3 by omega)))
          repeat (first | (with_reducible exact HBW.out) | (with_reducible apply Below.drew) | (with_reducible refine below_drewN ?_ _) | (with_reducible refine Below.alloc ?_ ?_ _) | (with_reducible refine Below.setCell ?_ ?_ _))
          all_goals (first | omega | (simp <;> omega))
        · have HN2 := Lib.hid (noneBelow_succ HN.out (k := k) (PEnt_no2 h2))
          rw [h1] at hc0
          have e2 : ((l.getD k default).fAt.fName.toList == x.fName.toList) = false := beq_eq_false_iff_ne.2 (fun e => h2 (toList_inj' e))
          have e3 : (x.fName.toList == (l.getD k default).fAt.fName.toList) = false := beq_eq_false_iff_ne.2 (fun e => h2 (toList_inj' e).symm)
          clear h1 h2
          generalize (l.getD k default).fAt.fName = v1 at *
          generalize (l.getD k default).fValue = v2 at *
          generalize (l.getD k default).fOwner = v3 at *
          generalize (l.getD k default).fLiteral = v4 at *
          generalize (l.getD k default).fRule = v5 at *
          generalize (l.getD k default).fIds.length = n6 at *
          generalize (l.getD k default).fShape.length = n7 at *
          generalize (l.getD k default).fReads.length = n8 at *
          go_wp2
          go_roundw
          case rel =>
            refine ⟨k + 1, by omega, by go_num, HN2.out, ?_⟩
            repeat (first | (with_reducible exact HBL.out) | (with_reducible apply Below.drew) | (with_reducible refine below_drewN ?_ _) | (with_reducible refine Below.alloc ?_ ?_ _) | (with_reducible refine Below.setCell ?_ ?_ _))
            all_goals (first | omega | (simp <;> omega))
          case measure => simp [intOf]; omega
      · have HN2 := Lib.hid (noneBelow_succ HN.out (k := k) (PEnt_no1 h1))
        have e2 : ((l.getD k default).fAt.fNode == x.fNode) = false := beq_eq_false_iff_ne.2 h1
        have e3 : (x.fNode == (l.getD k default).fAt.fNode) = false := beq_eq_false_iff_ne.2 (Ne.symm h1)
        clear h1
        generalize (l.getD k default).fAt.fNode = v0 at *
        generalize (l.getD k default).fAt.fName = v1 at *
        generalize (l.getD k default).fValue = v2 at *
        generalize (l.getD k default).fOwner = v3 at *
        generalize (l.getD k default).fLiteral = v4 at *
        generalize (l.getD k default).fRule = v5 at *
        generalize (l.getD k default).fIds.length = n6 at *
        generalize (l.getD k default).fShape.length = n7 at *
        generalize (l.getD k default).fReads.length = n8 at *
        go_wp2
        go_roundw
        case rel =>
          refine ⟨k + 1, by omega, by go_num, HN2.out, ?_⟩
          repeat (first | (with_reducible exact HBL.out) | (with_reducible apply Below.drew) | (with_reducible refine below_drewN ?_ _) | (with_reducible refine Below.alloc ?_ ?_ _) | (with_reducible refine Below.setCell ?_ ?_ _))
          all_goals (first | omega | (simp <;> omega))
        case measure => simp [intOf]; omega
    · obtain rfl : k = l.length := by omega
      have hix := idxI_none (p := PEnt x) HN.out
      have fin := Lib.hid (show EntOut (entV l x) (entB l x) = EntOut 0 false by rw [entV_none hix, entB_none hix])
      clear hix
      have y0 : wr.cell? ⟨w.heap.size + 2, 0, none⟩ = some (.int .i64 0) := (cell_of_row _ _ _ _ _ _ HGR.out).trans rfl
      have f0 : wr.frozen? ⟨w.heap.size + 2, 0, none⟩ = false := frozen_of_row _ _ _ _ _ HGR.out
      have y1 : wr.cell? ⟨w.heap.size + 2, 1, none⟩ = some (.string ⟨#[]⟩) := (cell_of_row _ _ _ _ _ _ HGR.out).trans rfl
      have f1 : wr.frozen? ⟨w.heap.size + 2, 1, none⟩ = false := frozen_of_row _ _ _ _ _ HGR.out
      have y2 : wr.cell? ⟨w.heap.size + 2, 2, none⟩ = some (.int .i64 0) := (cell_of_row _ _ _ _ _ _ HGR.out).trans rfl
      have f2 : wr.frozen? ⟨w.heap.size + 2, 2, none⟩ = false := frozen_of_row _ _ _ _ _ HGR.out
      have y3 : wr.cell? ⟨w.heap.size + 2, 3, none⟩ = some (.int .i64 0) := (cell_of_row _ _ _ _ _ _ HGR.out).trans rfl
      have f3 : wr.frozen? ⟨w.heap.size + 2, 3, none⟩ = false := frozen_of_row _ _ _ _ _ HGR.out
      have y4 : wr.cell? ⟨w.heap.size + 2, 4, none⟩ = some (.int .i64 0) := (cell_of_row _ _ _ _ _ _ HGR.out).trans rfl
      have f4 : wr.frozen? ⟨w.heap.size + 2, 4, none⟩ = false := frozen_of_row _ _ _ _ _ HGR.out
      have y5 : wr.cell? ⟨w.heap.size + 2, 5, none⟩ = some (.string ⟨#[]⟩) := (cell_of_row _ _ _ _ _ _ HGR.out).trans rfl
      have f5 : wr.frozen? ⟨w.heap.size + 2, 5, none⟩ = false := frozen_of_row _ _ _ _ _ HGR.out
      have y6 : wr.cell? ⟨w.heap.size + 2, 6, none⟩ = some (.slice none 0 0) := (cell_of_row _ _ _ _ _ _ HGR.out).trans rfl
      have f6 : wr.frozen? ⟨w.heap.size + 2, 6, none⟩ = false := frozen_of_row _ _ _ _ _ HGR.out
      have y7 : wr.cell? ⟨w.heap.size + 2, 7, none⟩ = some (.slice none 0 0) := (cell_of_row _ _ _ _ _ _ HGR.out).trans rfl
      have f7 : wr.frozen? ⟨w.heap.size + 2, 7, none⟩ = false := frozen_of_row _ _ _ _ _ HGR.out
      have y8 : wr.cell? ⟨w.heap.size + 2, 8, none⟩ = some (.slice none 0 0) := (cell_of_row _ _ _ _ _ _ HGR.out).trans rfl
      have f8 : wr.frozen? ⟨w.heap.size + 2, 8, none⟩ = false := frozen_of_row _ _ _ _ _ HGR.out
      go_wp2
      refine bodyPost_ret (v := .tuple #[.agg #[.int .i64 0, .string ⟨#[]⟩, .int .i64 0, .int .i64 0, .int .i64 0, .string ⟨#[]⟩, .slice none 0 0, .slice none 0 0, .slice none 0 0], .bool false]) (results_cell_tmp Try.results20 _ _ (w.heap.size + 2) 34 #[.int .i64 0, .string ⟨#[]⟩, .int .i64 0, .int .i64 0, .int .i64 0, .string ⟨#[]⟩, .slice none 0 0, .slice none 0 0, .slice none 0 0] (0, 0) _ rfl (by refine Eq.trans (blk_set (cs := #[.int .i64 0, .string ⟨#[]⟩, .int .i64 0, .int .i64 0, .int .i64 0, .string ⟨#[]⟩, .slice none 0 0, .slice none 0 0, .slice none 0 0]) (t := 34) (fr := (0, 0)) ?_) rfl; refine Eq.trans (blk_set (cs := #[.int .i64 0, .string ⟨#[]⟩, .int .i64 0, .int .i64 0, .int .i64 0, .string ⟨#[]⟩, .slice none 0 0, .slice none 0 0, .slice none 0 0]) (t := 34) (fr := (0, 0)) ?_) rfl; refine Eq.trans (blk_set (cs := #[.int .i64 0, .string ⟨#[]⟩, .int .i64 0, .int .i64 0, .int .i64 0, .string ⟨#[]⟩, .slice none 0 0, .slice none 0 0, .slice none 0 0]) (t := 34) (fr := (0, 0)) ?_) rfl; refine Eq.trans (blk_set (cs := #[.int .i64 0, .string ⟨#[]⟩, .int .i64 0, .int .i64 0, .int .i64 0, .string ⟨#[]⟩, .slice none 0 0, .slice none 0 0, .slice none 0 0]) (t := 34) (fr := (0, 0)) ?_) rfl; refine Eq.trans (blk_set (cs := #[.int .i64 0, .string ⟨#[]⟩, .int .i64 0, .int .i64 0, .int .i64 0, .string ⟨#[]⟩, .slice none 0 0, .slice none 0 0, .slice none 0 0]) (t := 34) (fr := (0, 0)) ?_) rfl; refine Eq.trans (blk_set (cs := #[.int .i64 0, .string ⟨#[]⟩, .int .i64 0, .int .i64 0, .int .i64 0, .string ⟨#[]⟩, .slice none 0 0, .slice none 0 0, .slice none 0 0]) (t := 34) (fr := (0, 0)) ?_) rfl; refine Eq.trans (blk_set (cs := #[.int .i64 0, .string ⟨#[]⟩, .int .i64 0, .int .i64 0, .int .i64 0, .string ⟨#[]⟩, .slice none 0 0, .slice none 0 0, .slice none 0 0]) (t := 34) (fr := (0, 0)) ?_) rfl; refine Eq.trans (blk_set (cs := #[.int .i64 0, .string ⟨#[]⟩, .int .i64 0, .int .i64 0, .int .i64 0, .string ⟨#[]⟩, .slice none 0 0, .slice none 0 0, .slice none 0 0]) (t := 34) (fr := (0, 0)) ?_) rfl; refine Eq.trans (blk_set (cs := #[.int .i64 0, .string ⟨#[]⟩, .int .i64 0, .int .i64 0, .int .i64 0, .string ⟨#[]⟩, .slice none 0 0, .slice none 0 0, .slice none 0 0]) (t := 34) (fr := (0, 0)) ?_) rfl; exact HGR.out) Try.underlying34 rfl (by kernel_rfl)) rfl ⟨by rw [fin.out]; exact ⟨_, _, _, _, _, _, _, _, _, _, _, _, _, _, rfl⟩, ?_⟩
      have HBW := Lib.hid (HB.out.trans (HBL.out.mono (show w.heap.size ≤ w.heap.size + 3 by omega)))
      repeat (first | (with_reducible exact HBW.out) | (with_reducible apply Below.drew) | (with_reducible refine below_drewN ?_ _) | (with_reducible refine Below.alloc ?_ ?_ _) | (with_reducible refine Below.setCell ?_ ?_ _))
      all_goals (first | omega | (simp <;> omega))
end Go.Proofs.Ythgpompoionfoaa
