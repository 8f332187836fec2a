/-
  entryAt of the program: the entry whole.
-/
import Derived.Test.YthgpompoionfoaaEntryAt
import Derived.Test.YthgpompoionfoaaPile
import Derived.Test.YthgpompoionfoaaFreeA
import Derived.Great.BuildSlice
import Derived.Deep.WholeRow
import Derived.Laws.Rows
namespace Go.Proofs.Ythgpompoionfoaa
open Go.ChangeShapes Go.WideShapes Go.ChangeAt Go.RowKit Go.Deep

def noEnt : DEntry := ⟨⟨0, ⟨#[]⟩⟩, 0, 0, 0, ⟨#[]⟩, [], [], []⟩
/-- The entry of an instance; an empty one where there is none. -/
def entE (l : List DEntry) (x : DInstance) : DEntry := if 0 ≤ idxI (PEnt x) l then l.getD (idxI (PEnt x) l).toNat default else noEnt
theorem entE_at {l : List DEntry} {x : DInstance} {k : Nat} (h : idxI (PEnt x) l = k) : entE l x = l.getD k default := by unfold entE; rw [h, if_pos (by omega), Int.toNat_natCast]
theorem entE_none {l : List DEntry} {x : DInstance} (h : idxI (PEnt x) l = -1) : entE l x = noEnt := by unfold entE; rw [h, if_neg (by omega)]
def EntLies (lo hi : Nat) (y : DEntry) (b : Bool) (w' : World) (e : Ending) : Prop :=
  ∃ (a6 a7 a8 : Option Addr) (c6 c7 c8 : Nat), e = .returned (.tuple #[.agg #[.int .i64 y.fAt.fNode, .string y.fAt.fName, .int .i64 y.fValue, .int .i64 y.fOwner, .int .i64 y.fLiteral, .string y.fRule, .slice a6 y.fIds.length c6, .slice a7 y.fShape.length c7, .slice a8 y.fReads.length c8], .bool b]) ∧ Sl lo hi w' 1 y.fIds.length (fun k => ictI (y.fIds.getD k default)) a6 ∧ Sl lo hi w' 1 y.fShape.length (fun k => ictI (y.fShape.getD k default)) a7 ∧ Sl lo hi w' 4 y.fReads.length (fun k => DReading.ct (y.fReads.getD k default)) a8
theorem setRow_newE {w : World} {c c' : Array Value} {t : TypeId} {g : Nat} (h : g = w.heap.size) : (w.alloc (.cells c t)).setRow g c' = w.alloc (.cells c' t) := by subst h; exact World.setRow_alloc_new _ _ _ _

set_option maxHeartbeats 12800000 in
set_option maxRecDepth 100000 in
theorem impl_entryAtO {lo hi n1 c0 c1 : Nat} {a0 a1 : Option Addr} (l : List DEntry) (hn : l.length ≤ 1048576) (x : DInstance) (w : World) (hhi : hi ≤ w.heap.size) (hs : Sl lo hi w 9 l.length (fun k => DEntry.ct (l.getD k default)) a0) :
    Calls Try.prog 20 #[.agg #[.slice a0 l.length c0, .slice a1 n1 c1], .agg #[.int .i64 x.fNode, .string x.fName]] w fun e w' => EntLies lo hi (entE l x) (entB l x) w' e ∧ Below w.heap.size w w' := by
  have HB := Lib.hid (show Below w.heap.size w (((w.alloc (.cells #[.slice a0 l.length c0, .slice a1 n1 c1] 40)).alloc (.cells #[.int .i64 x.fNode, .string x.fName] 30)).alloc (.cells #[.int .i64 0, .string ⟨#[]⟩, .int .i64 0, .int .i64 0, .int .i64 0, .string ⟨#[]⟩, .slice none 0 0, .slice none 0 0, .slice none 0 0] 34)) from (((Below.refl w.heap.size w).alloc (Nat.le_refl _) (.cells #[.slice a0 l.length c0, .slice a1 n1 c1] 40)).alloc (by simp) (.cells #[.int .i64 x.fNode, .string x.fName] 30)).alloc (by simp <;> omega) (.cells #[.int .i64 0, .string ⟨#[]⟩, .int .i64 0, .int .i64 0, .int .i64 0, .string ⟨#[]⟩, .slice none 0 0, .slice none 0 0, .slice none 0 0] 34))
  have HBX := Lib.hid (show (((w.alloc (.cells #[.slice a0 l.length c0, .slice a1 n1 c1] 40)).alloc (.cells #[.int .i64 x.fNode, .string x.fName] 30)).alloc (.cells #[.int .i64 0, .string ⟨#[]⟩, .int .i64 0, .int .i64 0, .int .i64 0, .string ⟨#[]⟩, .slice none 0 0, .slice none 0 0, .slice none 0 0] 34)).heap[w.heap.size + 1]? = some (.cells #[.int .i64 x.fNode, .string x.fName] 30) from blk_alloc (by simp <;> omega) (blk_new (by simp)))
  have HBZ := Lib.hid (show (((w.alloc (.cells #[.slice a0 l.length c0, .slice a1 n1 c1] 40)).alloc (.cells #[.int .i64 x.fNode, .string x.fName] 30)).alloc (.cells #[.int .i64 0, .string ⟨#[]⟩, .int .i64 0, .int .i64 0, .int .i64 0, .string ⟨#[]⟩, .slice none 0 0, .slice none 0 0, .slice none 0 0] 34)).heap[w.heap.size + 2]? = some (.cells #[.int .i64 0, .string ⟨#[]⟩, .int .i64 0, .int .i64 0, .int .i64 0, .string ⟨#[]⟩, .slice none 0 0, .slice none 0 0, .slice none 0 0] 34) from blk_new (by simp))
  have HZ := Lib.hid (show (((w.alloc (.cells #[.slice a0 l.length c0, .slice a1 n1 c1] 40)).alloc (.cells #[.int .i64 x.fNode, .string x.fName] 30)).alloc (.cells #[.int .i64 0, .string ⟨#[]⟩, .int .i64 0, .int .i64 0, .int .i64 0, .string ⟨#[]⟩, .slice none 0 0, .slice none 0 0, .slice none 0 0] 34)).heap.size = w.heap.size + 3 by simp)
  have HS := Lib.hid (fun (W : World) (hW : Below w.heap.size w W) => hs.later hW hhi)
  have HHI := Lib.hid hhi
  have HE1 := Lib.hid (fun (k : Nat) (h : idxI (PEnt x) l = k) => And.intro (entE_at h) (entB_at h))
  have HE0 := Lib.hid (fun (h : idxI (PEnt x) l = -1) => And.intro (entE_none h) (entB_none h))
  clear hs hhi
  go_enter Try.func20, Try.ntmps20
  go_wp2
  generalize (((w.alloc (.cells #[.slice a0 l.length c0, .slice a1 n1 c1] 40)).alloc (.cells #[.int .i64 x.fNode, .string x.fName] 30)).alloc (.cells #[.int .i64 0, .string ⟨#[]⟩, .int .i64 0, .int .i64 0, .int .i64 0, .string ⟨#[]⟩, .slice none 0 0, .slice none 0 0, .slice none 0 0] 34)) = w0 at *
  go_loopw [11] (fun i wr => ∃ k : Nat, k ≤ l.length ∧ i = .int .i64 (k : Int) ∧ noneBelow (PEnt x) l k ∧ Below w0.heap.size w0 wr) (fun i _ => l.length - (intOf i).toNat)
  case atStart => exact ⟨0, Nat.zero_le _, rfl, noneBelow_zero _ _, Below.refl _ _⟩
  case round =>
    obtain ⟨k, hk, rfl, hno, hb⟩ := hrel
    have HN := Lib.hid hno
    have HBW := Lib.hid hb
    have HBT := Lib.hid (HB.out.trans (hb.mono HB.out.size))
    have hzw : w.heap.size + 3 ≤ wr.heap.size := HZ.out ▸ hb.size
    have HXW := Lib.hid ((hb.block (w.heap.size + 1) (by rw [HZ.out]; omega)).trans HBX.out)
    have HZW := Lib.hid ((hb.block (w.heap.size + 2) (by rw [HZ.out]; omega)).trans HBZ.out)
    clear hno hb
    by_cases hlt : k < l.length
    · have hkI : (0 : Int) ≤ (k : Int) ∧ (k : Int) < (l.length : Int) := by omega
      obtain ⟨b, off, rfl, _, hbh, hc⟩ := (HS.out wr HBT.out).at k hlt
      obtain ⟨a6, c6, a7, c7, a8, c8, hc0, hc1, hc2, hc3, hc4, hc5, hc6, hc7, hc8, hs6, hs7, hs8⟩ := DEntry.open hc
      have HS6 := Lib.hid hs6
      have HS7 := Lib.hid hs7
      have HS8 := Lib.hid hs8
      clear hc hs6 hs7 hs8
      by_cases h1 : (l.getD k default).fAt.fNode = x.fNode
      · by_cases h2 : (l.getD k default).fAt.fName = x.fName
        · have HIX := Lib.hid (HE1.out k (idxI_at (p := PEnt x) hlt (PEnt_yes h1 h2) HN.out))
          rw [h1] at hc0
          rw [h2] at hc1
          have HA1 := Lib.hid h1
          have HA2 := Lib.hid h2
          clear h1 h2
          generalize l.getD k default = y at *
          have HBA := Lib.hid (show Below wr.heap.size wr (wr.alloc (.cells #[.int .i64 x.fNode, .string x.fName, .int .i64 y.fValue, .int .i64 y.fOwner, .int .i64 y.fLiteral, .string y.fRule, .slice a6 y.fIds.length c6, .slice a7 y.fShape.length c7, .slice a8 y.fReads.length c8] 34)) from (Below.refl _ _).alloc (Nat.le_refl _) _)
          have HXE := Lib.hid (show (wr.alloc (.cells #[.int .i64 x.fNode, .string x.fName, .int .i64 y.fValue, .int .i64 y.fOwner, .int .i64 y.fLiteral, .string y.fRule, .slice a6 y.fIds.length c6, .slice a7 y.fShape.length c7, .slice a8 y.fReads.length c8] 34)).heap[w.heap.size + 1]? = some (.cells #[.int .i64 x.fNode, .string x.fName] 30) from blk_alloc (by omega) HXW.out)
          have HZE := Lib.hid (show (wr.alloc (.cells #[.int .i64 x.fNode, .string x.fName, .int .i64 y.fValue, .int .i64 y.fOwner, .int .i64 y.fLiteral, .string y.fRule, .slice a6 y.fIds.length c6, .slice a7 y.fShape.length c7, .slice a8 y.fReads.length c8] 34)).heap[w.heap.size + 2]? = some (.cells #[.int .i64 0, .string ⟨#[]⟩, .int .i64 0, .int .i64 0, .int .i64 0, .string ⟨#[]⟩, .slice none 0 0, .slice none 0 0, .slice none 0 0] 34) from blk_alloc (by omega) HZW.out)
          have x0 : (wr.alloc (.cells #[.int .i64 x.fNode, .string x.fName, .int .i64 y.fValue, .int .i64 y.fOwner, .int .i64 y.fLiteral, .string y.fRule, .slice a6 y.fIds.length c6, .slice a7 y.fShape.length c7, .slice a8 y.fReads.length c8] 34)).cell? ⟨w.heap.size + 1, 0, none⟩ = some (.int .i64 x.fNode) := pblk_cell HXE.out rfl
          have x1 : (wr.alloc (.cells #[.int .i64 x.fNode, .string x.fName, .int .i64 y.fValue, .int .i64 y.fOwner, .int .i64 y.fLiteral, .string y.fRule, .slice a6 y.fIds.length c6, .slice a7 y.fShape.length c7, .slice a8 y.fReads.length c8] 34)).cell? ⟨w.heap.size + 1, 1, none⟩ = some (.string x.fName) := pblk_cell HXE.out rfl
          have e0 : (wr.alloc (.cells #[.int .i64 x.fNode, .string x.fName, .int .i64 y.fValue, .int .i64 y.fOwner, .int .i64 y.fLiteral, .string y.fRule, .slice a6 y.fIds.length c6, .slice a7 y.fShape.length c7, .slice a8 y.fReads.length c8] 34)).cell? ⟨wr.heap.size, 0, none⟩ = some (.int .i64 x.fNode) := pblk_cell (blk_new rfl) rfl
          have e1 : (wr.alloc (.cells #[.int .i64 x.fNode, .string x.fName, .int .i64 y.fValue, .int .i64 y.fOwner, .int .i64 y.fLiteral, .string y.fRule, .slice a6 y.fIds.length c6, .slice a7 y.fShape.length c7, .slice a8 y.fReads.length c8] 34)).cell? ⟨wr.heap.size, 1, none⟩ = some (.string x.fName) := pblk_cell (blk_new rfl) rfl
          have e2 : (wr.alloc (.cells #[.int .i64 x.fNode, .string x.fName, .int .i64 y.fValue, .int .i64 y.fOwner, .int .i64 y.fLiteral, .string y.fRule, .slice a6 y.fIds.length c6, .slice a7 y.fShape.length c7, .slice a8 y.fReads.length c8] 34)).cell? ⟨wr.heap.size, 2, none⟩ = some (.int .i64 y.fValue) := pblk_cell (blk_new rfl) rfl
          have e3 : (wr.alloc (.cells #[.int .i64 x.fNode, .string x.fName, .int .i64 y.fValue, .int .i64 y.fOwner, .int .i64 y.fLiteral, .string y.fRule, .slice a6 y.fIds.length c6, .slice a7 y.fShape.length c7, .slice a8 y.fReads.length c8] 34)).cell? ⟨wr.heap.size, 3, none⟩ = some (.int .i64 y.fOwner) := pblk_cell (blk_new rfl) rfl
          have e4 : (wr.alloc (.cells #[.int .i64 x.fNode, .string x.fName, .int .i64 y.fValue, .int .i64 y.fOwner, .int .i64 y.fLiteral, .string y.fRule, .slice a6 y.fIds.length c6, .slice a7 y.fShape.length c7, .slice a8 y.fReads.length c8] 34)).cell? ⟨wr.heap.size, 4, none⟩ = some (.int .i64 y.fLiteral) := pblk_cell (blk_new rfl) rfl
          have e5 : (wr.alloc (.cells #[.int .i64 x.fNode, .string x.fName, .int .i64 y.fValue, .int .i64 y.fOwner, .int .i64 y.fLiteral, .string y.fRule, .slice a6 y.fIds.length c6, .slice a7 y.fShape.length c7, .slice a8 y.fReads.length c8] 34)).cell? ⟨wr.heap.size, 5, none⟩ = some (.string y.fRule) := pblk_cell (blk_new rfl) rfl
          have e6 : (wr.alloc (.cells #[.int .i64 x.fNode, .string x.fName, .int .i64 y.fValue, .int .i64 y.fOwner, .int .i64 y.fLiteral, .string y.fRule, .slice a6 y.fIds.length c6, .slice a7 y.fShape.length c7, .slice a8 y.fReads.length c8] 34)).cell? ⟨wr.heap.size, 6, none⟩ = some (.slice a6 y.fIds.length c6) := pblk_cell (blk_new rfl) rfl
          have e7 : (wr.alloc (.cells #[.int .i64 x.fNode, .string x.fName, .int .i64 y.fValue, .int .i64 y.fOwner, .int .i64 y.fLiteral, .string y.fRule, .slice a6 y.fIds.length c6, .slice a7 y.fShape.length c7, .slice a8 y.fReads.length c8] 34)).cell? ⟨wr.heap.size, 7, none⟩ = some (.slice a7 y.fShape.length c7) := pblk_cell (blk_new rfl) rfl
          have e8 : (wr.alloc (.cells #[.int .i64 x.fNode, .string x.fName, .int .i64 y.fValue, .int .i64 y.fOwner, .int .i64 y.fLiteral, .string y.fRule, .slice a6 y.fIds.length c6, .slice a7 y.fShape.length c7, .slice a8 y.fReads.length c8] 34)).cell? ⟨wr.heap.size, 8, none⟩ = some (.slice a8 y.fReads.length c8) := pblk_cell (blk_new rfl) rfl
          go_wp2_with (first | (refine wpList_store_rowTo rfl 34 (.tmp 7) (.tmp 14) rfl rfl wr.heap.size _ rfl rfl 34 _ (blk_new rfl) (by kernel_rfl) rfl (by simp [Value.oneCell']) ?_; rw [setRow_newE rfl]) | (refine wpList_store_rowTo rfl 34 (.tmp 4) (.tmp 19) rfl rfl (w.heap.size + 2) _ rfl rfl 34 _ HZE.out (by kernel_rfl) rfl (by simp [Value.oneCell']) ?_))
          refine bodyPost_ret (v := .tuple #[.agg #[.int .i64 x.fNode, .string x.fName, .int .i64 y.fValue, .int .i64 y.fOwner, .int .i64 y.fLiteral, .string y.fRule, .slice a6 y.fIds.length c6, .slice a7 y.fShape.length c7, .slice a8 y.fReads.length c8], .bool true]) (results_cell_tmp Try.results20 _ _ (w.heap.size + 2) 34 #[.int .i64 x.fNode, .string x.fName, .int .i64 y.fValue, .int .i64 y.fOwner, .int .i64 y.fLiteral, .string y.fRule, .slice a6 y.fIds.length c6, .slice a7 y.fShape.length c7, .slice a8 y.fReads.length c8] (0, 0) _ rfl (setRow_heap _ _ _ _ _ _ HZE.out) Try.underlying34 rfl (by kernel_rfl)) rfl ⟨?_, ?_⟩
          · rw [HIX.out.1, HIX.out.2]
            have hk : Kept (fun y => y < hi) wr ((wr.alloc (.cells #[.int .i64 x.fNode, .string x.fName, .int .i64 y.fValue, .int .i64 y.fOwner, .int .i64 y.fLiteral, .string y.fRule, .slice a6 y.fIds.length c6, .slice a7 y.fShape.length c7, .slice a8 y.fReads.length c8] 34)).setRow (w.heap.size + 2) #[.int .i64 x.fNode, .string x.fName, .int .i64 y.fValue, .int .i64 y.fOwner, .int .i64 y.fLiteral, .string y.fRule, .slice a6 y.fIds.length c6, .slice a7 y.fShape.length c7, .slice a8 y.fReads.length c8]) := kept_setRow (Kept.of_below_all HBA.out) (by have := HHI.out; omega)
            refine ⟨a6, a7, a8, c6, c7, c8, by rw [HA1.out, HA2.out], ?_, ?_, ?_⟩
            · exact HS6.out.frame fun b o h1 h2 => hk.cell (p := ⟨b, o, none⟩) h2 (by have := HHI.out; show b < _; omega)
            · exact HS7.out.frame fun b o h1 h2 => hk.cell (p := ⟨b, o, none⟩) h2 (by have := HHI.out; show b < _; omega)
            · exact HS8.out.frame fun b o h1 h2 => hk.cell (p := ⟨b, o, none⟩) h2 (by have := HHI.out; show b < _; omega)
          · exact pile_setRow (HBT.out.trans (HBA.out.mono HBT.out.size)) (by omega) _
        · have HN2 := Lib.hid (noneBelow_succ HN.out (k := k) (PEnt_no2 h2))
          rw [h1] at hc0
          have q2 : ((l.getD k default).fAt.fName.toList == x.fName.toList) = false := beq_eq_false_iff_ne.2 (fun e => h2 (toList_inj' e))
          have q3 : (x.fName.toList == (l.getD k default).fAt.fName.toList) = false := beq_eq_false_iff_ne.2 (fun e => h2 (toList_inj' e).symm)
          clear h1 h2
          generalize l.getD k default = y at *
          have HBA := Lib.hid (show Below wr.heap.size wr (wr.alloc (.cells #[.int .i64 x.fNode, .string y.fAt.fName, .int .i64 y.fValue, .int .i64 y.fOwner, .int .i64 y.fLiteral, .string y.fRule, .slice a6 y.fIds.length c6, .slice a7 y.fShape.length c7, .slice a8 y.fReads.length c8] 34)) from (Below.refl _ _).alloc (Nat.le_refl _) _)
          have HXE := Lib.hid (show (wr.alloc (.cells #[.int .i64 x.fNode, .string y.fAt.fName, .int .i64 y.fValue, .int .i64 y.fOwner, .int .i64 y.fLiteral, .string y.fRule, .slice a6 y.fIds.length c6, .slice a7 y.fShape.length c7, .slice a8 y.fReads.length c8] 34)).heap[w.heap.size + 1]? = some (.cells #[.int .i64 x.fNode, .string x.fName] 30) from blk_alloc (by omega) HXW.out)
          have HZE := Lib.hid (show (wr.alloc (.cells #[.int .i64 x.fNode, .string y.fAt.fName, .int .i64 y.fValue, .int .i64 y.fOwner, .int .i64 y.fLiteral, .string y.fRule, .slice a6 y.fIds.length c6, .slice a7 y.fShape.length c7, .slice a8 y.fReads.length c8] 34)).heap[w.heap.size + 2]? = some (.cells #[.int .i64 0, .string ⟨#[]⟩, .int .i64 0, .int .i64 0, .int .i64 0, .string ⟨#[]⟩, .slice none 0 0, .slice none 0 0, .slice none 0 0] 34) from blk_alloc (by omega) HZW.out)
          have x0 : (wr.alloc (.cells #[.int .i64 x.fNode, .string y.fAt.fName, .int .i64 y.fValue, .int .i64 y.fOwner, .int .i64 y.fLiteral, .string y.fRule, .slice a6 y.fIds.length c6, .slice a7 y.fShape.length c7, .slice a8 y.fReads.length c8] 34)).cell? ⟨w.heap.size + 1, 0, none⟩ = some (.int .i64 x.fNode) := pblk_cell HXE.out rfl
          have x1 : (wr.alloc (.cells #[.int .i64 x.fNode, .string y.fAt.fName, .int .i64 y.fValue, .int .i64 y.fOwner, .int .i64 y.fLiteral, .string y.fRule, .slice a6 y.fIds.length c6, .slice a7 y.fShape.length c7, .slice a8 y.fReads.length c8] 34)).cell? ⟨w.heap.size + 1, 1, none⟩ = some (.string x.fName) := pblk_cell HXE.out rfl
          have e0 : (wr.alloc (.cells #[.int .i64 x.fNode, .string y.fAt.fName, .int .i64 y.fValue, .int .i64 y.fOwner, .int .i64 y.fLiteral, .string y.fRule, .slice a6 y.fIds.length c6, .slice a7 y.fShape.length c7, .slice a8 y.fReads.length c8] 34)).cell? ⟨wr.heap.size, 0, none⟩ = some (.int .i64 x.fNode) := pblk_cell (blk_new rfl) rfl
          have e1 : (wr.alloc (.cells #[.int .i64 x.fNode, .string y.fAt.fName, .int .i64 y.fValue, .int .i64 y.fOwner, .int .i64 y.fLiteral, .string y.fRule, .slice a6 y.fIds.length c6, .slice a7 y.fShape.length c7, .slice a8 y.fReads.length c8] 34)).cell? ⟨wr.heap.size, 1, none⟩ = some (.string y.fAt.fName) := pblk_cell (blk_new rfl) rfl
          have e2 : (wr.alloc (.cells #[.int .i64 x.fNode, .string y.fAt.fName, .int .i64 y.fValue, .int .i64 y.fOwner, .int .i64 y.fLiteral, .string y.fRule, .slice a6 y.fIds.length c6, .slice a7 y.fShape.length c7, .slice a8 y.fReads.length c8] 34)).cell? ⟨wr.heap.size, 2, none⟩ = some (.int .i64 y.fValue) := pblk_cell (blk_new rfl) rfl
          have e3 : (wr.alloc (.cells #[.int .i64 x.fNode, .string y.fAt.fName, .int .i64 y.fValue, .int .i64 y.fOwner, .int .i64 y.fLiteral, .string y.fRule, .slice a6 y.fIds.length c6, .slice a7 y.fShape.length c7, .slice a8 y.fReads.length c8] 34)).cell? ⟨wr.heap.size, 3, none⟩ = some (.int .i64 y.fOwner) := pblk_cell (blk_new rfl) rfl
          have e4 : (wr.alloc (.cells #[.int .i64 x.fNode, .string y.fAt.fName, .int .i64 y.fValue, .int .i64 y.fOwner, .int .i64 y.fLiteral, .string y.fRule, .slice a6 y.fIds.length c6, .slice a7 y.fShape.length c7, .slice a8 y.fReads.length c8] 34)).cell? ⟨wr.heap.size, 4, none⟩ = some (.int .i64 y.fLiteral) := pblk_cell (blk_new rfl) rfl
          have e5 : (wr.alloc (.cells #[.int .i64 x.fNode, .string y.fAt.fName, .int .i64 y.fValue, .int .i64 y.fOwner, .int .i64 y.fLiteral, .string y.fRule, .slice a6 y.fIds.length c6, .slice a7 y.fShape.length c7, .slice a8 y.fReads.length c8] 34)).cell? ⟨wr.heap.size, 5, none⟩ = some (.string y.fRule) := pblk_cell (blk_new rfl) rfl
          have e6 : (wr.alloc (.cells #[.int .i64 x.fNode, .string y.fAt.fName, .int .i64 y.fValue, .int .i64 y.fOwner, .int .i64 y.fLiteral, .string y.fRule, .slice a6 y.fIds.length c6, .slice a7 y.fShape.length c7, .slice a8 y.fReads.length c8] 34)).cell? ⟨wr.heap.size, 6, none⟩ = some (.slice a6 y.fIds.length c6) := pblk_cell (blk_new rfl) rfl
          have e7 : (wr.alloc (.cells #[.int .i64 x.fNode, .string y.fAt.fName, .int .i64 y.fValue, .int .i64 y.fOwner, .int .i64 y.fLiteral, .string y.fRule, .slice a6 y.fIds.length c6, .slice a7 y.fShape.length c7, .slice a8 y.fReads.length c8] 34)).cell? ⟨wr.heap.size, 7, none⟩ = some (.slice a7 y.fShape.length c7) := pblk_cell (blk_new rfl) rfl
          have e8 : (wr.alloc (.cells #[.int .i64 x.fNode, .string y.fAt.fName, .int .i64 y.fValue, .int .i64 y.fOwner, .int .i64 y.fLiteral, .string y.fRule, .slice a6 y.fIds.length c6, .slice a7 y.fShape.length c7, .slice a8 y.fReads.length c8] 34)).cell? ⟨wr.heap.size, 8, none⟩ = some (.slice a8 y.fReads.length c8) := pblk_cell (blk_new rfl) rfl
          generalize y.fAt.fName = q1 at *
          go_wp2_with (refine wpList_store_rowTo rfl 34 (.tmp 7) (.tmp 14) rfl rfl wr.heap.size _ rfl rfl 34 _ (blk_new rfl) (by kernel_rfl) rfl (by simp [Value.oneCell']) ?_; rw [setRow_newE rfl])
          go_roundw
          case rel => exact ⟨k + 1, by omega, by go_num, HN2.out, HBW.out.trans (HBA.out.mono HBW.out.size)⟩
          case measure => simp [intOf]; omega
      · have HN2 := Lib.hid (noneBelow_succ HN.out (k := k) (PEnt_no1 h1))
        have q2 : ((l.getD k default).fAt.fNode == x.fNode) = false := beq_eq_false_iff_ne.2 h1
        have q3 : (x.fNode == (l.getD k default).fAt.fNode) = false := beq_eq_false_iff_ne.2 (Ne.symm h1)
        clear h1
        generalize l.getD k default = y at *
        have HBA := Lib.hid (show Below wr.heap.size wr (wr.alloc (.cells #[.int .i64 y.fAt.fNode, .string y.fAt.fName, .int .i64 y.fValue, .int .i64 y.fOwner, .int .i64 y.fLiteral, .string y.fRule, .slice a6 y.fIds.length c6, .slice a7 y.fShape.length c7, .slice a8 y.fReads.length c8] 34)) from (Below.refl _ _).alloc (Nat.le_refl _) _)
        have HXE := Lib.hid (show (wr.alloc (.cells #[.int .i64 y.fAt.fNode, .string y.fAt.fName, .int .i64 y.fValue, .int .i64 y.fOwner, .int .i64 y.fLiteral, .string y.fRule, .slice a6 y.fIds.length c6, .slice a7 y.fShape.length c7, .slice a8 y.fReads.length c8] 34)).heap[w.heap.size + 1]? = some (.cells #[.int .i64 x.fNode, .string x.fName] 30) from blk_alloc (by omega) HXW.out)
        have HZE := Lib.hid (show (wr.alloc (.cells #[.int .i64 y.fAt.fNode, .string y.fAt.fName, .int .i64 y.fValue, .int .i64 y.fOwner, .int .i64 y.fLiteral, .string y.fRule, .slice a6 y.fIds.length c6, .slice a7 y.fShape.length c7, .slice a8 y.fReads.length c8] 34)).heap[w.heap.size + 2]? = some (.cells #[.int .i64 0, .string ⟨#[]⟩, .int .i64 0, .int .i64 0, .int .i64 0, .string ⟨#[]⟩, .slice none 0 0, .slice none 0 0, .slice none 0 0] 34) from blk_alloc (by omega) HZW.out)
        have x0 : (wr.alloc (.cells #[.int .i64 y.fAt.fNode, .string y.fAt.fName, .int .i64 y.fValue, .int .i64 y.fOwner, .int .i64 y.fLiteral, .string y.fRule, .slice a6 y.fIds.length c6, .slice a7 y.fShape.length c7, .slice a8 y.fReads.length c8] 34)).cell? ⟨w.heap.size + 1, 0, none⟩ = some (.int .i64 x.fNode) := pblk_cell HXE.out rfl
        have x1 : (wr.alloc (.cells #[.int .i64 y.fAt.fNode, .string y.fAt.fName, .int .i64 y.fValue, .int .i64 y.fOwner, .int .i64 y.fLiteral, .string y.fRule, .slice a6 y.fIds.length c6, .slice a7 y.fShape.length c7, .slice a8 y.fReads.length c8] 34)).cell? ⟨w.heap.size + 1, 1, none⟩ = some (.string x.fName) := pblk_cell HXE.out rfl
        have e0 : (wr.alloc (.cells #[.int .i64 y.fAt.fNode, .string y.fAt.fName, .int .i64 y.fValue, .int .i64 y.fOwner, .int .i64 y.fLiteral, .string y.fRule, .slice a6 y.fIds.length c6, .slice a7 y.fShape.length c7, .slice a8 y.fReads.length c8] 34)).cell? ⟨wr.heap.size, 0, none⟩ = some (.int .i64 y.fAt.fNode) := pblk_cell (blk_new rfl) rfl
        have e1 : (wr.alloc (.cells #[.int .i64 y.fAt.fNode, .string y.fAt.fName, .int .i64 y.fValue, .int .i64 y.fOwner, .int .i64 y.fLiteral, .string y.fRule, .slice a6 y.fIds.length c6, .slice a7 y.fShape.length c7, .slice a8 y.fReads.length c8] 34)).cell? ⟨wr.heap.size, 1, none⟩ = some (.string y.fAt.fName) := pblk_cell (blk_new rfl) rfl
        have e2 : (wr.alloc (.cells #[.int .i64 y.fAt.fNode, .string y.fAt.fName, .int .i64 y.fValue, .int .i64 y.fOwner, .int .i64 y.fLiteral, .string y.fRule, .slice a6 y.fIds.length c6, .slice a7 y.fShape.length c7, .slice a8 y.fReads.length c8] 34)).cell? ⟨wr.heap.size, 2, none⟩ = some (.int .i64 y.fValue) := pblk_cell (blk_new rfl) rfl
        have e3 : (wr.alloc (.cells #[.int .i64 y.fAt.fNode, .string y.fAt.fName, .int .i64 y.fValue, .int .i64 y.fOwner, .int .i64 y.fLiteral, .string y.fRule, .slice a6 y.fIds.length c6, .slice a7 y.fShape.length c7, .slice a8 y.fReads.length c8] 34)).cell? ⟨wr.heap.size, 3, none⟩ = some (.int .i64 y.fOwner) := pblk_cell (blk_new rfl) rfl
        have e4 : (wr.alloc (.cells #[.int .i64 y.fAt.fNode, .string y.fAt.fName, .int .i64 y.fValue, .int .i64 y.fOwner, .int .i64 y.fLiteral, .string y.fRule, .slice a6 y.fIds.length c6, .slice a7 y.fShape.length c7, .slice a8 y.fReads.length c8] 34)).cell? ⟨wr.heap.size, 4, none⟩ = some (.int .i64 y.fLiteral) := pblk_cell (blk_new rfl) rfl
        have e5 : (wr.alloc (.cells #[.int .i64 y.fAt.fNode, .string y.fAt.fName, .int .i64 y.fValue, .int .i64 y.fOwner, .int .i64 y.fLiteral, .string y.fRule, .slice a6 y.fIds.length c6, .slice a7 y.fShape.length c7, .slice a8 y.fReads.length c8] 34)).cell? ⟨wr.heap.size, 5, none⟩ = some (.string y.fRule) := pblk_cell (blk_new rfl) rfl
        have e6 : (wr.alloc (.cells #[.int .i64 y.fAt.fNode, .string y.fAt.fName, .int .i64 y.fValue, .int .i64 y.fOwner, .int .i64 y.fLiteral, .string y.fRule, .slice a6 y.fIds.length c6, .slice a7 y.fShape.length c7, .slice a8 y.fReads.length c8] 34)).cell? ⟨wr.heap.size, 6, none⟩ = some (.slice a6 y.fIds.length c6) := pblk_cell (blk_new rfl) rfl
        have e7 : (wr.alloc (.cells #[.int .i64 y.fAt.fNode, .string y.fAt.fName, .int .i64 y.fValue, .int .i64 y.fOwner, .int .i64 y.fLiteral, .string y.fRule, .slice a6 y.fIds.length c6, .slice a7 y.fShape.length c7, .slice a8 y.fReads.length c8] 34)).cell? ⟨wr.heap.size, 7, none⟩ = some (.slice a7 y.fShape.length c7) := pblk_cell (blk_new rfl) rfl
        have e8 : (wr.alloc (.cells #[.int .i64 y.fAt.fNode, .string y.fAt.fName, .int .i64 y.fValue, .int .i64 y.fOwner, .int .i64 y.fLiteral, .string y.fRule, .slice a6 y.fIds.length c6, .slice a7 y.fShape.length c7, .slice a8 y.fReads.length c8] 34)).cell? ⟨wr.heap.size, 8, none⟩ = some (.slice a8 y.fReads.length c8) := pblk_cell (blk_new rfl) rfl
        generalize y.fAt.fName = q1 at *
        generalize y.fAt.fNode = q0 at *
        go_wp2_with (refine wpList_store_rowTo rfl 34 (.tmp 7) (.tmp 14) rfl rfl wr.heap.size _ rfl rfl 34 _ (blk_new rfl) (by kernel_rfl) rfl (by simp [Value.oneCell']) ?_; rw [setRow_newE rfl])
        go_roundw
        case rel => exact ⟨k + 1, by omega, by go_num, HN2.out, HBW.out.trans (HBA.out.mono HBW.out.size)⟩
        case measure => simp [intOf]; omega
    · obtain rfl : k = l.length := by omega
      have HIX := Lib.hid (HE0.out (idxI_none HN.out))
      go_wp2_with (first | (refine wpList_buildTo rfl 34 _ rfl (some 21) rfl #[.int .i64 0, .string ⟨#[]⟩, .int .i64 0, .int .i64 0, .int .i64 0, .string ⟨#[]⟩, .slice none 0 0, .slice none 0 0, .slice none 0 0] (by kernel_rfl) ?_) | (refine wpList_store_rowTo rfl 34 (.tmp 4) (.tmp 21) rfl rfl (w.heap.size + 2) #[.int .i64 0, .string ⟨#[]⟩, .int .i64 0, .int .i64 0, .int .i64 0, .string ⟨#[]⟩, .slice none 0 0, .slice none 0 0, .slice none 0 0] rfl rfl 34 _ HZW.out (by kernel_rfl) rfl (by kernel_rfl) ?_))
      refine bodyPost_ret (v := .tuple #[.agg #[.int .i64 0, .string ⟨#[]⟩, .int .i64 0, .int .i64 0, .int .i64 0, .string ⟨#[]⟩, .slice none 0 0, .slice none 0 0, .slice none 0 0], .bool false]) (results_cell_tmp Try.results20 _ _ (w.heap.size + 2) 34 #[.int .i64 0, .string ⟨#[]⟩, .int .i64 0, .int .i64 0, .int .i64 0, .string ⟨#[]⟩, .slice none 0 0, .slice none 0 0, .slice none 0 0] (0, 0) _ rfl (setRow_heap _ _ _ _ _ _ HZW.out) Try.underlying34 rfl (by kernel_rfl)) rfl ⟨?_, ?_⟩
      · rw [HIX.out.1, HIX.out.2]
        exact ⟨none, none, none, 0, 0, 0, rfl, Sl.nil, Sl.nil, Sl.nil⟩
      · exact pile_setRow HBT.out (by omega) _
end Go.Proofs.Ythgpompoionfoaa
