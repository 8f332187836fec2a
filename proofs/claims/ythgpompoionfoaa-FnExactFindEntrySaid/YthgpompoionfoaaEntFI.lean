/-
  FindEntry of the program, by what its copy of an entry answers.
-/
import Derived.Test.YthgpompoionfoaaEntFS
namespace Go.Proofs.Ythgpompoionfoaa
open Go.ChangeShapes Go.WideShapes Go.ChangeAt Go.RowKit Go.Deep

/-- What copyEntry answers. -/
def CopyEnt : Prop := ∀ ⦃lo hi : Nat⦄ ⦃a6 a7 a8 : Option Addr⦄ ⦃c6 c7 c8 : Nat⦄ (y : DEntry), y.fIds.length ≤ 1048576 → y.fShape.length ≤ 1048576 → y.fReads.length ≤ 1048576 → ∀ w : World, hi ≤ w.heap.size → (Sl lo hi w 1 y.fIds.length (fun k => ictI (y.fIds.getD k default)) a6 ∧ Sl lo hi w 1 y.fShape.length (fun k => ictI (y.fShape.getD k default)) a7 ∧ Sl lo hi w 4 y.fReads.length (fun k => DReading.ct (y.fReads.getD k default)) a8) →
  Calls Try.prog 21 #[.agg #[.int .i64 y.fAt.fNode, .string y.fAt.fName, .int .i64 y.fValue, .int .i64 y.fOwner, .int .i64 y.fLiteral, .string y.fRule, .slice a6 y.fIds.length c6, .slice a7 y.fShape.length c7, .slice a8 y.fReads.length c8]] w fun e w' => EntOwn w.heap.size y w' e ∧ Below w.heap.size w w'
theorem entE_lens {l : List DEntry} (h : lsz DEntry.sz l ≤ 1048576) (x : DInstance) : (entE l x).fIds.length ≤ 1048576 ∧ (entE l x).fShape.length ≤ 1048576 ∧ (entE l x).fReads.length ≤ 1048576 := by
  unfold entE
  split
  · by_cases hk : (idxI (PEnt x) l).toNat < l.length
    · exact ent_lens h hk
    · rw [List.getD_eq_getElem?_getD, List.getElem?_eq_none (by omega)]
      exact ⟨Nat.zero_le _, Nat.zero_le _, Nat.zero_le _⟩
  · exact ⟨Nat.zero_le _, Nat.zero_le _, Nat.zero_le _⟩

set_option maxHeartbeats 12800000 in
set_option maxRecDepth 100000 in
theorem impl_FindEntryOf (HCE : CopyEnt) {lo hi n1 c0 c1 : Nat} {a0 a1 : Option Addr} (l : List DEntry) (hzl : lsz DEntry.sz l ≤ 1048576) (x : DInstance) (w : World) (hhi : hi ≤ w.heap.size) (hs : Sl lo hi w 9 l.length (fun k => DEntry.ct (l.getD k default)) a0) :
    Calls Try.prog 9 #[.agg #[.slice a0 l.length c0, .slice a1 n1 c1], .agg #[.int .i64 x.fNode, .string x.fName]] w fun e w' => EntAns w.heap.size (entE l x) (entB l x) w' e ∧ Below w.heap.size w w' := by
  have hn : l.length ≤ 1048576 := by unfold lsz at hzl; omega
  have HB := Lib.hid (show Below w.heap.size w (((w.alloc (.cells #[.slice a0 l.length c0, .slice a1 n1 c1] 40)).alloc (.cells #[.int .i64 x.fNode, .string x.fName] 30)).alloc (.cells #[.int .i64 0, .string ⟨#[]⟩, .int .i64 0, .int .i64 0, .int .i64 0, .string ⟨#[]⟩, .slice none 0 0, .slice none 0 0, .slice none 0 0] 34)) from (((Below.refl w.heap.size w).alloc (Nat.le_refl _) (.cells #[.slice a0 l.length c0, .slice a1 n1 c1] 40)).alloc (by simp) (.cells #[.int .i64 x.fNode, .string x.fName] 30)).alloc (by simp <;> omega) (.cells #[.int .i64 0, .string ⟨#[]⟩, .int .i64 0, .int .i64 0, .int .i64 0, .string ⟨#[]⟩, .slice none 0 0, .slice none 0 0, .slice none 0 0] 34))
  have HBZ := Lib.hid (show (((w.alloc (.cells #[.slice a0 l.length c0, .slice a1 n1 c1] 40)).alloc (.cells #[.int .i64 x.fNode, .string x.fName] 30)).alloc (.cells #[.int .i64 0, .string ⟨#[]⟩, .int .i64 0, .int .i64 0, .int .i64 0, .string ⟨#[]⟩, .slice none 0 0, .slice none 0 0, .slice none 0 0] 34)).heap[w.heap.size + 2]? = some (.cells #[.int .i64 0, .string ⟨#[]⟩, .int .i64 0, .int .i64 0, .int .i64 0, .string ⟨#[]⟩, .slice none 0 0, .slice none 0 0, .slice none 0 0] 34) from blk_new (by simp))
  have HZ := Lib.hid (show (((w.alloc (.cells #[.slice a0 l.length c0, .slice a1 n1 c1] 40)).alloc (.cells #[.int .i64 x.fNode, .string x.fName] 30)).alloc (.cells #[.int .i64 0, .string ⟨#[]⟩, .int .i64 0, .int .i64 0, .int .i64 0, .string ⟨#[]⟩, .slice none 0 0, .slice none 0 0, .slice none 0 0] 34)).heap.size = w.heap.size + 3 by simp)
  have HHI := Lib.hid hhi
  have HEA := Lib.hid (impl_entryAtO (c0 := c0) (c1 := c1) (n1 := n1) (a1 := a1) l hn x (((w.alloc (.cells #[.slice a0 l.length c0, .slice a1 n1 c1] 40)).alloc (.cells #[.int .i64 x.fNode, .string x.fName] 30)).alloc (.cells #[.int .i64 0, .string ⟨#[]⟩, .int .i64 0, .int .i64 0, .int .i64 0, .string ⟨#[]⟩, .slice none 0 0, .slice none 0 0, .slice none 0 0] 34)) (Nat.le_trans hhi HB.out.size) (hs.later HB.out hhi))
  have HLN := Lib.hid (entE_lens hzl x)
  clear hs hhi hzl
  generalize entE l x = y at *
  generalize entB l x = bb at *
  go_enter Try.func9, Try.ntmps9
  go_wp2_with fail
  refine HEA.out.mono ?_
  rintro e w1 ⟨⟨a6, a7, a8, c6, c7, c8, rfl, hs6, hs7, hs8⟩, hb1⟩
  have HB1 := Lib.hid (HB.out.trans (hb1.mono HB.out.size))
  have hz1 : w.heap.size + 3 ≤ w1.heap.size := HZ.out ▸ hb1.size
  have HBZ1 := Lib.hid ((hb1.block (w.heap.size + 2) (by rw [HZ.out]; omega)).trans HBZ.out)
  have HBA := Lib.hid (show Below w1.heap.size w1 (w1.alloc (.cells #[.int .i64 y.fAt.fNode, .string y.fAt.fName, .int .i64 y.fValue, .int .i64 y.fOwner, .int .i64 y.fLiteral, .string y.fRule, .slice a6 y.fIds.length c6, .slice a7 y.fShape.length c7, .slice a8 y.fReads.length c8] 34)) from (Below.refl _ _).alloc (Nat.le_refl _) _)
  have hhi1 : hi ≤ w1.heap.size := by have := HHI.out; omega
  have HCC := Lib.hid (HCE (lo := lo) (hi := hi) (a6 := a6) (a7 := a7) (a8 := a8) (c6 := c6) (c7 := c7) (c8 := c8) y HLN.out.1 HLN.out.2.1 HLN.out.2.2 (w1.alloc (.cells #[.int .i64 y.fAt.fNode, .string y.fAt.fName, .int .i64 y.fValue, .int .i64 y.fOwner, .int .i64 y.fLiteral, .string y.fRule, .slice a6 y.fIds.length c6, .slice a7 y.fShape.length c7, .slice a8 y.fReads.length c8] 34)) (Nat.le_trans hhi1 HBA.out.size) ⟨hs6.later HBA.out hhi1, hs7.later HBA.out hhi1, hs8.later HBA.out hhi1⟩)
  clear hb1 hs6 hs7 hs8 HEA HCE
  have e0 : (w1.alloc (.cells #[.int .i64 y.fAt.fNode, .string y.fAt.fName, .int .i64 y.fValue, .int .i64 y.fOwner, .int .i64 y.fLiteral, .string y.fRule, .slice a6 y.fIds.length c6, .slice a7 y.fShape.length c7, .slice a8 y.fReads.length c8] 34)).cell? ⟨w1.heap.size, 0, none⟩ = some (.int .i64 y.fAt.fNode) := pblk_cell (blk_new rfl) rfl
  have e1 : (w1.alloc (.cells #[.int .i64 y.fAt.fNode, .string y.fAt.fName, .int .i64 y.fValue, .int .i64 y.fOwner, .int .i64 y.fLiteral, .string y.fRule, .slice a6 y.fIds.length c6, .slice a7 y.fShape.length c7, .slice a8 y.fReads.length c8] 34)).cell? ⟨w1.heap.size, 1, none⟩ = some (.string y.fAt.fName) := pblk_cell (blk_new rfl) rfl
  have e2 : (w1.alloc (.cells #[.int .i64 y.fAt.fNode, .string y.fAt.fName, .int .i64 y.fValue, .int .i64 y.fOwner, .int .i64 y.fLiteral, .string y.fRule, .slice a6 y.fIds.length c6, .slice a7 y.fShape.length c7, .slice a8 y.fReads.length c8] 34)).cell? ⟨w1.heap.size, 2, none⟩ = some (.int .i64 y.fValue) := pblk_cell (blk_new rfl) rfl
  have e3 : (w1.alloc (.cells #[.int .i64 y.fAt.fNode, .string y.fAt.fName, .int .i64 y.fValue, .int .i64 y.fOwner, .int .i64 y.fLiteral, .string y.fRule, .slice a6 y.fIds.length c6, .slice a7 y.fShape.length c7, .slice a8 y.fReads.length c8] 34)).cell? ⟨w1.heap.size, 3, none⟩ = some (.int .i64 y.fOwner) := pblk_cell (blk_new rfl) rfl
  have e4 : (w1.alloc (.cells #[.int .i64 y.fAt.fNode, .string y.fAt.fName, .int .i64 y.fValue, .int .i64 y.fOwner, .int .i64 y.fLiteral, .string y.fRule, .slice a6 y.fIds.length c6, .slice a7 y.fShape.length c7, .slice a8 y.fReads.length c8] 34)).cell? ⟨w1.heap.size, 4, none⟩ = some (.int .i64 y.fLiteral) := pblk_cell (blk_new rfl) rfl
  have e5 : (w1.alloc (.cells #[.int .i64 y.fAt.fNode, .string y.fAt.fName, .int .i64 y.fValue, .int .i64 y.fOwner, .int .i64 y.fLiteral, .string y.fRule, .slice a6 y.fIds.length c6, .slice a7 y.fShape.length c7, .slice a8 y.fReads.length c8] 34)).cell? ⟨w1.heap.size, 5, none⟩ = some (.string y.fRule) := pblk_cell (blk_new rfl) rfl
  have e6 : (w1.alloc (.cells #[.int .i64 y.fAt.fNode, .string y.fAt.fName, .int .i64 y.fValue, .int .i64 y.fOwner, .int .i64 y.fLiteral, .string y.fRule, .slice a6 y.fIds.length c6, .slice a7 y.fShape.length c7, .slice a8 y.fReads.length c8] 34)).cell? ⟨w1.heap.size, 6, none⟩ = some (.slice a6 y.fIds.length c6) := pblk_cell (blk_new rfl) rfl
  have e7 : (w1.alloc (.cells #[.int .i64 y.fAt.fNode, .string y.fAt.fName, .int .i64 y.fValue, .int .i64 y.fOwner, .int .i64 y.fLiteral, .string y.fRule, .slice a6 y.fIds.length c6, .slice a7 y.fShape.length c7, .slice a8 y.fReads.length c8] 34)).cell? ⟨w1.heap.size, 7, none⟩ = some (.slice a7 y.fShape.length c7) := pblk_cell (blk_new rfl) rfl
  have e8 : (w1.alloc (.cells #[.int .i64 y.fAt.fNode, .string y.fAt.fName, .int .i64 y.fValue, .int .i64 y.fOwner, .int .i64 y.fLiteral, .string y.fRule, .slice a6 y.fIds.length c6, .slice a7 y.fShape.length c7, .slice a8 y.fReads.length c8] 34)).cell? ⟨w1.heap.size, 8, none⟩ = some (.slice a8 y.fReads.length c8) := pblk_cell (blk_new rfl) rfl
  go_wp2_with (refine wpList_store_rowTo rfl 34 (.tmp 6) (.tmp 12) rfl rfl w1.heap.size _ rfl rfl 34 _ (blk_new rfl) (by kernel_rfl) rfl (by simp [Value.oneCell']) ?_; rw [setRow_newE rfl])
  refine HCC.out.mono ?_
  rintro e w5 ⟨⟨b6, b7, b8, d6, d7, d8, rfl, hown⟩, hb5⟩
  have HB5 := Lib.hid (HB1.out.trans ((HBA.out.trans (hb5.mono HBA.out.size)).mono HB1.out.size))
  have HBZ5 := Lib.hid (((HBA.out.trans (hb5.mono HBA.out.size)).block (w.heap.size + 2) (by omega)).trans HBZ1.out)
  have hz5 : w.heap.size + 3 ≤ (w1.alloc (.cells #[.int .i64 y.fAt.fNode, .string y.fAt.fName, .int .i64 y.fValue, .int .i64 y.fOwner, .int .i64 y.fLiteral, .string y.fRule, .slice a6 y.fIds.length c6, .slice a7 y.fShape.length c7, .slice a8 y.fReads.length c8] 34)).heap.size := Nat.le_trans hz1 HBA.out.size
  have HOW := Lib.hid (hown.sub (F' := fun z => w.heap.size + 3 ≤ z ∧ z < w5.heap.size) fun z hz => ⟨Nat.le_trans hz5 hz.1, hz.2⟩)
  have hz6 : w.heap.size + 3 ≤ w5.heap.size := Nat.le_trans hz5 hb5.size
  clear hown hb5 HCC e0 e1 e2 e3 e4 e5 e6 e7 e8
  go_wp2_with (refine wpList_store_rowTo rfl 34 (.tmp 4) (.tmp 15) rfl rfl (w.heap.size + 2) _ rfl rfl 34 _ HBZ5.out (by kernel_rfl) rfl (by simp [Value.oneCell']) ?_)
  refine bodyPost_ret (v := .tuple #[.agg #[.int .i64 y.fAt.fNode, .string y.fAt.fName, .int .i64 y.fValue, .int .i64 y.fOwner, .int .i64 y.fLiteral, .string y.fRule, .slice b6 y.fIds.length d6, .slice b7 y.fShape.length d7, .slice b8 y.fReads.length d8], .bool bb]) (results_cell_tmp Try.results9 _ _ (w.heap.size + 2) 34 #[.int .i64 y.fAt.fNode, .string y.fAt.fName, .int .i64 y.fValue, .int .i64 y.fOwner, .int .i64 y.fLiteral, .string y.fRule, .slice b6 y.fIds.length d6, .slice b7 y.fShape.length d7, .slice b8 y.fReads.length d8] (0, 0) _ rfl (setRow_heap _ _ _ _ _ _ HBZ5.out) Try.underlying34 rfl (by kernel_rfl)) rfl ⟨?_, ?_⟩
  · have hk : Kept (fun z => w.heap.size + 3 ≤ z) w5 (w5.setRow (w.heap.size + 2) #[.int .i64 y.fAt.fNode, .string y.fAt.fName, .int .i64 y.fValue, .int .i64 y.fOwner, .int .i64 y.fLiteral, .string y.fRule, .slice b6 y.fIds.length d6, .slice b7 y.fShape.length d7, .slice b8 y.fReads.length d8]) := kept_setRow Kept.refl (by show ¬ w.heap.size + 3 ≤ w.heap.size + 2; omega)
    exact ⟨b6, b7, b8, d6, d7, d8, rfl, (HOW.out.kept (hk.sub fun z hz => hz.1)).sub fun z hz => ⟨by have := hz.1; omega, Nat.lt_of_lt_of_le hz.2 hk.1⟩⟩
  · exact pile_setRow HB5.out (by omega) _
end Go.Proofs.Ythgpompoionfoaa
