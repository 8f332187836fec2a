/-
  The model's copy of an entry, in memory of its own.
-/
import Derived.Test.YthgpompoionfoaaEntLies
import Derived.Test.YthgpompoionfoaaFindEntry
import Derived.Test.YthgpompoionfoaaSpread3
namespace Go.Proofs.Ythgpompoionfoaa
open Go.ChangeShapes Go.WideShapes Go.ChangeAt Go.RowKit Go.Deep

def StopE (p : Prop) : Prop := p
theorem StopE.of {p : Prop} (h : StopE p) : p := h
theorem StopE.to {p : Prop} (h : p) : StopE p := h

/-- An entry of the call's own. -/
def EntOwn (B : Nat) (x : DEntry) (w' : World) (e : Ending) : Prop := ∃ (a6 a7 a8 : Option Addr) (c6 c7 c8 : Nat), e = .returned (.agg #[.int .i64 x.fAt.fNode, .string x.fAt.fName, .int .i64 x.fValue, .int .i64 x.fOwner, .int .i64 x.fLiteral, .string x.fRule, .slice a6 x.fIds.length c6, .slice a7 x.fShape.length c7, .slice a8 x.fReads.length c8]) ∧ OwnR w' (fun y => B ≤ y ∧ y < w'.heap.size) 9 x.ct (fun j => [.int .i64 x.fAt.fNode, .string x.fAt.fName, .int .i64 x.fValue, .int .i64 x.fOwner, .int .i64 x.fLiteral, .string x.fRule, .slice a6 x.fIds.length c6, .slice a7 x.fShape.length c7, .slice a8 x.fReads.length c8].getD j .nilFunc)

set_option maxHeartbeats 12800000 in
set_option maxRecDepth 100000 in
theorem spec_l36EntryO {lo hi c6 c7 c8 : Nat} {a6 a7 a8 : Option Addr} (x : DEntry) (h6 : x.fIds.length ≤ 1048576) (h7 : x.fShape.length ≤ 1048576) (h8 : x.fReads.length ≤ 1048576) (w : World) (hhi : hi ≤ w.heap.size) (hs6 : Sl lo hi w 1 x.fIds.length (fun k => ictI (x.fIds.getD k default)) a6) (hs7 : Sl lo hi w 1 x.fShape.length (fun k => ictI (x.fShape.getD k default)) a7) (hs8 : Sl lo hi w 4 x.fReads.length (fun k => DReading.ct (x.fReads.getD k default)) a8) :
    Calls Try.prog 17 #[.agg #[.int .i64 x.fAt.fNode, .string x.fAt.fName, .int .i64 x.fValue, .int .i64 x.fOwner, .int .i64 x.fLiteral, .string x.fRule, .slice a6 x.fIds.length c6, .slice a7 x.fShape.length c7, .slice a8 x.fReads.length c8]] w fun e w' => EntOwn w.heap.size x w' e ∧ Below w.heap.size w w' := by
  have HB0 := Lib.hid (show Below w.heap.size w ((w.alloc (.cells #[.int .i64 x.fAt.fNode, .string x.fAt.fName, .int .i64 x.fValue, .int .i64 x.fOwner, .int .i64 x.fLiteral, .string x.fRule, .slice a6 x.fIds.length c6, .slice a7 x.fShape.length c7, .slice a8 x.fReads.length c8] 34)).alloc (.cells #[.int .i64 0, .string ⟨#[]⟩, .int .i64 0, .int .i64 0, .int .i64 0, .string ⟨#[]⟩, .slice none 0 0, .slice none 0 0, .slice none 0 0] 34)) from ((Below.refl w.heap.size w).alloc (Nat.le_refl _) (.cells #[.int .i64 x.fAt.fNode, .string x.fAt.fName, .int .i64 x.fValue, .int .i64 x.fOwner, .int .i64 x.fLiteral, .string x.fRule, .slice a6 x.fIds.length c6, .slice a7 x.fShape.length c7, .slice a8 x.fReads.length c8] 34)).alloc (by simp) (.cells #[.int .i64 0, .string ⟨#[]⟩, .int .i64 0, .int .i64 0, .int .i64 0, .string ⟨#[]⟩, .slice none 0 0, .slice none 0 0, .slice none 0 0] 34))
  have HBE0 := Lib.hid (show ((w.alloc (.cells #[.int .i64 x.fAt.fNode, .string x.fAt.fName, .int .i64 x.fValue, .int .i64 x.fOwner, .int .i64 x.fLiteral, .string x.fRule, .slice a6 x.fIds.length c6, .slice a7 x.fShape.length c7, .slice a8 x.fReads.length c8] 34)).alloc (.cells #[.int .i64 0, .string ⟨#[]⟩, .int .i64 0, .int .i64 0, .int .i64 0, .string ⟨#[]⟩, .slice none 0 0, .slice none 0 0, .slice none 0 0] 34)).heap[w.heap.size]? = some (.cells #[.int .i64 x.fAt.fNode, .string x.fAt.fName, .int .i64 x.fValue, .int .i64 x.fOwner, .int .i64 x.fLiteral, .string x.fRule, .slice a6 x.fIds.length c6, .slice a7 x.fShape.length c7, .slice a8 x.fReads.length c8] 34) from blk_alloc (by simp) (blk_new rfl))
  have HBZ0 := Lib.hid (show ((w.alloc (.cells #[.int .i64 x.fAt.fNode, .string x.fAt.fName, .int .i64 x.fValue, .int .i64 x.fOwner, .int .i64 x.fLiteral, .string x.fRule, .slice a6 x.fIds.length c6, .slice a7 x.fShape.length c7, .slice a8 x.fReads.length c8] 34)).alloc (.cells #[.int .i64 0, .string ⟨#[]⟩, .int .i64 0, .int .i64 0, .int .i64 0, .string ⟨#[]⟩, .slice none 0 0, .slice none 0 0, .slice none 0 0] 34)).heap[w.heap.size + 1]? = some (.cells #[.int .i64 0, .string ⟨#[]⟩, .int .i64 0, .int .i64 0, .int .i64 0, .string ⟨#[]⟩, .slice none 0 0, .slice none 0 0, .slice none 0 0] 34) from blk_new (by simp))
  have HZ0 := Lib.hid (show ((w.alloc (.cells #[.int .i64 x.fAt.fNode, .string x.fAt.fName, .int .i64 x.fValue, .int .i64 x.fOwner, .int .i64 x.fLiteral, .string x.fRule, .slice a6 x.fIds.length c6, .slice a7 x.fShape.length c7, .slice a8 x.fReads.length c8] 34)).alloc (.cells #[.int .i64 0, .string ⟨#[]⟩, .int .i64 0, .int .i64 0, .int .i64 0, .string ⟨#[]⟩, .slice none 0 0, .slice none 0 0, .slice none 0 0] 34)).heap.size = w.heap.size + 2 by simp)
  have HS6 := Lib.hid (fun (W : World) (hW : Below w.heap.size w W) => hs6.later hW hhi)
  have HS7 := Lib.hid (fun (W : World) (hW : Below w.heap.size w W) => hs7.later hW hhi)
  have HS8 := Lib.hid (fun (W : World) (hW : Below w.heap.size w W) => hs8.later hW hhi)
  obtain ⟨i0, hi', hz0, hz1, hz2⟩ := info_parts info_Int
  obtain ⟨i8, hi8, hz80, hz81, hz82⟩ := info_parts info_Reading
  clear hs6 hs7 hs8 hhi
  go_enter Try.func17, Try.ntmps17
  go_wp2_with (at_builtin; refine wpList_append_fresh rfl (.tmp 3) (.tmp 5) 31 rfl 3 i0 (.int .i64 0) 1 8 Try.underlying31 hi' hz0 hz1 hz2 rfl (by decide) (w.heap.size + 2) (blk_new (by simp)) rfl (lo := lo) (hi2 := hi) (vals := vInt) (ct := ictI) x.fIds a6 c6 rfl vInt_len vInt_ct vInt_one (HS6.out _ (HB0.out.alloc (by rw [HZ0.out]; omega) _)) (by unfold maxLen; omega) (by omega) ?_; intro b6 d6 w1 ho hb; refine StopE.of ?_)
  have hsz : w.heap.size + 2 ≤ w1.heap.size := by have h := hb.size; simp at h; omega
  have HBF1 := Lib.hid ((hb.block w.heap.size (by simp <;> omega)).trans (blk_alloc (by rw [HZ0.out]; omega) HBE0.out))
  have HBY1 := Lib.hid ((hb.block (w.heap.size + 1) (by simp <;> omega)).trans (blk_alloc (by rw [HZ0.out]; omega) HBZ0.out))
  have HBX1 := Lib.hid (show Below w.heap.size w w1 from (HB0.out.alloc (by rw [HZ0.out]; omega) _).trans (hb.mono (by simp <;> omega)))
  have HOW6 := Lib.hid (show Own w1 (fun y => w.heap.size + 2 ≤ y ∧ y < w1.heap.size) (.sl 1 x.fIds.length (fun k => ictI (x.fIds.getD k default))) (.slice b6 x.fIds.length d6) from ho.sub (fun y hy => ⟨(by have h := hy.1; simp at h; omega), hy.2⟩))
  clear ho hb
  have HBE1 := Lib.hid (show (w1.setCell ⟨w.heap.size, 6, none⟩ (.slice b6 x.fIds.length d6)).heap[w.heap.size]? = some (.cells #[.int .i64 x.fAt.fNode, .string x.fAt.fName, .int .i64 x.fValue, .int .i64 x.fOwner, .int .i64 x.fLiteral, .string x.fRule, .slice b6 x.fIds.length d6, .slice a7 x.fShape.length c7, .slice a8 x.fReads.length c8] 34) from pblk_put HBF1.out rfl)
  have HBZ1 := Lib.hid (show (w1.setCell ⟨w.heap.size, 6, none⟩ (.slice b6 x.fIds.length d6)).heap[w.heap.size + 1]? = some (.cells #[.int .i64 0, .string ⟨#[]⟩, .int .i64 0, .int .i64 0, .int .i64 0, .string ⟨#[]⟩, .slice none 0 0, .slice none 0 0, .slice none 0 0] 34) from blk_other (by simp) HBY1.out)
  have HB1 := Lib.hid (show Below w.heap.size w (w1.setCell ⟨w.heap.size, 6, none⟩ (.slice b6 x.fIds.length d6)) from HBX1.out.setCell (by simp) _)
  have HZ1 := Lib.hid (show (w1.setCell ⟨w.heap.size, 6, none⟩ (.slice b6 x.fIds.length d6)).heap.size = w1.heap.size by simp [World.setCell])
  have e6 : w1.cell? ⟨w.heap.size, 6, none⟩ = some (.slice a6 x.fIds.length c6) := pblk_cell HBF1.out rfl
  have f6 : w1.frozen? ⟨w.heap.size, 6, none⟩ = false := pblk_frozen HBF1.out
  have e7 : ((w1.setCell ⟨w.heap.size, 6, none⟩ (.slice b6 x.fIds.length d6)).alloc (.cells #[] 3)).cell? ⟨w.heap.size, 7, none⟩ = some (.slice a7 x.fShape.length c7) := pblk_cell (blk_alloc (by rw [HZ1.out]; omega) HBE1.out) rfl
  refine StopE.to ?_
  go_wp2_with (at_builtin; refine wpList_append_fresh rfl (.tmp 8) (.tmp 10) 31 rfl 3 i0 (.int .i64 0) 1 8 Try.underlying31 hi' hz0 hz1 hz2 rfl (by decide) (w1.heap.size) (blk_new (by simp [World.setCell])) rfl (lo := lo) (hi2 := hi) (vals := vInt) (ct := ictI) x.fShape a7 c7 rfl vInt_len vInt_ct vInt_one (HS7.out _ (HB1.out.alloc (by rw [HZ1.out]; omega) _)) (by unfold maxLen; omega) (by omega) ?_; intro b7 d7 w2 ho hb; refine StopE.of ?_)
  have hsz : w.heap.size + 2 ≤ w2.heap.size := by have h := hb.size; simp [World.setCell] at h; omega
  have HBF2 := Lib.hid ((hb.block w.heap.size (by simp [World.setCell] <;> omega)).trans (blk_alloc (by rw [HZ1.out]; omega) HBE1.out))
  have HBY2 := Lib.hid ((hb.block (w.heap.size + 1) (by simp [World.setCell] <;> omega)).trans (blk_alloc (by rw [HZ1.out]; omega) HBZ1.out))
  have HBX2 := Lib.hid (show Below w.heap.size w w2 from (HB1.out.alloc (by rw [HZ1.out]; omega) _).trans (hb.mono (by simp [World.setCell] <;> omega)))
  have HOW7 := Lib.hid (show Own w2 (fun y => w1.heap.size ≤ y ∧ y < w2.heap.size) (.sl 1 x.fShape.length (fun k => ictI (x.fShape.getD k default))) (.slice b7 x.fShape.length d7) from ho.sub (fun y hy => ⟨(by have h := hy.1; simp [World.setCell] at h; omega), hy.2⟩))
  have HOW6 := Lib.hid (HOW6.out.kept (Kept.trans (show Kept (fun y => w.heap.size + 2 ≤ y ∧ y < w1.heap.size) w1 ((w1.setCell ⟨w.heap.size, 6, none⟩ (.slice b6 x.fIds.length d6)).alloc (.cells #[] 3)) from Kept.trans (Kept.setCell (by rintro ⟨h1, h2⟩; dsimp only at h1; omega)) (Kept.of_below_all ((Below.refl _ _).alloc (Nat.le_refl _) _))) (Kept.of_below hb (fun y hy => by have h2 := hy.2; simp [World.setCell]; omega))))
  have hzz2 : w1.heap.size ≤ w2.heap.size := by have h := hb.size; simp [World.setCell] at h; omega
  clear ho hb
  clear e6 f6 e7
  have HBE2 := Lib.hid (show (w2.setCell ⟨w.heap.size, 7, none⟩ (.slice b7 x.fShape.length d7)).heap[w.heap.size]? = some (.cells #[.int .i64 x.fAt.fNode, .string x.fAt.fName, .int .i64 x.fValue, .int .i64 x.fOwner, .int .i64 x.fLiteral, .string x.fRule, .slice b6 x.fIds.length d6, .slice b7 x.fShape.length d7, .slice a8 x.fReads.length c8] 34) from pblk_put HBF2.out rfl)
  have HBZ2 := Lib.hid (show (w2.setCell ⟨w.heap.size, 7, none⟩ (.slice b7 x.fShape.length d7)).heap[w.heap.size + 1]? = some (.cells #[.int .i64 0, .string ⟨#[]⟩, .int .i64 0, .int .i64 0, .int .i64 0, .string ⟨#[]⟩, .slice none 0 0, .slice none 0 0, .slice none 0 0] 34) from blk_other (by simp) HBY2.out)
  have HB2 := Lib.hid (show Below w.heap.size w (w2.setCell ⟨w.heap.size, 7, none⟩ (.slice b7 x.fShape.length d7)) from HBX2.out.setCell (by simp) _)
  have HZ2 := Lib.hid (show (w2.setCell ⟨w.heap.size, 7, none⟩ (.slice b7 x.fShape.length d7)).heap.size = w2.heap.size by simp [World.setCell])
  have e7 : w2.cell? ⟨w.heap.size, 7, none⟩ = some (.slice a7 x.fShape.length c7) := pblk_cell HBF2.out rfl
  have f7 : w2.frozen? ⟨w.heap.size, 7, none⟩ = false := pblk_frozen HBF2.out
  have e8 : ((w2.setCell ⟨w.heap.size, 7, none⟩ (.slice b7 x.fShape.length d7)).alloc (.cells #[] 70)).cell? ⟨w.heap.size, 8, none⟩ = some (.slice a8 x.fReads.length c8) := pblk_cell (blk_alloc (by rw [HZ2.out]; omega) HBE2.out) rfl
  refine StopE.to ?_
  go_wp2_with (at_builtin; refine wpList_append_fresh rfl (.tmp 13) (.tmp 15) 32 rfl 70 i8 (.agg #[.int .i64 0, .string ⟨#[]⟩, .int .i64 0, .string ⟨#[]⟩]) 4 48 Try.underlying32 hi8 hz80 hz81 hz82 rfl (by decide) (w2.heap.size) (blk_new (by simp [World.setCell])) rfl (lo := lo) (hi2 := hi) (vals := vReading) (ct := DReading.ct) x.fReads a8 c8 rfl vReading_len vReading_ct vReading_one (HS8.out _ (HB2.out.alloc (by rw [HZ2.out]; omega) _)) (by unfold maxLen; omega) (by omega) ?_; intro b8 d8 w3 ho hb; refine StopE.of ?_)
  have hsz : w.heap.size + 2 ≤ w3.heap.size := by have h := hb.size; simp [World.setCell] at h; omega
  have HBF3 := Lib.hid ((hb.block w.heap.size (by simp [World.setCell] <;> omega)).trans (blk_alloc (by rw [HZ2.out]; omega) HBE2.out))
  have HBY3 := Lib.hid ((hb.block (w.heap.size + 1) (by simp [World.setCell] <;> omega)).trans (blk_alloc (by rw [HZ2.out]; omega) HBZ2.out))
  have HBX3 := Lib.hid (show Below w.heap.size w w3 from (HB2.out.alloc (by rw [HZ2.out]; omega) _).trans (hb.mono (by simp [World.setCell] <;> omega)))
  have HOW8 := Lib.hid (show Own w3 (fun y => w2.heap.size ≤ y ∧ y < w3.heap.size) (.sl 4 x.fReads.length (fun k => DReading.ct (x.fReads.getD k default))) (.slice b8 x.fReads.length d8) from ho.sub (fun y hy => ⟨(by have h := hy.1; simp [World.setCell] at h; omega), hy.2⟩))
  have HOW6 := Lib.hid (HOW6.out.kept (Kept.trans (show Kept (fun y => w.heap.size + 2 ≤ y ∧ y < w1.heap.size) w2 ((w2.setCell ⟨w.heap.size, 7, none⟩ (.slice b7 x.fShape.length d7)).alloc (.cells #[] 70)) from Kept.trans (Kept.setCell (by rintro ⟨h1, h2⟩; dsimp only at h1; omega)) (Kept.of_below_all ((Below.refl _ _).alloc (Nat.le_refl _) _))) (Kept.of_below hb (fun y hy => by have h2 := hy.2; simp [World.setCell]; omega))))
  have HOW7 := Lib.hid (HOW7.out.kept (Kept.trans (show Kept (fun y => w1.heap.size ≤ y ∧ y < w2.heap.size) w2 ((w2.setCell ⟨w.heap.size, 7, none⟩ (.slice b7 x.fShape.length d7)).alloc (.cells #[] 70)) from Kept.trans (Kept.setCell (by rintro ⟨h1, h2⟩; dsimp only at h1; omega)) (Kept.of_below_all ((Below.refl _ _).alloc (Nat.le_refl _) _))) (Kept.of_below hb (fun y hy => by have h2 := hy.2; simp [World.setCell]; omega))))
  have hzz3 : w2.heap.size ≤ w3.heap.size := by have h := hb.size; simp [World.setCell] at h; omega
  clear ho hb
  clear e7 f7 e8
  have HBE3 := Lib.hid (show (w3.setCell ⟨w.heap.size, 8, none⟩ (.slice b8 x.fReads.length d8)).heap[w.heap.size]? = some (.cells #[.int .i64 x.fAt.fNode, .string x.fAt.fName, .int .i64 x.fValue, .int .i64 x.fOwner, .int .i64 x.fLiteral, .string x.fRule, .slice b6 x.fIds.length d6, .slice b7 x.fShape.length d7, .slice b8 x.fReads.length d8] 34) from pblk_put HBF3.out rfl)
  have HBZ3 := Lib.hid (show (w3.setCell ⟨w.heap.size, 8, none⟩ (.slice b8 x.fReads.length d8)).heap[w.heap.size + 1]? = some (.cells #[.int .i64 0, .string ⟨#[]⟩, .int .i64 0, .int .i64 0, .int .i64 0, .string ⟨#[]⟩, .slice none 0 0, .slice none 0 0, .slice none 0 0] 34) from blk_other (by simp) HBY3.out)
  have e8 : w3.cell? ⟨w.heap.size, 8, none⟩ = some (.slice a8 x.fReads.length c8) := pblk_cell HBF3.out rfl
  have f8 : w3.frozen? ⟨w.heap.size, 8, none⟩ = false := pblk_frozen HBF3.out
  refine StopE.to ?_
  go_wp2_with (first | (refine wpList_load_row rfl 34 (.tmp 1) rfl w.heap.size rfl 34 _ _ _ HBE3.out Try.underlying34 rfl (by kernel_rfl) ?_) | (refine wpList_store_rowTo rfl 34 (.tmp 2) (.tmp 18) rfl rfl (w.heap.size + 1) _ rfl rfl 34 _ HBZ3.out (by kernel_rfl) rfl (by simp [Value.oneCell']) ?_))
  refine bodyPost_ret (v := .agg #[.int .i64 x.fAt.fNode, .string x.fAt.fName, .int .i64 x.fValue, .int .i64 x.fOwner, .int .i64 x.fLiteral, .string x.fRule, .slice b6 x.fIds.length d6, .slice b7 x.fShape.length d7, .slice b8 x.fReads.length d8]) (results_cell_row Try.results17 _ _ (w.heap.size + 1) 34 #[.int .i64 x.fAt.fNode, .string x.fAt.fName, .int .i64 x.fValue, .int .i64 x.fOwner, .int .i64 x.fLiteral, .string x.fRule, .slice b6 x.fIds.length d6, .slice b7 x.fShape.length d7, .slice b8 x.fReads.length d8] (0, 0) _ rfl (setRow_heap _ _ _ _ _ _ HBZ3.out) Try.underlying34 rfl (by kernel_rfl)) rfl ⟨⟨b6, b7, b8, d6, d7, d8, rfl, ?_⟩, ?_⟩
  · have hk : Kept (fun y => w.heap.size + 2 ≤ y) w3 ((w3.setCell ⟨w.heap.size, 8, none⟩ (.slice b8 x.fReads.length d8)).setRow (w.heap.size + 1) #[.int .i64 x.fAt.fNode, .string x.fAt.fName, .int .i64 x.fValue, .int .i64 x.fOwner, .int .i64 x.fLiteral, .string x.fRule, .slice b6 x.fIds.length d6, .slice b7 x.fShape.length d7, .slice b8 x.fReads.length d8]) := kept_setRow (Kept.setCell (by show ¬ w.heap.size + 2 ≤ w.heap.size; omega)) (by omega)
    have hsz3 : w3.heap.size ≤ ((w3.setCell ⟨w.heap.size, 8, none⟩ (.slice b8 x.fReads.length d8)).setRow (w.heap.size + 1) #[.int .i64 x.fAt.fNode, .string x.fAt.fName, .int .i64 x.fValue, .int .i64 x.fOwner, .int .i64 x.fLiteral, .string x.fRule, .slice b6 x.fIds.length d6, .slice b7 x.fShape.length d7, .slice b8 x.fReads.length d8]).heap.size := hk.1
    refine OwnR.append (F1 := fun _ => False) (F2 := fun y => w.heap.size + 2 ≤ y ∧ y < w3.heap.size) (m := 6) (n := 3) ?_ ?_ (by intro y h1 h2; first | exact h1.elim | exact h2.elim | (have h3 := h1.2; have h4 := h2.1; omega)) (by intro y h1; first | exact h1.elim | (have h3 := h1.1; have h4 := h1.2; exact ⟨by omega, by omega⟩)) (by intro y h1; exact ⟨by omega, by omega⟩)
    · refine OwnR.lits (F := fun _ => False) fun j hj => ?_
      match j, hj with
      | 0, _ | 1, _ | 2, _ | 3, _ | 4, _ | 5, _ => rfl
    · refine OwnR.append (F1 := fun y => w.heap.size + 2 ≤ y ∧ y < w1.heap.size) (F2 := fun y => w1.heap.size ≤ y ∧ y < w3.heap.size) (m := 1) (n := 2) ?_ ?_ (by intro y h1 h2; first | exact h1.elim | exact h2.elim | (have h3 := h1.2; have h4 := h2.1; omega)) (by intro y h1; first | exact h1.elim | (have h3 := h1.1; have h4 := h1.2; exact ⟨by omega, by omega⟩)) (by intro y h1; first | exact h1.elim | (have h3 := h1.1; have h4 := h1.2; exact ⟨by omega, by omega⟩))
      · exact OwnR.one (HOW6.out.kept (hk.sub fun y hy => by have h := hy.1; omega))
      · refine OwnR.append (F1 := fun y => w1.heap.size ≤ y ∧ y < w2.heap.size) (F2 := fun y => w2.heap.size ≤ y ∧ y < w3.heap.size) (m := 1) (n := 1) ?_ ?_ (by intro y h1 h2; first | exact h1.elim | exact h2.elim | (have h3 := h1.2; have h4 := h2.1; omega)) (by intro y h1; first | exact h1.elim | (have h3 := h1.1; have h4 := h1.2; exact ⟨by omega, by omega⟩)) (by intro y h1; first | exact h1.elim | (have h3 := h1.1; have h4 := h1.2; exact ⟨by omega, by omega⟩))
        · exact OwnR.one (HOW7.out.kept (hk.sub fun y hy => by have h := hy.1; omega))
        · exact OwnR.one (HOW8.out.kept (hk.sub fun y hy => by have h := hy.1; omega))
  · exact pile_setRow (HBX3.out.setCell (by simp) _) (by omega) _
end Go.Proofs.Ythgpompoionfoaa
