/-
  The marks of Entry, exactly: the whole row.
-/
import Derived.Test.YthgpompoionfoaaMkEntry
import Derived.WalkSpells
import Derived.WalkSmall
import Derived.WalkLawsBesides
import Derived.SliceStrings
import Derived.Deep.QuietTactic
import Derived.Deep.RegionWith
import Derived.BigQuiet
import Derived.Outline
import Derived.Laws.Rows
namespace Go.Proofs.Ythgpompoionfoaa
open Go.ChangeShapes Go.WideShapes Go.ChangeAt Go.RowKit Go.Deep

/-- The cells of a marked Entry. -/
def mkEntryX (k : Nat) (x : DEntry) (j : Nat) : Ct := match j with
  | 6 => .sl 1 x.fIds.length (mkI (k))
  | 7 => .sl 1 x.fShape.length (mkI (k + x.fIds.length))
  | 8 => .sl 4 x.fReads.length (fun t c => .lit (mkvReading (k + x.fIds.length + x.fShape.length) t c))
  | j => x.ct j

set_option maxHeartbeats 3200000 in
set_option maxRecDepth 100000 in
theorem laws_markEntry {F : Nat → Prop} {a6 : Option Addr} {c6 : Nat} {a7 : Option Addr} {c7 : Nat} {a8 : Option Addr} {c8 : Nat} (x : DEntry) (hl6 : x.fIds.length ≤ 1048576) (hl7 : x.fShape.length ≤ 1048576) (hl8 : x.fReads.length ≤ 1048576) (k : Nat) (hk0 : 1 ≤ k) (hk : k ≤ 1099511627776) (w : World) (hF : ∀ y, F y → y < w.heap.size) (ho : OwnR w F 9 x.ct (fun j => [.int .i64 x.fAt.fNode, .string x.fAt.fName, .int .i64 x.fValue, .int .i64 x.fOwner, .int .i64 x.fLiteral, .string x.fRule, .slice a6 x.fIds.length c6, .slice a7 x.fShape.length c7, .slice a8 x.fReads.length c8].getD j .nilFunc)) :
    Calls Try.prog 13 #[.agg #[.int .i64 x.fAt.fNode, .string x.fAt.fName, .int .i64 x.fValue, .int .i64 x.fOwner, .int .i64 x.fLiteral, .string x.fRule, .slice a6 x.fIds.length c6, .slice a7 x.fShape.length c7, .slice a8 x.fReads.length c8], .int .i64 (k : Int)] w fun e w' => e = .returned (.int .i64 ((k + x.fIds.length + x.fShape.length + 4 * x.fReads.length : Nat) : Int)) ∧ OwnR w' F 9 (mkEntryX k x) (fun j => [.int .i64 x.fAt.fNode, .string x.fAt.fName, .int .i64 x.fValue, .int .i64 x.fOwner, .int .i64 x.fLiteral, .string x.fRule, .slice a6 x.fIds.length c6, .slice a7 x.fShape.length c7, .slice a8 x.fReads.length c8].getD j .nilFunc) ∧ WritesF F w w' := by
  obtain ⟨G, g1, g2, g3⟩ := ho
  have HB := Lib.hid ((Below.refl w.heap.size w).alloc (Nat.le_refl _) (.cells #[.int .i64 x.fAt.fNode, .string x.fAt.fName, .int .i64 x.fValue, .int .i64 x.fOwner, .int .i64 x.fLiteral, .string x.fRule, .slice a6 x.fIds.length c6, .slice a7 x.fShape.length c7, .slice a8 x.fReads.length c8] 34))
  have HO6 := Lib.hid (show Own w (G 6) (.sl 1 x.fIds.length (fun k => ictI (x.fIds.getD k default))) (.slice a6 x.fIds.length c6) from g1 6 (by decide))
  have HO7 := Lib.hid (show Own w (G 7) (.sl 1 x.fShape.length (fun k => ictI (x.fShape.getD k default))) (.slice a7 x.fShape.length c7) from g1 7 (by decide))
  have HO8 := Lib.hid (show Own w (G 8) (.sl 4 x.fReads.length (fun k => DReading.ct (x.fReads.getD k default))) (.slice a8 x.fReads.length c8) from g1 8 (by decide))
  have HK := Lib.hid (fun j hj x hx => hF x (g2 j hj x hx))
  have HG2 := Lib.hid g2
  have HG3 := Lib.hid g3
  have HN6 := Lib.hid hl6
  have HN7 := Lib.hid hl7
  have HN8 := Lib.hid hl8
  clear g1 g2 g3
  clear hl6 hl7 hl8
  go_enter Try.func13, Try.ntmps13
  go_wp2_with fail
  refine (laws_markIntS (cap := c6) x.fIds (by have h := HN6.out; omega) (k) (by have h6 := HN6.out; have h7 := HN7.out; have h8 := HN8.out; omega) _ (HO6.out.kept (Kept.of_below HB.out (HK.out 6 (by decide))))).mono ?_
  rintro e w1 ⟨rfl, ho1, hw1⟩
  have HW1 := Lib.hid ((hw1.sub (HG2.out 6 (by decide))).of_below HB.out)
  have HM6_1 := Lib.hid ho1
  have HO7_1 := Lib.hid (HO7.out.kept ((Kept.of_below HB.out (HK.out 7 (by decide))).trans (hw1.kept (fun y hy hf => absurd (HG3.out 7 (by decide) 6 (by decide) y hy hf) (by decide)))))
  have HO8_1 := Lib.hid (HO8.out.kept ((Kept.of_below HB.out (HK.out 8 (by decide))).trans (hw1.kept (fun y hy hf => absurd (HG3.out 8 (by decide) 6 (by decide) y hy hf) (by decide)))))
  have x1_7 : w1.cell? ⟨w.heap.size, 7, none⟩ = some (.slice a7 x.fShape.length c7) := (World.cell?_of_block (a := ⟨w.heap.size, 7, none⟩) (hw1.block w.heap.size (by simp) (fun hf => absurd (HK.out 6 (by decide) _ hf) (Nat.lt_irrefl _)))).trans (by go_simp)
  have x1_8 : w1.cell? ⟨w.heap.size, 8, none⟩ = some (.slice a8 x.fReads.length c8) := (World.cell?_of_block (a := ⟨w.heap.size, 8, none⟩) (hw1.block w.heap.size (by simp) (fun hf => absurd (HK.out 6 (by decide) _ hf) (Nat.lt_irrefl _)))).trans (by go_simp)
  have SZ1 := Lib.hid (show (w.alloc (.cells #[.int .i64 x.fAt.fNode, .string x.fAt.fName, .int .i64 x.fValue, .int .i64 x.fOwner, .int .i64 x.fLiteral, .string x.fRule, .slice a6 x.fIds.length c6, .slice a7 x.fShape.length c7, .slice a8 x.fReads.length c8] 34)).heap.size ≤ w1.heap.size from hw1.size)
  clear hw1 ho1
  go_wp2_with fail
  refine (laws_markIntS (cap := c7) x.fShape (by have h := HN7.out; omega) (k + x.fIds.length) (by have h6 := HN6.out; have h7 := HN7.out; have h8 := HN8.out; omega) _ (HO7_1.out)).mono ?_
  rintro e w2 ⟨rfl, ho2, hw2⟩
  have HW2 := Lib.hid (HW1.out.trans (hw2.sub (HG2.out 7 (by decide))))
  have HM7_2 := Lib.hid ho2
  have HM6_2 := Lib.hid (HM6_1.out.kept (hw2.kept (fun y hy hf => absurd (HG3.out 6 (by decide) 7 (by decide) y hy hf) (by decide))))
  have HO8_2 := Lib.hid (HO8_1.out.kept (hw2.kept (fun y hy hf => absurd (HG3.out 8 (by decide) 7 (by decide) y hy hf) (by decide))))
  have x2_8 : w2.cell? ⟨w.heap.size, 8, none⟩ = some (.slice a8 x.fReads.length c8) := (World.cell?_of_block (a := ⟨w.heap.size, 8, none⟩) (hw2.block w.heap.size (Nat.lt_of_lt_of_le (by simp) (SZ1.out)) (fun hf => absurd (HK.out 7 (by decide) _ hf) (Nat.lt_irrefl _)))).trans x1_8
  have SZ2 := Lib.hid (Nat.le_trans SZ1.out hw2.size)
  clear hw2 ho2
  go_wp2_with fail
  refine (laws_markReadingS (cap := c8) x.fReads (by have h := HN8.out; omega) (k + x.fIds.length + x.fShape.length) (by omega) (by have h6 := HN6.out; have h7 := HN7.out; have h8 := HN8.out; omega) _ (HO8_2.out)).mono ?_
  rintro e w3 ⟨rfl, ho3, hw3⟩
  have HW3 := Lib.hid (HW2.out.trans (hw3.sub (HG2.out 8 (by decide))))
  have HM8_3 := Lib.hid ho3
  have HM6_3 := Lib.hid (HM6_2.out.kept (hw3.kept (fun y hy hf => absurd (HG3.out 6 (by decide) 8 (by decide) y hy hf) (by decide))))
  have HM7_3 := Lib.hid (HM7_2.out.kept (hw3.kept (fun y hy hf => absurd (HG3.out 7 (by decide) 8 (by decide) y hy hf) (by decide))))
  clear hw3 ho3
  go_wp2
  go_ret
  refine ⟨rfl, ⟨G, fun j hj => ?_, HG2.out, HG3.out⟩, HW3.out⟩
  match j, hj with
  | 0, _ => exact .lit _ _
  | 1, _ => exact .lit _ _
  | 2, _ => exact .lit _ _
  | 3, _ => exact .lit _ _
  | 4, _ => exact .lit _ _
  | 5, _ => exact .lit _ _
  | 6, _ => exact HM6_3.out
  | 7, _ => exact HM7_3.out
  | 8, _ => exact HM8_3.out

set_option maxHeartbeats 3200000 in
set_option maxRecDepth 100000 in
theorem laws_heldEntry {F : Nat → Prop} {a6 : Option Addr} {c6 : Nat} {a7 : Option Addr} {c7 : Nat} {a8 : Option Addr} {c8 : Nat} (x : DEntry) (hl6 : x.fIds.length ≤ 1048576) (hl7 : x.fShape.length ≤ 1048576) (hl8 : x.fReads.length ≤ 1048576) (k : Nat) (hk0 : 1 ≤ k) (hk : k ≤ 1099511627776) (w : World) (hF : ∀ y, F y → y < w.heap.size) (ho : OwnR w F 9 (mkEntryX k x) (fun j => [.int .i64 x.fAt.fNode, .string x.fAt.fName, .int .i64 x.fValue, .int .i64 x.fOwner, .int .i64 x.fLiteral, .string x.fRule, .slice a6 x.fIds.length c6, .slice a7 x.fShape.length c7, .slice a8 x.fReads.length c8].getD j .nilFunc)) :
    Calls Try.prog 14 #[.agg #[.int .i64 x.fAt.fNode, .string x.fAt.fName, .int .i64 x.fValue, .int .i64 x.fOwner, .int .i64 x.fLiteral, .string x.fRule, .slice a6 x.fIds.length c6, .slice a7 x.fShape.length c7, .slice a8 x.fReads.length c8], .int .i64 (k : Int)] w fun e w' => e = .returned (.int .i64 ((k + x.fIds.length + x.fShape.length + 4 * x.fReads.length : Nat) : Int)) ∧ Below w.heap.size w w' := by
  obtain ⟨G, g1, g2, g3⟩ := ho
  have HB := Lib.hid ((Below.refl w.heap.size w).alloc (Nat.le_refl _) (.cells #[.int .i64 x.fAt.fNode, .string x.fAt.fName, .int .i64 x.fValue, .int .i64 x.fOwner, .int .i64 x.fLiteral, .string x.fRule, .slice a6 x.fIds.length c6, .slice a7 x.fShape.length c7, .slice a8 x.fReads.length c8] 34))
  have HO6 := Lib.hid (show Own w (G 6) (.sl 1 x.fIds.length (mkI (k))) (.slice a6 x.fIds.length c6) from g1 6 (by decide))
  have HO7 := Lib.hid (show Own w (G 7) (.sl 1 x.fShape.length (mkI (k + x.fIds.length))) (.slice a7 x.fShape.length c7) from g1 7 (by decide))
  have HO8 := Lib.hid (show Own w (G 8) (.sl 4 x.fReads.length (fun t c => .lit (mkvReading (k + x.fIds.length + x.fShape.length) t c))) (.slice a8 x.fReads.length c8) from g1 8 (by decide))
  have HK := Lib.hid (fun j hj x hx => hF x (g2 j hj x hx))
  have HG2 := Lib.hid g2
  have HG3 := Lib.hid g3
  have HN6 := Lib.hid hl6
  have HN7 := Lib.hid hl7
  have HN8 := Lib.hid hl8
  clear g1 g2 g3
  have HC6 := Lib.hid (fun (W : World) => laws_heldIntS (F := G 6) (a := a6) (cap := c6) x.fIds.length (by omega) (k) (by omega) W)
  have HC7 := Lib.hid (fun (W : World) => laws_heldIntS (F := G 7) (a := a7) (cap := c7) x.fShape.length (by omega) (k + x.fIds.length) (by omega) W)
  have HC8 := Lib.hid (fun (W : World) => laws_heldReadingS (F := G 8) (a := a8) (cap := c8) x.fReads.length (by omega) (k + x.fIds.length + x.fShape.length) (by omega) (by omega) W)
  have hk1 : k + x.fIds.length ≤ 1099578736640 := by omega
  have hz1 : 1 ≤ k + x.fIds.length := by omega
  generalize hq1 : k + x.fIds.length = q1 at *
  clear hq1
  have hs1 : 0 ≤ (q1 : Int) := by omega
  have hk2 : q1 + x.fShape.length ≤ 1099645845504 := by omega
  have hz2 : 1 ≤ q1 + x.fShape.length := by omega
  generalize hq2 : q1 + x.fShape.length = q2 at *
  clear hq2
  have hs2 : 0 ≤ (q2 : Int) := by omega
  have hk3 : q2 + 4 * x.fReads.length ≤ 1099712954368 := by omega
  have hz3 : 1 ≤ q2 + 4 * x.fReads.length := by omega
  generalize hq3 : q2 + 4 * x.fReads.length = q3 at *
  clear hq3
  have hs3 : 0 ≤ (q3 : Int) := by omega
  clear hl6 hl7 hl8
  go_enter Try.func14, Try.ntmps14
  go_wp2_with fail
  refine (HC6.out _ (HO6.out.kept (Kept.of_below HB.out (HK.out 6 (by decide))))).mono ?_
  rintro e w1 ⟨rfl, hb1⟩
  have HB1 := Lib.hid (HB.out.trans (hb1.mono HB.out.size))
  have HO7_1 := Lib.hid (HO7.out.kept ((Kept.of_below HB.out (HK.out 7 (by decide))).trans (Kept.of_below_all hb1)))
  have HO8_1 := Lib.hid (HO8.out.kept ((Kept.of_below HB.out (HK.out 8 (by decide))).trans (Kept.of_below_all hb1)))
  have x1_7 : w1.cell? ⟨w.heap.size, 7, none⟩ = some (.slice a7 x.fShape.length c7) := (World.cell?_of_block (a := ⟨w.heap.size, 7, none⟩) (hb1.block w.heap.size (by simp))).trans (by go_simp)
  have x1_8 : w1.cell? ⟨w.heap.size, 8, none⟩ = some (.slice a8 x.fReads.length c8) := (World.cell?_of_block (a := ⟨w.heap.size, 8, none⟩) (hb1.block w.heap.size (by simp))).trans (by go_simp)
  have SZ1 := Lib.hid (show (w.alloc (.cells #[.int .i64 x.fAt.fNode, .string x.fAt.fName, .int .i64 x.fValue, .int .i64 x.fOwner, .int .i64 x.fLiteral, .string x.fRule, .slice a6 x.fIds.length c6, .slice a7 x.fShape.length c7, .slice a8 x.fReads.length c8] 34)).heap.size ≤ w1.heap.size from hb1.size)
  clear hb1
  go_wp2_with fail
  refine (HC7.out _ (HO7_1.out)).mono ?_
  rintro e w2 ⟨rfl, hb2⟩
  have HB2 := Lib.hid (HB1.out.trans (hb2.mono HB1.out.size))
  have HO8_2 := Lib.hid (HO8_1.out.kept (Kept.of_below_all hb2))
  have x2_8 : w2.cell? ⟨w.heap.size, 8, none⟩ = some (.slice a8 x.fReads.length c8) := (World.cell?_of_block (a := ⟨w.heap.size, 8, none⟩) (hb2.block w.heap.size (Nat.lt_of_lt_of_le (by simp) (SZ1.out)))).trans x1_8
  have SZ2 := Lib.hid (Nat.le_trans SZ1.out hb2.size)
  clear hb2
  go_wp2_with fail
  refine (HC8.out _ (HO8_2.out)).mono ?_
  rintro e w3 ⟨rfl, hb3⟩
  have HB3 := Lib.hid (HB2.out.trans (hb3.mono HB2.out.size))
  clear hb3
  go_wp2
  go_ret
  exact ⟨rfl, HB3.out⟩
end Go.Proofs.Ythgpompoionfoaa
