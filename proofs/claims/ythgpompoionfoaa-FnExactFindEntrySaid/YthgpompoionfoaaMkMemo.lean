/-
  The marks of Memo.
-/
import Derived.Test.YthgpompoionfoaaTMemo
import Derived.Test.YthgpompoionfoaaMark
import Derived.Test.YthgpompoionfoaaMkEntry
import Derived.Test.YthgpompoionfoaaMkInstance
import Derived.WalkSpells
import Derived.WalkSmall
import Derived.WalkLawsBesides
import Derived.SliceStrings
import Derived.Deep.QuietTactic
import Derived.Deep.RegionWith
import Derived.BigQuiet
import Derived.Outline
import Derived.Laws.Rows
namespace Go.Proofs.Ythgpompoionfoaa
open Go.ChangeShapes Go.WideShapes Go.ChangeAt Go.RowKit Go.Deep

set_option maxHeartbeats 3200000 in
set_option maxRecDepth 100000 in
theorem wmark_Memo {F : Nat → Prop} {a0 : Option Addr} {c0 : Nat} {a1 : Option Addr} {c1 : Nat} (x : DMemo) (hsz : x.sz ≤ 1048576) (k : Int) (hk0 : 1 ≤ k) (hk : k + 16 * (x.sz : Nat) ≤ 4611686018427387904) (w : World) (hF : ∀ y, F y → y < w.heap.size) (ho : OwnR w F 2 x.ct (fun j => [.slice a0 x.fEntries.length c0, .slice a1 x.fEvaluated.length c1].getD j .nilFunc)) :
    Calls Try.prog 12 #[.agg #[.slice a0 x.fEntries.length c0, .slice a1 x.fEvaluated.length c1], .int .i64 k] w fun e w' => ∃ k' : Int, e = .returned (.int .i64 k') ∧ k ≤ k' ∧ k' ≤ k + 16 * (x.sz : Nat) ∧ WritesF F w w' := by
  obtain ⟨G, g1, g2, g3⟩ := ho
  have HB := Lib.hid ((Below.refl w.heap.size w).alloc (Nat.le_refl _) (.cells #[.slice a0 x.fEntries.length c0, .slice a1 x.fEvaluated.length c1] 40))
  have HSZ := Lib.hid hsz
  have HO0 := Lib.hid (show Own w (G 0) (.sl 9 x.fEntries.length (fun k => DEntry.ct (x.fEntries.getD k default))) (.slice a0 x.fEntries.length c0) from g1 0 (by decide))
  have HO1 := Lib.hid (show Own w (G 1) (.sl 2 x.fEvaluated.length (fun k => DInstance.ct (x.fEvaluated.getD k default))) (.slice a1 x.fEvaluated.length c1) from g1 1 (by decide))
  have HK := Lib.hid (fun j hj x hx => hF x (g2 j hj x hx))
  have HG2 := Lib.hid g2
  have HG3 := Lib.hid g3
  clear g1 g2 g3 hsz
  unfold DMemo.sz at HSZ hk ⊢
  go_enter Try.func12, Try.ntmps12
  go_wp2_with fail
  refine (wmark_EntryS _ (by have h := HSZ.out; omega) _ (by omega) (by omega) _ (HO0.out.kept (Kept.of_below HB.out (HK.out 0 (by decide))))).mono ?_
  rintro e w1 ⟨k1, rfl, hka1, hkb1, hw1⟩
  have hkz1 : 1 ≤ k1 ∧ k1 ≤ 4611686018427387904 := by have h := HSZ.out; omega
  have HW1 := Lib.hid ((hw1.sub (HG2.out 0 (by decide))).of_below HB.out)
  have HO1_1 := Lib.hid (HO1.out.kept ((Kept.of_below HB.out (HK.out 1 (by decide))).trans (hw1.kept (fun y hy hf => absurd (HG3.out 1 (by decide) 0 (by decide) y hy hf) (by decide)))))
  have x1_1 : w1.cell? ⟨w.heap.size, 1, none⟩ = some (.slice a1 x.fEvaluated.length c1) := (World.cell?_of_block (a := ⟨w.heap.size, 1, none⟩) (hw1.block w.heap.size (by simp) (fun hf => absurd (HK.out 0 (by decide) _ hf) (Nat.lt_irrefl _)))).trans (by go_simp)
  have SZ1 := Lib.hid (show (w.alloc (.cells #[.slice a0 x.fEntries.length c0, .slice a1 x.fEvaluated.length c1] 40)).heap.size ≤ w1.heap.size from hw1.size)
  clear hw1
  go_wp2_with fail
  refine (wmark_InstanceS _ (by have h := HSZ.out; omega) _ (by omega) (by omega) _ (HO1_1.out)).mono ?_
  rintro e w2 ⟨k2, rfl, hka2, hkb2, hw2⟩
  have hkz2 : 1 ≤ k2 ∧ k2 ≤ 4611686018427387904 := by have h := HSZ.out; omega
  have HW2 := Lib.hid (HW1.out.trans (hw2.sub (HG2.out 1 (by decide))))
  clear hw2
  go_wp2
  go_ret
  exact ⟨_, rfl, by omega, by have h := HSZ.out; omega, HW2.out⟩
end Go.Proofs.Ythgpompoionfoaa
