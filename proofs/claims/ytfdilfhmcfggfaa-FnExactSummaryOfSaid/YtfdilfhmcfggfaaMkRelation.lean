/-
  The marks of Relation.
-/
import Derived.Test.YtfdilfhmcfggfaaTRelation
import Derived.Test.YtfdilfhmcfggfaaMark
import Derived.Test.YtfdilfhmcfggfaaMkI
import Derived.WalkSpells
import Derived.WalkSmall
import Derived.WalkLawsBesides
import Derived.SliceStrings
import Derived.Deep.QuietTactic
import Derived.Deep.RegionWith
import Derived.BigQuiet
import Derived.Outline
import Derived.Laws.Rows
namespace Go.Proofs.Ytfdilfhmcfggfaa
open Go.ChangeShapes Go.WideShapes Go.ChangeAt Go.RowKit Go.Deep

set_option maxHeartbeats 3200000 in
set_option maxRecDepth 100000 in
theorem wmark_Relation {F : Nat → Prop} {a1 : Option Addr} {c1 : Nat} (x : DRelation) (hsz : x.sz ≤ 1048576) (k : Int) (hk0 : 1 ≤ k) (hk : k + 16 * (x.sz : Nat) ≤ 4611686018427387904) (w : World) (hF : ∀ y, F y → y < w.heap.size) (ho : OwnR w F 2 x.ct (fun j => [.int .i64 x.fN, .slice a1 x.fRows.length c1].getD j .nilFunc)) :
    Calls Try.prog 17 #[.agg #[.int .i64 x.fN, .slice a1 x.fRows.length c1], .int .i64 k] w fun e w' => ∃ k' : Int, e = .returned (.int .i64 k') ∧ k ≤ k' ∧ k' ≤ k + 16 * (x.sz : Nat) ∧ WritesF F w w' := by
  obtain ⟨G, g1, g2, g3⟩ := ho
  have HB := Lib.hid ((Below.refl w.heap.size w).alloc (Nat.le_refl _) (.cells #[.int .i64 x.fN, .slice a1 x.fRows.length c1] 37))
  have HSZ := Lib.hid hsz
  have HO1 := Lib.hid (show Own w (G 1) (.sl 1 x.fRows.length (fun k => ictI (x.fRows.getD k default))) (.slice a1 x.fRows.length c1) from g1 1 (by decide))
  have HK := Lib.hid (fun j hj x hx => hF x (g2 j hj x hx))
  have HG2 := Lib.hid g2
  have HG3 := Lib.hid g3
  clear g1 g2 g3 hsz
  unfold DRelation.sz at HSZ hk ⊢
  go_enter Try.func17, Try.ntmps17
  go_wp2_with fail
  refine (wmark_IntS _ (by have h := HSZ.out; omega) _ (by omega) (by omega) _ (HO1.out.kept (Kept.of_below HB.out (HK.out 1 (by decide))))).mono ?_
  rintro e w1 ⟨k1, rfl, hka1, hkb1, hw1⟩
  have hkz1 : 1 ≤ k1 ∧ k1 ≤ 4611686018427387904 := by have h := HSZ.out; omega
  have HW1 := Lib.hid ((hw1.sub (HG2.out 1 (by decide))).of_below HB.out)
  clear hw1
  go_wp2
  go_ret
  exact ⟨_, rfl, by omega, by have h := HSZ.out; omega, HW1.out⟩
end Go.Proofs.Ytfdilfhmcfggfaa
