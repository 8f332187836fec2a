/-
  The marks of an expression by value.
-/
import Derived.Test.YtoockfmkcjomhaaMkExpr
import Derived.WalkSpells
import Derived.WalkSmall
import Derived.WalkLawsBesides
import Derived.SliceStrings
import Derived.Deep.QuietTactic
import Derived.Deep.RegionWith
import Derived.BigQuiet
import Derived.Outline
import Derived.Laws.Rows
namespace Go.Proofs.Ytoockfmkcjomhaa
open Go.ChangeShapes Go.WideShapes Go.ChangeAt Go.RowKit Go.Deep

set_option maxHeartbeats 3200000 in
set_option maxRecDepth 100000 in
theorem wmark_Expr {F : Nat → Prop} {a6 : Option Addr} {c6 : Nat} (x : DExpr) (hsz : x.sz ≤ 1048576) (k : Int) (hk0 : 1 ≤ k) (hk : k + 16 * (x.sz : Nat) ≤ 4611686018427387904) (w : World) (hF : ∀ y, F y → y < w.heap.size) (ho : OwnR w F 7 x.ct (fun j => [.int .i64 x.fKind, .int .i64 x.fN, .int .i64 x.fPos, .int .i64 x.fType, .string x.fSymbol, .string x.fName, .slice a6 x.fArgs.length c6].getD j .nilFunc)) :
    Calls Try.prog 10 #[.agg #[.int .i64 x.fKind, .int .i64 x.fN, .int .i64 x.fPos, .int .i64 x.fType, .string x.fSymbol, .string x.fName, .slice a6 x.fArgs.length c6], .int .i64 k] w fun e w' => ∃ k' : Int, e = .returned (.int .i64 k') ∧ k ≤ k' ∧ k' ≤ k + 16 * (x.sz : Nat) ∧ WritesF F w w' := by
  obtain ⟨G, g1, g2, g3⟩ := ho
  have HB := Lib.hid ((Below.refl w.heap.size w).alloc (Nat.le_refl _) (.cells #[.int .i64 x.fKind, .int .i64 x.fN, .int .i64 x.fPos, .int .i64 x.fType, .string x.fSymbol, .string x.fName, .slice a6 x.fArgs.length c6] 30))
  have HSZ := Lib.hid hsz
  have HO6 := Lib.hid (show Own w (G 6) (.sl 7 x.fArgs.length (ctE x.fArgs)) (.slice a6 x.fArgs.length c6) from g1 6 (by decide))
  have HK := Lib.hid (fun j hj x hx => hF x (g2 j hj x hx))
  have HG2 := Lib.hid g2
  have HG3 := Lib.hid g3
  clear g1 g2 g3 hsz
  rw [DExpr.sz_eq] at HSZ hk ⊢
  go_enter Try.func10, Try.ntmps10
  go_wp2_with fail
  refine (wmark_ExprS _ (by have h := HSZ.out; omega) _ (by omega) (by omega) _ (HO6.out.kept (Kept.of_below HB.out (HK.out 6 (by decide))))).mono ?_
  rintro e w1 ⟨k1, rfl, hka1, hkb1, hw1⟩
  have hkz1 : 1 ≤ k1 ∧ k1 ≤ 4611686018427387904 := by have h := HSZ.out; omega
  have HW1 := Lib.hid ((hw1.sub (HG2.out 6 (by decide))).of_below HB.out)
  clear hw1
  go_wp2
  go_ret
  exact ⟨_, rfl, by omega, by have h := HSZ.out; omega, HW1.out⟩
end Go.Proofs.Ytoockfmkcjomhaa
