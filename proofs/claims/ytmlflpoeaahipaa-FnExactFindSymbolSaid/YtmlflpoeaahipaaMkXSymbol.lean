/-
  The marks of Symbol, exactly.
-/
import Derived.Test.YtmlflpoeaahipaaMkSymbol
import Derived.WalkSpells
import Derived.WalkSmall
import Derived.WalkLawsBesides
import Derived.SliceStrings
import Derived.Deep.QuietTactic
import Derived.Deep.RegionWith
import Derived.BigQuiet
import Derived.Outline
import Derived.Laws.Rows
namespace Go.Proofs.Ytmlflpoeaahipaa
open Go.ChangeShapes Go.WideShapes Go.ChangeAt Go.RowKit Go.Deep

set_option maxHeartbeats 3200000 in
set_option maxRecDepth 100000 in
theorem laws_markSymbol {F : Nat → Prop} {a1 : Option Addr} {c1 : Nat} (x : DSymbol) (hn : x.fAttributes.length ≤ 1048576) (k : Nat) (hk0 : 1 ≤ k) (hk : k ≤ 4611686018427387904) (w : World) (hF : ∀ y, F y → y < w.heap.size) (ho : Own w F (.sl 4 x.fAttributes.length (fun k => DAttribute.ct (x.fAttributes.getD k default))) (.slice a1 x.fAttributes.length c1)) :
    Calls Try.prog 11 #[.agg #[.string x.fName, .slice a1 x.fAttributes.length c1], .int .i64 (k : Int)] w fun e w' => e = .returned (.int .i64 ((k + 4 * x.fAttributes.length : Nat) : Int)) ∧ Own w' F (.sl 4 x.fAttributes.length (fun t c => .lit (mkvAttribute k t c))) (.slice a1 x.fAttributes.length c1) ∧ WritesF F w w' := by
  have HB := Lib.hid ((Below.refl w.heap.size w).alloc (Nat.le_refl _) (.cells #[.string x.fName, .slice a1 x.fAttributes.length c1] 29))
  have HM := Lib.hid (laws_markAttributeS (cap := c1) x.fAttributes hn k hk0 hk _ (ho.kept (Kept.of_below HB.out hF)))
  clear ho
  go_enter Try.func11, Try.ntmps11
  go_wp2_with fail
  refine HM.out.mono ?_
  rintro e w1 ⟨rfl, ho1, hw1⟩
  go_wp2
  go_ret
  exact ⟨rfl, ho1, hw1.of_below HB.out⟩

set_option maxHeartbeats 3200000 in
set_option maxRecDepth 100000 in
theorem laws_heldSymbol {F : Nat → Prop} {a1 : Option Addr} {c1 : Nat} (x : DSymbol) (hn : x.fAttributes.length ≤ 1048576) (k : Nat) (hk0 : 1 ≤ k) (hk : k ≤ 4611686018427387904) (w : World) (hF : ∀ y, F y → y < w.heap.size) (ho : Own w F (.sl 4 x.fAttributes.length (fun t c => .lit (mkvAttribute k t c))) (.slice a1 x.fAttributes.length c1)) :
    Calls Try.prog 12 #[.agg #[.string x.fName, .slice a1 x.fAttributes.length c1], .int .i64 (k : Int)] w fun e w' => e = .returned (.int .i64 ((k + 4 * x.fAttributes.length : Nat) : Int)) ∧ Below w.heap.size w w' := by
  have HB := Lib.hid ((Below.refl w.heap.size w).alloc (Nat.le_refl _) (.cells #[.string x.fName, .slice a1 x.fAttributes.length c1] 29))
  have HM := Lib.hid (laws_heldAttributeS (cap := c1) x.fAttributes.length hn k hk0 hk _ (ho.kept (Kept.of_below HB.out hF)))
  have hs : 0 ≤ ((k + 4 * x.fAttributes.length : Nat) : Int) := by omega
  clear ho
  generalize hq : k + 4 * x.fAttributes.length = q at *
  clear hq
  go_enter Try.func12, Try.ntmps12
  go_wp2_with fail
  refine HM.out.mono ?_
  rintro e w1 ⟨rfl, hb1⟩
  go_wp2
  go_ret
  exact ⟨rfl, HB.out.trans (hb1.mono HB.out.size)⟩
end Go.Proofs.Ytmlflpoeaahipaa
