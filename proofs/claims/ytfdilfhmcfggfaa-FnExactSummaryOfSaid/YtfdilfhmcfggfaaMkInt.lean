/-
  The marks of a relation.
-/
import Derived.Test.YtfdilfhmcfggfaaTRelation
import Derived.Test.YtfdilfhmcfggfaaMkI
namespace Go.Proofs.Ytfdilfhmcfggfaa
open Go.ChangeShapes Go.WideShapes Go.ChangeAt Go.RowKit Go.Deep

set_option maxHeartbeats 1600000 in
set_option maxRecDepth 100000 in
theorem laws_markRelation {F : Nat → Prop} {a1 : Option Addr} {c1 : Nat} (x : DRelation) (hn : x.fRows.length ≤ 1099511627776) (k : Nat) (hk : k ≤ 4611686018427387904) (w : World) (hF : ∀ y, F y → y < w.heap.size) (ho : Own w F (.sl 1 x.fRows.length (fun k => ictI (x.fRows.getD k default))) (.slice a1 x.fRows.length c1)) :
    Calls Try.prog 17 #[.agg #[.int .i64 x.fN, .slice a1 x.fRows.length c1], .int .i64 (k : Int)] w fun e w' => e = .returned (.int .i64 ((k + x.fRows.length : Nat) : Int)) ∧ Own w' F (.sl 1 x.fRows.length (mkI k)) (.slice a1 x.fRows.length c1) ∧ WritesF F w w' := by
  have HB := Lib.hid ((Below.refl w.heap.size w).alloc (Nat.le_refl _) (.cells #[.int .i64 x.fN, .slice a1 x.fRows.length c1] 37))
  have HM := Lib.hid (laws_markIntS x.fRows hn k hk _ (ho.kept (Kept.of_below HB.out hF)))
  clear ho
  go_enter Try.func17, Try.ntmps17
  go_wp2_with fail
  refine HM.out.mono ?_
  rintro e w1 ⟨rfl, ho1, hw1⟩
  go_wp2
  go_ret
  exact ⟨rfl, ho1, hw1.of_below HB.out⟩

set_option maxHeartbeats 1600000 in
set_option maxRecDepth 100000 in
theorem laws_heldRelation {F : Nat → Prop} {a1 : Option Addr} {c1 : Nat} (x : DRelation) (hn : x.fRows.length ≤ 1099511627776) (k : Nat) (hk : k ≤ 4611686018427387904) (w : World) (hF : ∀ y, F y → y < w.heap.size) (ho : Own w F (.sl 1 x.fRows.length (mkI k)) (.slice a1 x.fRows.length c1)) :
    Calls Try.prog 18 #[.agg #[.int .i64 x.fN, .slice a1 x.fRows.length c1], .int .i64 (k : Int)] w fun e w' => e = .returned (.int .i64 ((k + x.fRows.length : Nat) : Int)) ∧ Below w.heap.size w w' := by
  have HB := Lib.hid ((Below.refl w.heap.size w).alloc (Nat.le_refl _) (.cells #[.int .i64 x.fN, .slice a1 x.fRows.length c1] 37))
  have HM := Lib.hid (laws_heldIntS x.fRows.length hn k hk _ (ho.kept (Kept.of_below HB.out hF)))
  have hs : 0 ≤ ((k + x.fRows.length : Nat) : Int) := by omega
  clear ho
  generalize hq : k + x.fRows.length = q at *
  clear hq
  go_enter Try.func18, Try.ntmps18
  go_wp2_with fail
  refine HM.out.mono ?_
  rintro e w1 ⟨rfl, hb1⟩
  go_wp2
  go_ret
  exact ⟨rfl, HB.out.trans (hb1.mono HB.out.size)⟩
end Go.Proofs.Ytfdilfhmcfggfaa
