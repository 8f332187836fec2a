/-
  The typing rules of the program: the table, and the rules that ask no one else.
-/
import Derived.Test.YtpipdlgnedhhaaaFoldInt
import Derived.BigQuiet
namespace Go.Proofs.Ytpipdlgnedhhaaa
open Go.ChangeShapes Go.WideShapes Go.ChangeAt Go.RowKit Go.Deep

set_option maxHeartbeats 3200000 in
set_option maxRecDepth 100000 in
theorem impl_typingRules (w : World) :
    Calls Try.prog 32 #[] w fun e w' => e = .returned (.slice (some ⟨w.heap.size, 0, none⟩) 9 9) ∧ w' = w.alloc (.cells #[.nilFunc, .func (.func 50) #[] #[], .func (.func 51) #[] #[], .func (.func 52) #[] #[], .func (.func 53) #[] #[], .func (.func 54) #[] #[], .func (.func 55) #[] #[], .func (.func 56) #[] #[], .func (.func 57) #[] #[]] 82) := by
  go_enter Try.func32, Try.ntmps32
  go_wp2
  go_ret
  exact ⟨rfl, rfl⟩

set_option maxHeartbeats 3200000 in
set_option maxRecDepth 100000 in
theorem typeOfConst {ga0 ga1 ra2 ra4 ra5 a : Option Addr} {gn0 gn1 gc0 gc1 rn2 rc2 rn4 rc4 rn5 rc5 c : Nat} {rn rl : ByteArray} {rb : Bool} (nd : ENode) (zs : List Int) (w : World) :
    Calls Try.prog 50 #[.agg #[.slice ga0 gn0 gc0, .slice ga1 gn1 gc1, .string rn, .string rl, .slice ra2 rn2 rc2, .bool rb, .slice ra4 rn4 rc4, .slice ra5 rn5 rc5], .agg #[.int .i64 nd.fKind, .int .i64 nd.fN, .int .i64 nd.fPos, .int .i64 nd.fType, .string nd.fSymbol, .string nd.fName, .int .i64 (nd.fArgs : Int), .int .i64 (nd.fDepth : Int)], .slice a zs.length c] w fun e w' => e = .returned (.int .i64 (nd.fType)) ∧ Below w.heap.size w w' := by
  go_enter Try.func50, Try.ntmps50
  go_wp2
  go_ret
  exact ⟨rfl, ((Below.refl _ _).alloc (Nat.le_refl _) _).alloc (by simp) _⟩

set_option maxHeartbeats 3200000 in
set_option maxRecDepth 100000 in
theorem typeOfNone {ga0 ga1 ra2 ra4 ra5 a : Option Addr} {gn0 gn1 gc0 gc1 rn2 rc2 rn4 rc4 rn5 rc5 c : Nat} {rn rl : ByteArray} {rb : Bool} (nd : ENode) (zs : List Int) (w : World) :
    Calls Try.prog 56 #[.agg #[.slice ga0 gn0 gc0, .slice ga1 gn1 gc1, .string rn, .string rl, .slice ra2 rn2 rc2, .bool rb, .slice ra4 rn4 rc4, .slice ra5 rn5 rc5], .agg #[.int .i64 nd.fKind, .int .i64 nd.fN, .int .i64 nd.fPos, .int .i64 nd.fType, .string nd.fSymbol, .string nd.fName, .int .i64 (nd.fArgs : Int), .int .i64 (nd.fDepth : Int)], .slice a zs.length c] w fun e w' => e = .returned (.int .i64 (4)) ∧ Below w.heap.size w w' := by
  go_enter Try.func56, Try.ntmps56
  go_wp2
  go_ret
  exact ⟨rfl, ((Below.refl _ _).alloc (Nat.le_refl _) _).alloc (by simp) _⟩

set_option maxHeartbeats 3200000 in
set_option maxRecDepth 100000 in
theorem typeOfLiteral {ga0 ga1 ra2 ra4 ra5 a : Option Addr} {gn0 gn1 gc0 gc1 rn2 rc2 rn4 rc4 rn5 rc5 c : Nat} {rn rl : ByteArray} {rb : Bool} (nd : ENode) (zs : List Int) (w : World) :
    Calls Try.prog 51 #[.agg #[.slice ga0 gn0 gc0, .slice ga1 gn1 gc1, .string rn, .string rl, .slice ra2 rn2 rc2, .bool rb, .slice ra4 rn4 rc4, .slice ra5 rn5 rc5], .agg #[.int .i64 nd.fKind, .int .i64 nd.fN, .int .i64 nd.fPos, .int .i64 nd.fType, .string nd.fSymbol, .string nd.fName, .int .i64 (nd.fArgs : Int), .int .i64 (nd.fDepth : Int)], .slice a zs.length c] w fun e w' => e = .returned (.int .i64 (if rb then 1 else 0)) ∧ Below w.heap.size w w' := by
  cases rb
  · go_enter Try.func51, Try.ntmps51
    go_wp2
    go_ret
    exact ⟨rfl, ((Below.refl _ _).alloc (Nat.le_refl _) _).alloc (by simp) _⟩
  · go_enter Try.func51, Try.ntmps51
    go_wp2
    go_ret
    exact ⟨rfl, ((Below.refl _ _).alloc (Nat.le_refl _) _).alloc (by simp) _⟩

theorem zs_int {w : World} {B g c : Nat} {zs : List Int} (h : w.ownsRow B 3 1 (.slice (some ⟨g, 0, none⟩) zs.length c) zs.length (zs.flatMap valsint)) {k : Nat} (hk : k < zs.length) : w.cell? ⟨g, k, none⟩ = some (.int .i64 (zs.getD k default)) := by
  have h0 := flatR_at valsint 1 valsint_len zs k 0 hk (by decide)
  rw [Nat.mul_one, Nat.add_zero] at h0
  exact (h.cellAt k (by omega)).trans h0
/-- The type of an if, by those of its args. -/
def ifT (zs : List Int) : Int := if zs.length ≠ 3 ∨ zs.getD 0 default ≠ 3 ∨ zs.getD 1 default ≠ zs.getD 2 default then 0 else zs.getD 1 default

set_option maxHeartbeats 3200000 in
set_option maxRecDepth 100000 in
theorem typeOfIf {ga0 ga1 ra2 ra4 ra5 a : Option Addr} {gn0 gn1 gc0 gc1 rn2 rc2 rn4 rc4 rn5 rc5 c C : Nat} {rn rl : ByteArray} {rb : Bool} (nd : ENode) (zs : List Int) (w : World) (hown : w.ownsRow C 3 1 (.slice a zs.length c) zs.length (zs.flatMap valsint)) :
    Calls Try.prog 54 #[.agg #[.slice ga0 gn0 gc0, .slice ga1 gn1 gc1, .string rn, .string rl, .slice ra2 rn2 rc2, .bool rb, .slice ra4 rn4 rc4, .slice ra5 rn5 rc5], .agg #[.int .i64 nd.fKind, .int .i64 nd.fN, .int .i64 nd.fPos, .int .i64 nd.fType, .string nd.fSymbol, .string nd.fName, .int .i64 (nd.fArgs : Int), .int .i64 (nd.fDepth : Int)], .slice a zs.length c] w fun e w' => e = .returned (.int .i64 (ifT zs)) ∧ Below w.heap.size w w' := by
  have HB := Lib.hid (show Below w.heap.size w ((w.alloc (.cells #[.slice ga0 gn0 gc0, .slice ga1 gn1 gc1, .string rn, .string rl, .slice ra2 rn2 rc2, .bool rb, .slice ra4 rn4 rc4, .slice ra5 rn5 rc5] 72)).alloc (.cells #[.int .i64 nd.fKind, .int .i64 nd.fN, .int .i64 nd.fPos, .int .i64 nd.fType, .string nd.fSymbol, .string nd.fName, .int .i64 (nd.fArgs : Int), .int .i64 (nd.fDepth : Int)] 79)) from ((Below.refl _ _).alloc (Nat.le_refl _) _).alloc (by simp) _)
  unfold ifT
  by_cases hn : zs.length = 3
  · obtain ⟨g, c2, e2, _, hgl⟩ := own_some hown (by omega)
    simp only [Value.slice.injEq, true_and] at e2
    obtain ⟨rfl, rfl⟩ := e2
    have x0 := zs_int (ownsRow_below hown HB.out) (k := 0) (by omega)
    have x1 := zs_int (ownsRow_below hown HB.out) (k := 1) (by omega)
    have x2 := zs_int (ownsRow_below hown HB.out) (k := 2) (by omega)
    clear hown hgl
    generalize zs.getD 0 default = z0 at *
    generalize zs.getD 1 default = z1 at *
    generalize zs.getD 2 default = z2 at *
    rw [hn]
    clear hn
    by_cases h0 : z0 = 3
    · subst h0
      by_cases h1 : z1 = z2
      · subst h1
        rw [if_neg (by simp)]
        go_enter Try.func54, Try.ntmps54
        go_wp2
        go_quiet (fail)
        go_wp2
        go_ret
        exact ⟨rfl, below_drewN HB.out _⟩
      · rw [if_pos (by simp [h1])]
        have q1 : (z1 != z2) = true := bne_iff_ne.2 h1
        clear h1
        go_enter Try.func54, Try.ntmps54
        go_wp2
        go_region
        go_wp2
        go_ret
        exact ⟨rfl, below_drewN HB.out _⟩
    · rw [if_pos (by simp [h0])]
      have q0 : (z0 != 3) = true := bne_iff_ne.2 h0
      clear h0
      go_enter Try.func54, Try.ntmps54
      go_wp2
      go_region
      go_wp2
      go_ret
      exact ⟨rfl, below_drewN HB.out _⟩
  · rw [if_pos (.inl hn)]
    have qn : ((zs.length : Int) != 3) = true := bne_iff_ne.2 (by omega)
    clear hown hn
    generalize zs.length = n at *
    go_enter Try.func54, Try.ntmps54
    go_wp2
    go_region
    go_wp2
    go_ret
    exact ⟨rfl, below_drewN HB.out _⟩
end Go.Proofs.Ytpipdlgnedhhaaa
