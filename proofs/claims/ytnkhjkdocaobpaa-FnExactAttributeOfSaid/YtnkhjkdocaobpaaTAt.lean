/-
  The program's Tree.at and Node.child.
-/
import Derived.Test.YtnkhjkdocaobpaaTTree
import Derived.Test.YtnkhjkdocaobpaaIdx
import Derived.StillTailTactics
namespace Go.Proofs.Ytnkhjkdocaobpaa
open Go.ChangeShapes Go.WideShapes Go.ChangeAt Go.RowKit Go.Deep

theorem nodekids_len {l : List DNode} (h : lsz DNode.sz l ≤ 1048576) {k : Nat} (hk : k < l.length) : (l.getD k default).fChildren.length ≤ 1048576 := by
  have h1 := szle_at (f := DNode.sz) l k hk
  have h2 : (l.getD k default).fChildren.length ≤ DNode.sz (l.getD k default) := by
    unfold DNode.sz
    rw [lsz_zero]
    omega
  omega

set_option maxHeartbeats 1600000 in
set_option maxRecDepth 100000 in
/-- The program's 'at' at an index that there is not: nil. -/
theorem impl_Tree_at_no {len c0 : Nat} {a0 : Option Addr} (_ : len ≤ 1048576) (i : Int) (h : i < 0 ∨ (len : Int) ≤ i) (w : World) :
    Calls Try.prog 58 #[.agg #[.slice a0 len c0], .int .i64 i] w fun e w' => e = .returned (.pointer none) ∧ Below w.heap.size w w' := by
  have HB := Lib.hid ((Below.refl w.heap.size w).alloc (Nat.le_refl _) (.cells #[.slice a0 len c0] 45))
  by_cases h0 : i < 0
  · clear h
    go_enter Try.func58, Try.ntmps58
    go_wp2
    go_ret
    exact ⟨rfl, HB.out⟩
  · have h1 : (len : Int) ≤ i := by omega
    clear h
    go_enter Try.func58, Try.ntmps58
    go_wp2
    go_ret
    exact ⟨rfl, HB.out⟩
set_option maxHeartbeats 1600000 in
set_option maxRecDepth 100000 in
theorem impl_Tree_at {b off len c0 : Nat} (n : Nat) (_ : len ≤ 1048576) (h : n < len) (w : World) :
    Calls Try.prog 58 #[.agg #[.slice (some ⟨b, off, none⟩) len c0], .int .i64 (n : Int)] w fun e w' => e = .returned (.pointer (some ⟨b, off + n * 6, none⟩)) ∧ Below w.heap.size w w' := by
  have HB := Lib.hid ((Below.refl w.heap.size w).alloc (Nat.le_refl _) (.cells #[.slice (some ⟨b, off, none⟩) len c0] 45))
  go_enter Try.func58, Try.ntmps58
  go_wp2
  go_ret
  exact ⟨rfl, HB.out⟩


/-- Where the child at a place of node k lies. -/
def kidOf (l : List DNode) (k : Nat) (p : Int) : Int := (l.getD k default).fChildren.getD (p.toNat - 1) default
def hasKid (l : List DNode) (k : Nat) (p : Int) : Prop := 1 ≤ p ∧ p ≤ (l.getD k default).fChildren.length ∧ 0 ≤ kidOf l k p ∧ kidOf l k p < l.length
theorem kids_open {l : List DNode} {lo hi : Nat} {w : World} {a : Option Addr} {k : Nat} (h : Sl lo hi w 1 (l.getD k default).fChildren.length (fun j => ictI ((l.getD k default).fChildren.getD j default)) a) (j : Nat) (hj : j < (l.getD k default).fChildren.length) :
    ∃ b off, a = some ⟨b, off, none⟩ ∧ b < hi ∧ w.cell? ⟨b, off + j, none⟩ = some (.int .i64 ((l.getD k default).fChildren.getD j default)) := by
  obtain ⟨b, off, rfl, _, hb, hc⟩ := h.at j hj
  obtain ⟨u, hu, hl⟩ := hc 0 (by decide)
  obtain rfl := lies_lit hl
  rw [Nat.mul_one, Nat.add_zero] at hu
  exact ⟨b, off, rfl, hb, hu⟩
end Go.Proofs.Ytnkhjkdocaobpaa
