/-
  The program's Tree.at and Node.child.
-/
import Derived.Test.YtbaibioifmbchaaTTree
import Derived.Test.YtbaibioifmbchaaIdx
import Derived.StillTailTactics
namespace Go.Proofs.Ytbaibioifmbchaa
open Go.ChangeShapes Go.WideShapes Go.ChangeAt Go.RowKit Go.Deep

theorem nodekids_len {l : List DNode} (h : lsz DNode.sz l ≤ 1048576) {k : Nat} (hk : k < l.length) : (l.getD k default).fChildren.length ≤ 1048576 := by
  have h1 := szle_at (f := DNode.sz) l k hk
  have h2 : (l.getD k default).fChildren.length ≤ DNode.sz (l.getD k default) := by
    unfold DNode.sz
    rw [lsz_zero]
    omega
  omega

set_option maxHeartbeats 1600000 in
set_option maxRecDepth 100000 in
/-- The program's 'at' at an index that there is not: nil. -/
theorem impl_Tree_at_no {len c0 : Nat} {a0 : Option Addr} (_ : len ≤ 1048576) (i : Int) (h : i < 0 ∨ (len : Int) ≤ i) (w : World) :
    Calls Try.prog 22 #[.agg #[.slice a0 len c0], .int .i64 i] w fun e w' => e = .returned (.pointer none) ∧ Below w.heap.size w w' := by
  have HB := Lib.hid ((Below.refl w.heap.size w).alloc (Nat.le_refl _) (.cells #[.slice a0 len c0] 45))
  by_cases h0 : i < 0
  · clear h
    go_enter Try.func22, Try.ntmps22
    go_wp2
    go_ret
    exact ⟨rfl, HB.out⟩
  · have h1 : (len : Int) ≤ i := by omega
    clear h
    go_enter Try.func22, Try.ntmps22
    go_wp2
    go_ret
    exact ⟨rfl, HB.out⟩
set_option maxHeartbeats 1600000 in
set_option maxRecDepth 100000 in
theorem impl_Tree_at {b off len c0 : Nat} (n : Nat) (_ : len ≤ 1048576) (h : n < len) (w : World) :
    Calls Try.prog 22 #[.agg #[.slice (some ⟨b, off, none⟩) len c0], .int .i64 (n : Int)] w fun e w' => e = .returned (.pointer (some ⟨b, off + n * 6, none⟩)) ∧ Below w.heap.size w w' := by
  have HB := Lib.hid ((Below.refl w.heap.size w).alloc (Nat.le_refl _) (.cells #[.slice (some ⟨b, off, none⟩) len c0] 45))
  go_enter Try.func22, Try.ntmps22
  go_wp2
  go_ret
  exact ⟨rfl, HB.out⟩


/-- Where the child at a place of node k lies. -/
def kidOf (l : List DNode) (k : Nat) (p : Int) : Int := (l.getD k default).fChildren.getD (p.toNat - 1) default
def hasKid (l : List DNode) (k : Nat) (p : Int) : Prop := 1 ≤ p ∧ p ≤ (l.getD k default).fChildren.length ∧ 0 ≤ kidOf l k p ∧ kidOf l k p < l.length
theorem kids_open {l : List DNode} {lo hi : Nat} {w : World} {a : Option Addr} {k : Nat} (h : Sl lo hi w 1 (l.getD k default).fChildren.length (fun j => ictI ((l.getD k default).fChildren.getD j default)) a) (j : Nat) (hj : j < (l.getD k default).fChildren.length) :
    ∃ b off, a = some ⟨b, off, none⟩ ∧ b < hi ∧ w.cell? ⟨b, off + j, none⟩ = some (.int .i64 ((l.getD k default).fChildren.getD j default)) := by
  obtain ⟨b, off, rfl, _, hb, hc⟩ := h.at j hj
  obtain ⟨u, hu, hl⟩ := hc 0 (by decide)
  obtain rfl := lies_lit hl
  rw [Nat.mul_one, Nat.add_zero] at hu
  exact ⟨b, off, rfl, hb, hu⟩

set_option maxHeartbeats 1600000 in
set_option maxRecDepth 100000 in
theorem impl_child_nil {c : Value} (p : Int) (w : World) :
    Calls Try.prog 23 #[.pointer none, .agg #[c], .int .i64 p] w fun e w' => e = .returned (.pointer none) ∧ Below w.heap.size w w' := by
  have HB := Lib.hid ((Below.refl w.heap.size w).alloc (Nat.le_refl _) (.cells #[c] 45))
  go_enter Try.func23, Try.ntmps23
  go_wp2
  go_ret
  exact ⟨rfl, HB.out⟩

set_option maxHeartbeats 3200000 in
set_option maxRecDepth 100000 in
theorem impl_child_no {lo hi b off c0 : Nat} (l : List DNode) (hn : lsz DNode.sz l ≤ 1048576) (k : Nat) (hk : k < l.length) (p : Int) (hp : ¬ hasKid l k p) (hp0 : okI p) (w : World) (hhi : hi ≤ w.heap.size) (hs : Sl lo hi w 6 l.length (fun k => DNode.ct (l.getD k default)) (some ⟨b, off, none⟩)) :
    Calls Try.prog 23 #[.pointer (some ⟨b, off + k * 6, none⟩), .agg #[.slice (some ⟨b, off, none⟩) l.length c0], .int .i64 p] w fun e w' => e = .returned (.pointer none) ∧ Below w.heap.size w w' := by
  have hp1 : -9223372036854775808 ≤ p ∧ p ≤ 9223372036854775807 := hp0
  have hm := nodekids_len hn hk
  have hlen := (show l.length ≤ 1048576 by unfold lsz at hn; omega)
  have HB := Lib.hid ((Below.refl w.heap.size w).alloc (Nat.le_refl _) (.cells #[.slice (some ⟨b, off, none⟩) l.length c0] 45))
  have HAT := Lib.hid (fun (z : Int) h w => impl_Tree_at_no (a0 := some ⟨b, off, none⟩) (c0 := c0) (len := l.length) hlen z h w)
  obtain ⟨b', off', hbo, _, hbh, hc⟩ := hs.at k hk
  simp only [Option.some.injEq, Addr.mk.injEq, and_true] at hbo
  obtain ⟨rfl, rfl⟩ := hbo
  obtain ⟨a5, c5, _, _, _, _, _, hc5, hs5⟩ := DNode.open hc
  clear hs hc
  have hbw : b < w.heap.size := Nat.lt_of_lt_of_le hbh hhi
  have HKO := Lib.hid (kids_open hs5)
  clear hs5 hp0 hn
  unfold hasKid at hp
  by_cases h1 : p < 1
  · clear hp HKO HAT
    generalize (l.getD k default).fChildren.length = m at *
    go_enter Try.func23, Try.ntmps23
    go_wp2
    go_ret
    exact ⟨rfl, HB.out⟩
  · by_cases h2 : ((l.getD k default).fChildren.length : Int) < p
    · clear hp HKO HAT
      generalize (l.getD k default).fChildren.length = m at *
      go_enter Try.func23, Try.ntmps23
      go_wp2
      go_ret
      exact ⟨rfl, HB.out⟩
    · obtain ⟨q, rfl⟩ : ∃ q : Nat, p = (q : Int) + 1 := ⟨p.toNat - 1, by omega⟩
      have hkid : kidOf l k ((q : Int) + 1) = (l.getD k default).fChildren.getD q default := by
        unfold kidOf
        rw [show ((q : Int) + 1).toNat - 1 = q by omega]
      rw [hkid] at hp
      obtain ⟨b2, off2, rfl, hb2, hc2⟩ := HKO.out q (by omega)
      have hbw2 : b2 < w.heap.size := Nat.lt_of_lt_of_le hb2 hhi
      have hz := HAT.out ((l.getD k default).fChildren.getD q default) (by omega)
      clear hp hkid HKO HAT
      generalize (l.getD k default).fChildren.getD q default = z at *
      have HZ := Lib.hid hz
      clear hz
      generalize (l.getD k default).fChildren.length = m at *
      have hqm : q < m := by omega
      have hwq : IntKind.i64.wrap (q : Int) = (q : Int) := by rw [IntKind.wrap_i64] <;> omega
      go_enter Try.func23, Try.ntmps23
      go_wp2_with fail
      go_region_with ((go_at_call 22; refine (HZ.out _).mono ?_; rintro e w1 ⟨rfl, hb1⟩))
      all_goals
        have HB1 := Lib.hid (HB.out.trans ((show Below (w.alloc (.cells #[.slice (some ⟨b, off, none⟩) l.length c0] 45)).heap.size (w.alloc (.cells #[.slice (some ⟨b, off, none⟩) l.length c0] 45)) w1 from Below.trans (by repeat (first | (with_reducible exact Below.refl _ _) | (with_reducible apply Below.drew) | (with_reducible refine below_drewN ?_ _))) hb1).mono HB.out.size))
        clear hb1
        go_wp2
        go_ret
        exact ⟨rfl, HB1.out⟩

set_option maxHeartbeats 3200000 in
set_option maxRecDepth 100000 in
theorem impl_child {lo hi b off c0 : Nat} (l : List DNode) (hn : lsz DNode.sz l ≤ 1048576) (k : Nat) (hk : k < l.length) (p : Int) (hp : hasKid l k p) (w : World) (hhi : hi ≤ w.heap.size) (hs : Sl lo hi w 6 l.length (fun k => DNode.ct (l.getD k default)) (some ⟨b, off, none⟩)) :
    Calls Try.prog 23 #[.pointer (some ⟨b, off + k * 6, none⟩), .agg #[.slice (some ⟨b, off, none⟩) l.length c0], .int .i64 p] w fun e w' => e = .returned (.pointer (some ⟨b, off + (kidOf l k p).toNat * 6, none⟩)) ∧ Below w.heap.size w w' := by
  have hm := nodekids_len hn hk
  have hlen := (show l.length ≤ 1048576 by unfold lsz at hn; omega)
  have HB := Lib.hid ((Below.refl w.heap.size w).alloc (Nat.le_refl _) (.cells #[.slice (some ⟨b, off, none⟩) l.length c0] 45))
  have HAT := Lib.hid (fun (n : Nat) h w => impl_Tree_at (b := b) (off := off) (c0 := c0) (len := l.length) n hlen h w)
  obtain ⟨b', off', hbo, _, hbh, hc⟩ := hs.at k hk
  simp only [Option.some.injEq, Addr.mk.injEq, and_true] at hbo
  obtain ⟨rfl, rfl⟩ := hbo
  obtain ⟨a5, c5, _, _, _, _, _, hc5, hs5⟩ := DNode.open hc
  clear hs hc
  have hbw : b < w.heap.size := Nat.lt_of_lt_of_le hbh hhi
  have HKO := Lib.hid (kids_open hs5)
  clear hs5 hn
  obtain ⟨h1, h2, h3, h4⟩ := hp
  obtain ⟨q, rfl⟩ : ∃ q : Nat, p = (q : Int) + 1 := ⟨p.toNat - 1, by omega⟩
  have hkid : kidOf l k ((q : Int) + 1) = (l.getD k default).fChildren.getD q default := by
    unfold kidOf
    rw [show ((q : Int) + 1).toNat - 1 = q by omega]
  rw [hkid] at h3 h4 ⊢
  obtain ⟨b2, off2, rfl, hb2, hc2⟩ := HKO.out q (by omega)
  have hbw2 : b2 < w.heap.size := Nat.lt_of_lt_of_le hb2 hhi
  clear hkid HKO
  generalize (l.getD k default).fChildren.getD q default = z at *
  obtain ⟨n, rfl⟩ : ∃ n : Nat, z = n := ⟨z.toNat, by omega⟩
  have HZ := Lib.hid (HAT.out n (by omega))
  clear HAT
  rw [Int.toNat_natCast]
  generalize (l.getD k default).fChildren.length = m at *
  have hqm : q < m := by omega
  have hwq : IntKind.i64.wrap (q : Int) = (q : Int) := by rw [IntKind.wrap_i64] <;> omega
  go_enter Try.func23, Try.ntmps23
  go_wp2_with fail
  go_region_with ((go_at_call 22; refine (HZ.out _).mono ?_; rintro e w1 ⟨rfl, hb1⟩))
  all_goals
    have HB1 := Lib.hid (HB.out.trans ((show Below (w.alloc (.cells #[.slice (some ⟨b, off, none⟩) l.length c0] 45)).heap.size (w.alloc (.cells #[.slice (some ⟨b, off, none⟩) l.length c0] 45)) w1 from Below.trans (by repeat (first | (with_reducible exact Below.refl _ _) | (with_reducible apply Below.drew) | (with_reducible refine below_drewN ?_ _))) hb1).mono HB.out.size))
    clear hb1
    go_wp2
    go_ret
    exact ⟨rfl, HB1.out⟩
end Go.Proofs.Ytbaibioifmbchaa
