/-
  The laws' own helpers on []int.
  The type Relation of the laws: its data, and the contracts of the laws' own helpers on it.
-/
import Derived.Test.YtnmepemmpeboeaaGreatZz2
import Derived.WalkSpells
import Derived.WalkSmall
import Derived.WalkLawsBesides
import Derived.SliceStrings
import Derived.Deep.QuietTactic
import Derived.Deep.RegionWith
import Derived.BigQuiet
import Derived.Outline
import Derived.Laws.Rows
namespace Go.Proofs.YtnmepemmpeboeaaGreat
open Go.ChangeShapes Go.WideShapes Go.ChangeAt Go.RowKit Go.Deep

theorem info_Int : (Tryz.prog.info? 3).map (fun i => (i.zero, i.size, i.bytes)) = some (some (.int .i64 0), 1, 8) := by kernel_rfl

/-- An element, where the walk looks for it. -/
theorem open_Int {lo hi b o : Nat} {w : World} {x : Int} (h : ∀ j, j < 1 → ∃ u, w.cell? ⟨b, o + j, none⟩ = some u ∧ Lies lo hi w (ictI x j) u) : w.cell? ⟨b, o, none⟩ = some (.int .i64 x) := by
  obtain ⟨u0, hc0, hl0⟩ := h 0 (by decide)
  obtain rfl := lies_lit hl0
  exact hc0

set_option maxHeartbeats 1600000 in
set_option maxRecDepth 100000 in
theorem laws_eqIntS {lo hi lo2 hi2 : Nat} {a a2 : Option Addr} {cap cap2 : Nat} (l : List Int) (hsz : lsz (fun _ => 0) l ≤ 1048576) (w : World) (_ : hi ≤ w.heap.size) (_ : hi2 ≤ w.heap.size) (hs : Sl lo hi w 1 l.length (fun k => ictI (l.getD k default)) a) (hs2 : Sl lo2 hi2 w 1 l.length (fun k => ictI (l.getD k default)) a2) :
    Calls Tryz.prog 39 #[.slice a l.length cap, .slice a2 l.length cap2] w fun e w' => e = .returned (.bool true) ∧ Below w.heap.size w w' := by
  have HS := Lib.hid hs
  have HS2 := Lib.hid hs2
  have hn : l.length ≤ 1048576 := by unfold lsz at hsz; omega
  clear hs hs2 hsz
  go_enter Tryz.func39, Tryz.ntmps39
  go_wp2
  go_loopw [5] (fun i wr => ∃ k : Nat, k ≤ l.length ∧ i = .int .i64 (k : Int) ∧ ∃ n, wr = w.drewN n) (fun i _ => l.length - (intOf i).toNat)
  case atStart => exact ⟨0, Nat.zero_le _, rfl, 0, rfl⟩
  case round =>
    obtain ⟨k, hk, rfl, n, rfl⟩ := hrel
    by_cases hlt : k < l.length
    · obtain ⟨b, off, rfl, _, hhi', hc⟩ := HS.out.at k hlt
      obtain ⟨b2, off2, rfl, _, hhi2', hc2⟩ := HS2.out.at k hlt
      rw [Nat.mul_one] at hc hc2
      have hc0 := open_Int hc
      have hd0 := open_Int hc2
      clear hc hc2
      generalize l.getD k default = x at *
      go_wp2
      go_quiet (fail)
      go_wp2
      go_roundw
      case rel => exact ⟨k + 1, by omega, by go_num, _, rfl⟩
      case measure => simp [intOf]; omega
    · go_wp2
      go_ret
      exact ⟨rfl, below_drewN (Below.refl _ _) _⟩
end Go.Proofs.YtnmepemmpeboeaaGreat
namespace Go.Proofs.YtnmepemmpeboeaaGreat
open Go.ChangeShapes Go.WideShapes Go.ChangeAt Go.RowKit Go.Deep

structure DRelation where
  fN : Int
  fRows : List (Int)
  deriving Inhabited

def DRelation.sz (x : DRelation) : Nat := (lsz (fun _ => 0)) x.fRows

set_option maxHeartbeats 1600000 in
set_option maxRecDepth 100000 in
theorem laws_eqRelation {lo hi lo2 hi2 : Nat} {a1 : Option Addr} {c1 : Nat} {a1q : Option Addr} {c1q : Nat} (x : DRelation) (hsz : x.sz ≤ 1048576) (w : World) (hhi : hi ≤ w.heap.size) (hhi2 : hi2 ≤ w.heap.size) (hs1 : Sl lo hi w 1 x.fRows.length (fun k => ictI (x.fRows.getD k default)) a1) (hs1q : Sl lo2 hi2 w 1 x.fRows.length (fun k => ictI (x.fRows.getD k default)) a1q) :
    Calls Tryz.prog 10 #[.agg #[.int .i64 x.fN, .slice a1 x.fRows.length c1], .agg #[.int .i64 x.fN, .slice a1q x.fRows.length c1q]] w fun e w' => e = .returned (.bool true) ∧ Below w.heap.size w w' := by
  have HS1 := Lib.hid hs1
  have HS1q := Lib.hid hs1q
  clear hs1 hs1q
  have HW := Lib.hid hsz
  clear hsz
  have HB0 := Lib.hid (((Below.refl w.heap.size w).alloc (Nat.le_refl _) (.cells #[.int .i64 x.fN, .slice a1 x.fRows.length c1] 35)).alloc (by simp <;> omega) (.cells #[.int .i64 x.fN, .slice a1q x.fRows.length c1q] 35))
  have ht0 := fun (w' : World) (hhi : hi ≤ w'.heap.size) (hhi2 : hi2 ≤ w'.heap.size) (hs : Sl lo hi w' 1 x.fRows.length (fun k => ictI (x.fRows.getD k default)) a1) (hs2 : Sl lo2 hi2 w' 1 x.fRows.length (fun k => ictI (x.fRows.getD k default)) a1q) => laws_eqIntS (cap := c1) (cap2 := c1q) x.fRows (by have h := HW.out; unfold DRelation.sz at h; omega) w' hhi hhi2 hs hs2
  have HT0 := Lib.hid ht0
  clear ht0
  go_enter Tryz.func10, Tryz.ntmps10
  go_wp2_with fail
  refine (HT0.out _ (Nat.le_trans hhi (HB0.out.size)) (Nat.le_trans hhi2 (HB0.out.size)) (HS1.out.later HB0.out hhi) (HS1q.out.later HB0.out hhi2)).mono ?_
  rintro e w1 ⟨rfl, hb1⟩
  have HB1 := Lib.hid (HB0.out.trans (hb1.mono HB0.out.size))
  clear hb1
  go_wp2
  go_ret
  exact ⟨rfl, HB1.out⟩
end Go.Proofs.YtnmepemmpeboeaaGreat
