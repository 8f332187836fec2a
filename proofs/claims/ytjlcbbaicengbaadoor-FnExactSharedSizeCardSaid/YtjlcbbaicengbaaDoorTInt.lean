/-
  The laws' own helpers on []int.
-/
import Derived.Test.YtjlcbbaicengbaaDoorTSz
import Derived.WalkSpells
import Derived.WalkSmall
import Derived.WalkLawsBesides
import Derived.SliceStrings
import Derived.Deep.QuietTactic
import Derived.Deep.RegionWith
import Derived.BigQuiet
namespace Go.Proofs.YtjlcbbaicengbaaDoor
open Go.ChangeShapes Go.WideShapes Go.ChangeAt Go.RowKit Go.Deep

theorem info_Int : (Tryd.prog.info? 3).map (fun i => (i.zero, i.size, i.bytes)) = some (some (.int .i64 0), 1, 8) := by kernel_rfl

/-- An element, where the walk looks for it. -/
theorem open_Int {lo hi b o : Nat} {w : World} {x : Int} (h : ∀ j, j < 1 → ∃ u, w.cell? ⟨b, o + j, none⟩ = some u ∧ Lies lo hi w (ictI x j) u) : w.cell? ⟨b, o, none⟩ = some (.int .i64 x) := by
  obtain ⟨u0, hc0, hl0⟩ := h 0 (by decide)
  obtain rfl := lies_lit hl0
  exact hc0

set_option maxHeartbeats 1600000 in
set_option maxRecDepth 100000 in
theorem laws_szIntS {lo hi : Nat} {a : Option Addr} {cap : Nat} (l : List Int) (L : Int) (hL0 : 0 ≤ L) (hL1 : L ≤ 1048576) (hok : okL okI l) (w : World) (_ : hi ≤ w.heap.size) (_ : Sl lo hi w 1 l.length (fun k => ictI (l.getD k default)) a) :
    Calls Tryd.prog 30 #[.slice a l.length cap, .int .i64 L] w fun e w' => e = .returned (.int .i64 (szR L (lsz (fun _ => 0) l))) ∧ Below w.heap.size w w' := by
  have hn : l.length ≤ 9223372036854775807 := hok.1
  clear hok
  have hz := lsz_zero l
  by_cases hlong : L < ((l.length : Nat) : Int)
  · have fin := Lib.hid (szR_gt (n := lsz (fun _ => 0) l) (L := L) (by omega))
    clear hz
    go_enter Tryd.func30, Tryd.ntmps30
    go_wp2
    go_ret
    exact ⟨ret_i fin.out.symm, Below.refl _ _⟩
  · have fin := Lib.hid (szR_le (n := lsz (fun _ => 0) l) (L := L) (by omega))
    have HZ := Lib.hid hz
    clear hz
    go_enter Tryd.func30, Tryd.ntmps30
    go_wp2
    go_ret
    exact ⟨ret_i (by rw [fin.out, HZ.out]), Below.refl _ _⟩

set_option maxHeartbeats 1600000 in
set_option maxRecDepth 100000 in
theorem laws_toIntS {lo hi : Nat} {a : Option Addr} {cap : Nat} (l : List Int) (hsz : lsz (fun _ => 0) l ≤ 1048576) (w : World) (hhi : hi ≤ w.heap.size) (hs : Sl lo hi w 1 l.length (fun k => ictI (l.getD k default)) a) :
    Calls Tryd.prog 32 #[.slice a l.length cap] w fun e w' => ∃ a' cap', e = .returned (.slice a' l.length cap') ∧ Own w' (fun x => w.heap.size ≤ x ∧ x < w'.heap.size) (.sl 1 l.length (fun k => ictI (l.getD k default))) (.slice a' l.length cap') ∧ Below w.heap.size w w' := by
  have HS := Lib.hid hs
  clear hs
  have hn : l.length ≤ 1048576 := by unfold lsz at hsz; omega
  clear hsz
  obtain ⟨i0, hi', hz0, hz1, hz2⟩ := info_parts info_Int
  go_enter Tryd.func32, Tryd.ntmps32
  go_wp2_with (at_make; refine wpList_make_full _ rfl (.tmp 6) (.tmp 6) 37 rfl w.heap.size 3 i0 (.int .i64 0) 1 Tryd.underlying37 hi' hz0 hz1 .i64 .i64 (l.length : Int) (l.length : Int) l.length rfl rfl rfl rfl (by rw [hz2]; omega) (by unfold maxLen; omega) (Nat.le_refl _) ?_; intro w1 hown hgrow)
  have hb1 : Below w.heap.size w w1 := (Below.refl _ w).grown hgrow (Nat.le_refl _) (fun k hk => by cases hk)
  clear hgrow
  have hblk := (ownsRow_block hown).1
  go_loopw [4] (fun i wr => ∃ (k : Nat) (xs : List Value), k ≤ l.length ∧ i = .int .i64 (k : Int) ∧ wr.ownsRow w.heap.size 3 1 (.slice (some ⟨w.heap.size, 0, none⟩) l.length l.length) l.length xs ∧ Filled w.heap.size wr 1 k (fun k => ictI (l.getD k default)) xs ∧ Below w.heap.size w wr) (fun i _ => l.length - (intOf i).toNat)
  case atStart => exact ⟨0, _, Nat.zero_le _, rfl, hown, Filled.zero hblk, hb1⟩
  case round =>
    clear hown hb1 hblk
    obtain ⟨k, xs, hk, rfl, hown, hfill, hb⟩ := hrel
    have hblk := ownsRow_block hown
    have HO := Lib.hid hown
    have HF := Lib.hid hfill
    have HB := Lib.hid hb
    clear hown hfill
    by_cases hlt : k < l.length
    · obtain ⟨b, off, rfl, hlo, hhi', hc⟩ := (HS.out.later (hb.mono hhi) (Nat.le_refl _)).at k hlt
      rw [Nat.mul_one] at hc
      have hc0 := open_Int hc
      have d0 := hblk.2.2.1 k (by omega)
      have z0 := hblk.2.2.2 k
      have hsz := hblk.1
      clear hblk hb hc
      generalize hx : l.getD k default = x at *
      have HX := Lib.hid hx
      clear hx
      generalize xs.getD k Value.nilFunc = v0 at d0
      have hst := Lib.hid (HF.out.stored (Below.refl _ wr) hsz HO.out hlt [.int .i64 x] rfl (OwnR.lits fun j hj => by
        rw [HX.out]
        match j, hj with
        | 0, _ => rfl))
      rw [Nat.mul_one] at hst
      go_wp2
      go_roundw
      case rel =>
        exact ⟨k + 1, _, by omega, by go_num, hst.out.1, hst.out.2, setCells_below (Nat.le_refl _) [_] _ HB.out⟩
      case measure => simp [intOf]; omega
    · obtain rfl : k = l.length := by omega
      go_wp2
      go_ret
      exact ⟨_, _, rfl, HF.out.own hblk.1 hblk.2.2.1 hblk.2.2.2, hb⟩

set_option maxHeartbeats 1600000 in
set_option maxRecDepth 100000 in
theorem laws_eqIntS {lo hi lo2 hi2 : Nat} {a a2 : Option Addr} {cap cap2 : Nat} (l : List Int) (hsz : lsz (fun _ => 0) l ≤ 1048576) (w : World) (_ : hi ≤ w.heap.size) (_ : hi2 ≤ w.heap.size) (hs : Sl lo hi w 1 l.length (fun k => ictI (l.getD k default)) a) (hs2 : Sl lo2 hi2 w 1 l.length (fun k => ictI (l.getD k default)) a2) :
    Calls Tryd.prog 36 #[.slice a l.length cap, .slice a2 l.length cap2] w fun e w' => e = .returned (.bool true) ∧ Below w.heap.size w w' := by
  have HS := Lib.hid hs
  have HS2 := Lib.hid hs2
  have hn : l.length ≤ 1048576 := by unfold lsz at hsz; omega
  clear hs hs2 hsz
  go_enter Tryd.func36, Tryd.ntmps36
  go_wp2
  go_loopw [5] (fun i wr => ∃ k : Nat, k ≤ l.length ∧ i = .int .i64 (k : Int) ∧ ∃ n, wr = w.drewN n) (fun i _ => l.length - (intOf i).toNat)
  case atStart => exact ⟨0, Nat.zero_le _, rfl, 0, rfl⟩
  case round =>
    obtain ⟨k, hk, rfl, n, rfl⟩ := hrel
    by_cases hlt : k < l.length
    · obtain ⟨b, off, rfl, _, hhi', hc⟩ := HS.out.at k hlt
      obtain ⟨b2, off2, rfl, _, hhi2', hc2⟩ := HS2.out.at k hlt
      rw [Nat.mul_one] at hc hc2
      have hc0 := open_Int hc
      have hd0 := open_Int hc2
      clear hc hc2
      generalize l.getD k default = x at *
      go_wp2
      go_quiet (fail)
      go_wp2
      go_roundw
      case rel => exact ⟨k + 1, by omega, by go_num, _, rfl⟩
      case measure => simp [intOf]; omega
    · go_wp2
      go_ret
      exact ⟨rfl, below_drewN (Below.refl _ _) _⟩
end Go.Proofs.YtjlcbbaicengbaaDoor
