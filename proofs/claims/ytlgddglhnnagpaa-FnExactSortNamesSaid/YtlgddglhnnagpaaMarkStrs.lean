/-
  The laws' own helpers markStringS, which writes a mark of its own into each element of a slice of strings, and heldStringS, which finds them there.
-/
import Derived.Test.YtlgddglhnnagpaaMarkText
import Derived.Test.YtlgddglhnnagpaaStrsOwn
import Derived.Test.YtlgddglhnnagpaaWrites
import Derived.Deep.RegionWith
namespace Go.Proofs.Ytlgddglhnnagpaa
open Go.ChangeShapes Go.WideShapes Go.ChangeAt Go.RowKit
open Go.Lib Num

/-- The marks from number k on. -/
def marks (k n : Nat) : List ByteArray := (List.range n).map fun j => mk (k + j)
theorem marks_length (k n : Nat) : (marks k n).length = n := by unfold marks; simp
theorem marks_at (k n j : Nat) (h : j < n) : (marks k n).getD j ByteArray.empty = mk (k + j) := by unfold marks; simp [List.getD, h]

set_option maxHeartbeats 800000 in
set_option maxRecDepth 100000 in
theorem markStringS {g cap : Nat} (ss : List ByteArray) (hn : ss.length ≤ 9223372036854) (k : Nat) (hk1 : 1 ≤ k) (hk2 : k ≤ 9223372036854) (w : World) (ho : OwnStrs w g ss) :
    Calls Try.prog 43 #[.slice (some ⟨g, 0, none⟩) ss.length cap, .int .i64 (k : Int)] w fun e w' => e = .returned (.int .i64 ((k : Int) + ss.length)) ∧ OwnStrs w' g (marks k ss.length) ∧ Writes g w w' := by
  have HO := Lib.hid ho
  clear ho
  go_enter Try.func43, Try.ntmps43
  go_wp2
  go_loopw [1, 5] (fun q i wr => ∃ j : Nat, j ≤ ss.length ∧ i = .int .i64 (j : Int) ∧ q = .int .i64 ((k : Int) + j) ∧ g < wr.heap.size ∧ (∀ t, t < ss.length → ∃ s, wr.cell? ⟨g, t, none⟩ = some (.string s)) ∧ (∀ t, t < j → wr.cell? ⟨g, t, none⟩ = some (.string (mk (k + t)))) ∧ (∀ t, wr.frozen? ⟨g, t, none⟩ = false) ∧ Writes g w wr) (fun _ i _ => ss.length - (RowKit.intOf i).toNat)
  case atStart => exact ⟨0, Nat.zero_le _, rfl, by go_num, HO.out.lt, fun t ht => ⟨_, HO.out.cell t ht⟩, fun t ht => absurd ht (Nat.not_lt_zero _), HO.out.free, Writes.refl _ _⟩
  case round =>
    obtain ⟨j, hj, rfl, rfl, hlt, hall, hdone, hfree, hwr⟩ := hrel
    have HALL := Lib.hid hall
    have HDONE := Lib.hid hdone
    have HFREE := Lib.hid hfree
    have HWR := Lib.hid hwr
    clear hall hdone hfree hwr
    by_cases hlj : j < ss.length
    · have hM := markText (k + j) (by omega) (by omega) wr
      have e0 : ((k + j : Nat) : Int) = (k : Int) + j := by omega
      rw [e0] at hM
      have HM := Lib.hid hM
      clear hM e0
      generalize hv : mk (k + j) = mkj at HM
      have HV := Lib.hid hv
      clear hv
      go_wp2_with fail
      refine HM.out.mono ?_
      rintro e w1 ⟨rfl, hb1⟩
      obtain ⟨s0, hs0⟩ := HALL.out j hlj
      have hc : w1.cell? ⟨g, j, none⟩ = some (.string s0) := (hb1.cell (p := ⟨g, j, none⟩) hlt).trans hs0
      have hz : w1.frozen? ⟨g, j, none⟩ = false := (hb1.frozen (p := ⟨g, j, none⟩) hlt).trans (HFREE.out j)
      have HB1 := Lib.hid hb1
      clear hb1 hs0
      go_wp2
      go_roundw
      case rel =>
        refine ⟨j + 1, by omega, by go_num, by go_num, ?_, fun t ht => ?_, fun t ht => ?_, fun t => ?_, (HWR.out.later HB1.out).setCell j _⟩
        · have := HB1.out.size; simp [World.setCell]; omega
        · by_cases htj : t = j
          · subst htj; exact ⟨_, World.cell?_setCell_same _ _ _ hc⟩
          · obtain ⟨s, hs⟩ := HALL.out t ht
            exact ⟨s, (World.cell?_setCell_other _ ⟨g, j, none⟩ ⟨g, t, none⟩ _ (fun e => htj (congrArg Addr.off e).symm)).trans ((HB1.out.cell (p := ⟨g, t, none⟩) hlt).trans hs)⟩
        · by_cases htj : t = j
          · subst htj; rw [HV.out]; exact World.cell?_setCell_same _ _ _ hc
          · exact (World.cell?_setCell_other _ ⟨g, j, none⟩ ⟨g, t, none⟩ _ (fun e => htj (congrArg Addr.off e).symm)).trans ((HB1.out.cell (p := ⟨g, t, none⟩) hlt).trans (HDONE.out t (by omega)))
        · rw [World.frozen?_setCell]; exact (HB1.out.frozen (p := ⟨g, t, none⟩) hlt).trans (HFREE.out t)
      case measure => simp [RowKit.intOf]; omega
    · obtain rfl : j = ss.length := by omega
      go_wp2
      go_ret
      exact ⟨rfl, ⟨hlt, fun t ht => by rw [marks_length] at ht; rw [marks_at _ _ _ ht]; exact HDONE.out t ht, HFREE.out⟩, HWR.out⟩

set_option maxHeartbeats 1600000 in
set_option maxRecDepth 100000 in
theorem heldStringS {g cap : Nat} (n : Nat) (hn : n ≤ 9223372036854) (k : Nat) (hk1 : 1 ≤ k) (hk2 : k ≤ 9223372036854) (w : World) (ho : OwnStrs w g (marks k n)) :
    Calls Try.prog 44 #[.slice (some ⟨g, 0, none⟩) n cap, .int .i64 (k : Int)] w fun e w' => e = .returned (.int .i64 ((k : Int) + n)) ∧ Below w.heap.size w w' := by
  have HO := Lib.hid ho
  clear ho
  go_enter Try.func44, Try.ntmps44
  go_wp2
  go_loopw [1, 5] (fun q i wr => ∃ j : Nat, j ≤ n ∧ i = .int .i64 (j : Int) ∧ q = .int .i64 ((k : Int) + j) ∧ Below w.heap.size w wr) (fun _ i _ => n - (RowKit.intOf i).toNat)
  case atStart => exact ⟨0, Nat.zero_le _, rfl, by go_num, Below.refl _ _⟩
  case round =>
    obtain ⟨j, hj, rfl, rfl, hb⟩ := hrel
    have HB := Lib.hid hb
    by_cases hlj : j < n
    · have hM := fun w => markText (k + j) (by omega) (by omega) w
      have e0 : ((k + j : Nat) : Int) = (k : Int) + j := by omega
      rw [e0] at hM
      have hc : wr.cell? ⟨g, j, none⟩ = some (.string (mk (k + j))) := (hb.cell (p := ⟨g, j, none⟩) HO.out.lt).trans (by have := HO.out.cell j (by rw [marks_length]; exact hlj); rw [marks_at _ _ _ hlj] at this; exact this)
      have hgs : g < wr.heap.size := Nat.lt_of_lt_of_le HO.out.lt hb.size
      have HM := Lib.hid hM
      clear hM e0 hb
      generalize hv : mk (k + j) = mkj at HM hc
      have HV := Lib.hid hv
      clear hv
      go_wp2_with fail
      go_region_with ((go_at_call 72; refine (HM.out _).mono ?_; rintro e w1 ⟨rfl, hb1⟩; have hcc : w1.cell? ⟨g, j, none⟩ = some (.string mkj) := (hb1.cell (p := ⟨g, j, none⟩) hgs).trans hc))
      all_goals
        go_wp2
        go_roundw
        case rel =>
          refine ⟨j + 1, by omega, by go_num, by go_num, ?_⟩
          have hb2 : Below wr.heap.size wr w1 := ⟨hb1.os, hb1.tape, hb1.output, hb1.size, hb1.block⟩
          repeat (first | exact HB.out.trans (hb2.mono HB.out.size) | apply Below.drew | refine below_drewN ?_ _)
        case measure => simp [RowKit.intOf]; omega
    · obtain rfl : j = n := by omega
      go_wp2
      go_ret
      exact ⟨rfl, HB.out⟩
end Go.Proofs.Ytlgddglhnnagpaa
