/-
  The laws' own helper szStringS: how many letters a slice of strings holds.
-/
import Derived.Test.YtlgddglhnnagpaaStrs
namespace Go.Proofs.Ytlgddglhnnagpaa
open Go.ChangeShapes Go.WideShapes Go.ChangeAt Go.RowKit

/-- What szStringS returns. -/
def szR (L : Int) (ss : List ByteArray) : Int := if (ss.length : Int) + sumSize ss ≤ L then L - ss.length - sumSize ss else -1

set_option maxHeartbeats 800000 in
set_option maxRecDepth 100000 in
theorem szStringS {B : Nat} {a : Option Addr} {cap : Nat} (ss : List ByteArray) (L : Int) (hL0 : 0 ≤ L) (hL1 : L ≤ 1048576) (hn : ss.length ≤ 9223372036854775807) (w : World) (hs : Strs B w a ss) :
    Calls Try.prog 37 #[.slice a ss.length cap, .int .i64 L] w fun e w' => e = .returned (.int .i64 (szR L ss)) ∧ w = w' := by
  have HS := Lib.hid hs
  clear hs
  by_cases hlong : L < (ss.length : Int)
  · have fin : Hid (szR L ss = -1) := by show szR L ss = -1; unfold szR; rw [if_neg (by omega)]
    go_enter Try.func37, Try.ntmps37
    go_wp2
    go_ret
    exact ⟨congrArg (fun x => Ending.returned (Value.int .i64 x)) fin.out.symm, rfl⟩
  · go_enter Try.func37, Try.ntmps37
    go_wp2
    go_loop [1, 5] (fun l i => ∃ k S : Nat, k ≤ ss.length ∧ i = .int .i64 (k : Int) ∧ S = sumSize (ss.take k) ∧ (ss.length : Int) + S ≤ L ∧ l = .int .i64 (L - ss.length - S)) (fun _ i => ss.length - (intOf i).toNat)
    case atStart => exact ⟨0, 0, Nat.zero_le _, rfl, rfl, by omega, by go_num⟩
    case round =>
      obtain ⟨k, S, hk, rfl, hS, hle, rfl⟩ := hrel
      have HSum := Lib.hid hS
      clear hS
      by_cases hlt : k < ss.length
      · obtain ⟨b, off, rfl, hb, hsz, hcell⟩ := HS.out.at k hlt
        have hstep := Lib.hid (sumSize_take ss k hlt)
        have htot := Lib.hid (sumSize_take_le ss (k + 1))
        generalize hs : ss.getD k ByteArray.empty = s at hsz hcell hstep
        have HS' := Lib.hid hs
        clear hs
        by_cases hover : L - ss.length - S - s.size < 0
        · have fin : Hid (szR L ss = -1) := by
            show szR L ss = -1
            unfold szR
            rw [if_neg]
            have h1 := hstep.out
            have h2 := htot.out
            rw [h1, ← HSum.out] at h2
            omega
          go_wp2
          go_ret
          exact ⟨congrArg (fun x => Ending.returned (Value.int .i64 x)) fin.out.symm, rfl⟩
        · go_wp2
          go_round
          case rel => exact ⟨k + 1, S + s.size, by omega, by go_num, by rw [hstep.out, HSum.out], by omega, by go_num⟩
          case measure => simp [intOf]; omega
      · obtain rfl : k = ss.length := by omega
        have fin : Hid (szR L ss = L - ss.length - S) := by
          show szR L ss = _
          have h1 := HSum.out
          rw [List.take_length] at h1
          unfold szR
          rw [← h1, if_pos hle]
        go_wp2
        go_ret
        exact ⟨congrArg (fun x => Ending.returned (Value.int .i64 x)) fin.out.symm, rfl⟩
end Go.Proofs.Ytlgddglhnnagpaa
