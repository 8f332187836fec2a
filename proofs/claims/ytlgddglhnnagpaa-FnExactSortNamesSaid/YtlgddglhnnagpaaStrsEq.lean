/-
  The laws' own helper eqStringS: it compares two slices of strings element by element.
-/
import Derived.Test.YtlgddglhnnagpaaStrs
namespace Go.Proofs.Ytlgddglhnnagpaa
open Go.ChangeShapes Go.WideShapes Go.ChangeAt Go.RowKit

set_option maxHeartbeats 800000 in
set_option maxRecDepth 100000 in
/-- Equal strings: true. -/
theorem eqStringS {B : Nat} {a a2 : Option Addr} {cap cap2 : Nat} (ss : List ByteArray) (hn : ss.length ≤ 9223372036854775806) (w : World) (h1 : Strs B w a ss) (h2 : Strs B w a2 ss) :
    Calls Try.prog 40 #[.slice a ss.length cap, .slice a2 ss.length cap2] w fun e w' => e = .returned (.bool true) ∧ Below w.heap.size w w' := by
  have H1 := Lib.hid h1
  have H2 := Lib.hid h2
  clear h1 h2
  go_enter Try.func40, Try.ntmps40
  go_wp2
  go_loopw [5] (fun i wr => ∃ k : Nat, k ≤ ss.length ∧ i = .int .i64 (k : Int) ∧ ∃ n, wr = w.drewN n) (fun i _ => ss.length - (intOf i).toNat)
  case atStart => exact ⟨0, Nat.zero_le _, rfl, 0, rfl⟩
  case round =>
    obtain ⟨k, hk, rfl, n, rfl⟩ := hrel
    by_cases hlt : k < ss.length
    · obtain ⟨b, off, rfl, hb, hsz, hc1⟩ := H1.out.at k hlt
      obtain ⟨b2, off2, rfl, hb2, _, hc2⟩ := H2.out.at k hlt
      generalize ss.getD k ByteArray.empty = s at hsz hc1 hc2
      go_wp2
      go_quiet (fail)
      go_wp2
      go_roundw
      case rel => exact ⟨k + 1, by omega, by go_num, _, rfl⟩
      case measure => simp [intOf]; omega
    · go_wp2
      go_ret
      exact ⟨rfl, below_drewN (Below.refl _ _) _⟩
end Go.Proofs.Ytlgddglhnnagpaa
