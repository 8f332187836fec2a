/-
  The laws' own helper toStringS: a copy of a slice of strings in new memory.
-/
import Derived.Test.YtlgddglhnnagpaaStrsOwn
namespace Go.Proofs.Ytlgddglhnnagpaa
open Go.ChangeShapes Go.WideShapes Go.ChangeAt Go.RowKit

set_option maxHeartbeats 800000 in
set_option maxRecDepth 100000 in
theorem toStringS {B : Nat} {a : Option Addr} {cap : Nat} (ss : List ByteArray) (hn : ss.length ≤ 1048576) (w : World) (hB : B ≤ w.heap.size) (hs : Strs B w a ss) :
    Calls Try.prog 39 #[.slice a ss.length cap] w fun e w' => ∃ g, e = .returned (.slice (some ⟨g, 0, none⟩) ss.length ss.length) ∧ w.heap.size ≤ g ∧ OwnStrs w' g ss ∧ Below w.heap.size w w' := by
  have HS := Lib.hid hs
  clear hs
  obtain ⟨i0, hi, hz0, hz1, hz2⟩ := info_parts info_string
  go_enter Try.func39, Try.ntmps39
  go_wp2_with (at_make; refine wpList_make_full _ rfl (.tmp 6) (.tmp 6) 24 rfl w.heap.size 9 i0 (.string ⟨#[]⟩) 1 Try.underlying24 hi hz0 hz1 .i64 .i64 (ss.length : Int) (ss.length : Int) ss.length rfl rfl rfl rfl (by rw [hz2]; omega) (by unfold maxLen; omega) (Nat.le_refl _) ?_; intro w1 hown hgrow)
  have hb1 : Below w.heap.size w w1 := (Below.refl _ w).grown hgrow (Nat.le_refl _) (fun k hk => by cases hk)
  clear hgrow
  go_loopw [4] (fun i wr => ∃ (k : Nat) (xs : List Value), k ≤ ss.length ∧ i = .int .i64 (k : Int) ∧ wr.ownsRow w.heap.size 9 1 (.slice (some ⟨w.heap.size, 0, none⟩) ss.length ss.length) ss.length xs ∧ (∀ j, j < k → xs[j]? = some (.string (ss.getD j ByteArray.empty))) ∧ Below w.heap.size w wr) (fun i _ => ss.length - (intOf i).toNat)
  case atStart => exact ⟨0, _, Nat.zero_le _, rfl, hown, fun j hj => absurd hj (Nat.not_lt_zero _), hb1⟩
  case round =>
    clear hown hb1
    obtain ⟨k, xs, hk, rfl, hown, hxs, hb⟩ := hrel
    have HO := Lib.hid hown
    have HX := Lib.hid hxs
    clear hown hxs
    by_cases hlt : k < ss.length
    · obtain ⟨b, off, rfl, hbB, hsz, hc1⟩ := (HS.out.below (hb.mono hB)).at k hlt
      have hlen : xs.length = ss.length := by have := HO.out.1; omega
      have hc2 : wr.cell? ⟨w.heap.size, k, none⟩ = some (xs[k]'(by omega)) := by
        rw [HO.out.cellAt k (by omega), List.getElem?_eq_getElem (by omega)]
      have hz2 : wr.frozen? ⟨w.heap.size, k, none⟩ = false := HO.out.frozenAt k
      have HG := Lib.hid (HO.out.stored k (.string (ss.getD k ByteArray.empty)))
      have HL := Lib.hid hlen
      generalize hv : ss.getD k ByteArray.empty = s at hsz hc1 HG
      have HV := Lib.hid hv
      generalize xs[k]'(by omega) = v0 at hc2
      clear hv hlen
      go_wp2
      go_roundw
      case rel =>
        refine ⟨k + 1, xs.set k (.string s), by omega, by go_num, HG.out.1, fun j hj => ?_, hb.setCell (p := ⟨w.heap.size, k, none⟩) (Nat.le_refl _) _⟩
        rw [List.getElem?_set]
        have hl := HL.out
        by_cases hjk : k = j
        · subst hjk; rw [if_pos rfl, if_pos (by omega), HV.out]
        · rw [if_neg hjk]; exact HX.out j (by omega)
      case measure => simp [intOf]; omega
    · obtain rfl : k = ss.length := by omega
      go_wp2
      go_ret
      refine ⟨w.heap.size, rfl, Nat.le_refl _, ⟨?_, fun j hj => ?_, fun j => HO.out.frozenAt j⟩, hb⟩
      · rcases HO.out.2 with ⟨h', _⟩ | ⟨g', cap', cur, h', _, hg, _⟩
        · cases h'
        · simp only [Value.slice.injEq, Option.some.injEq, Addr.mk.injEq, and_true, true_and] at h'
          rw [← h'.1] at hg
          exact (Array.getElem?_eq_some_iff.1 hg).1
      · rw [HO.out.cellAt j (by omega)]; exact HX.out j hj
end Go.Proofs.Ytlgddglhnnagpaa
