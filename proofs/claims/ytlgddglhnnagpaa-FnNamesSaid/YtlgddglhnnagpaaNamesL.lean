/-
  What the law on names asks of lists: 'rising', 'sameTexts'; and what it draws.
-/
import Derived.Test.YtlgddglhnnagpaaDrawN
import Derived.Test.YtlgddglhnnagpaaStrsEq
import Derived.Test.YtlgddglhnnagpaaSort
import Derived.Deep.QuietTactic
import Derived.BigQuiet
namespace Go.Proofs.Ytlgddglhnnagpaa
open Go.ChangeShapes Go.WideShapes Go.ChangeAt Go.RowKit
open Go.Sort

theorem asc_at {ss : List ByteArray} (h : AscB ss) (k : Nat) (hk : k + 1 < ss.length) : Op.bytesLess (ss.getD k ByteArray.empty).toList (ss.getD (k + 1) ByteArray.empty).toList = true := by
  unfold AscB Asc at h
  rw [List.pairwise_map, List.pairwise_iff_getElem] at h
  have := h k (k + 1) (by omega) hk (by omega)
  rw [Go.Proofs.bytesLess_eq, decide_eq_true_eq, Lib.toList_data, Lib.toList_data, List.getD_eq_getElem?_getD, List.getD_eq_getElem?_getD, List.getElem?_eq_getElem (by omega), List.getElem?_eq_getElem hk]
  exact this

set_option maxHeartbeats 800000 in
set_option maxRecDepth 100000 in
theorem laws_rising {B : Nat} {a : Option Addr} {cap : Nat} (ss : List ByteArray) (hn : ss.length ≤ 1048576) (ha : AscB ss) (w : World) (hs : Strs B w a ss) :
    Calls Try.prog 17 #[.slice a ss.length cap] w fun e w' => e = .returned (.bool true) ∧ Below w.heap.size w w' := by
  have HS := Lib.hid hs
  have HA := Lib.hid ha
  clear hs ha
  go_enter Try.func17, Try.ntmps17
  go_wp2
  go_loopw [3] (fun i wr => ∃ k : Nat, k ≤ ss.length ∧ i = .int .i64 ((k : Int) + 1) ∧ ∃ n, wr = w.drewN n) (fun i _ => ss.length + 1 - (intOf i).toNat)
  case atStart => exact ⟨0, Nat.zero_le _, rfl, 0, rfl⟩
  case round =>
    obtain ⟨k, hk, rfl, n, rfl⟩ := hrel
    by_cases hlt : k + 1 < ss.length
    · obtain ⟨b, off, rfl, hb, hsz, hc1⟩ := HS.out.at k (by omega)
      obtain ⟨b2, off2, ea, hb2, _, hc2⟩ := HS.out.at (k + 1) hlt
      injection ea with ea
      injection ea with e1 e2
      subst e1
      subst e2
      have hless := asc_at HA.out k hlt
      generalize ss.getD k ByteArray.empty = s at hsz hc1 hless
      generalize ss.getD (k + 1) ByteArray.empty = t at hc2 hless
      have e1 : (k : Int) + 1 - 1 = k := by omega
      have hkI : (k : Int) + 1 < (ss.length : Int) := by omega
      go_wp2
      go_quiet (fail)
      go_wp2
      go_roundw
      case rel => exact ⟨k + 1, by omega, by go_num, _, rfl⟩
      case measure => simp [intOf]; omega
    · have hkI : (ss.length : Int) ≤ (k : Int) + 1 := by omega
      go_wp2
      go_ret
      exact ⟨rfl, below_drewN (Below.refl _ _) _⟩

set_option maxHeartbeats 800000 in
set_option maxRecDepth 100000 in
/-- Equal strings: true. -/
theorem laws_sameTexts {B : Nat} {a a2 : Option Addr} {cap cap2 : Nat} (ss : List ByteArray) (hn : ss.length ≤ 1048576) (w : World) (h1 : Strs B w a ss) (h2 : Strs B w a2 ss) :
    Calls Try.prog 18 #[.slice a ss.length cap, .slice a2 ss.length cap2] w fun e w' => e = .returned (.bool true) ∧ Below w.heap.size w w' := by
  have H1 := Lib.hid h1
  have H2 := Lib.hid h2
  clear h1 h2
  go_enter Try.func18, Try.ntmps18
  go_wp2
  go_loopw [5] (fun i wr => ∃ k : Nat, k ≤ ss.length ∧ i = .int .i64 (k : Int) ∧ ∃ n, wr = w.drewN n) (fun i _ => ss.length - (intOf i).toNat)
  case atStart => exact ⟨0, Nat.zero_le _, rfl, 0, rfl⟩
  case round =>
    obtain ⟨k, hk, rfl, n, rfl⟩ := hrel
    by_cases hlt : k < ss.length
    · obtain ⟨b, off, rfl, hb, hsz, hc1⟩ := H1.out.at k hlt
      obtain ⟨b2, off2, rfl, hb2, _, hc2⟩ := H2.out.at k hlt
      generalize ss.getD k ByteArray.empty = s at hsz hc1 hc2
      go_wp2
      go_quiet (fail)
      go_wp2
      go_roundw
      case rel => exact ⟨k + 1, by omega, by go_num, _, rfl⟩
      case measure => simp [intOf]; omega
    · go_wp2
      go_ret
      exact ⟨rfl, below_drewN (Below.refl _ _) _⟩

set_option maxRecDepth 100000 in
theorem DrawSortNames {B : Nat} {a : Option Addr} {len cap : Nat} (w : World) (hB : B ≤ w.heap.size) (hl : len ≤ 1048576) (hc : Code B w a len) :
    Calls Try.prog 15 #[.slice a len cap] w fun e w' => ∃ (g cap' : Nat) (ss : List ByteArray), e = .returned (.slice (some ⟨g, 0, none⟩) ss.length cap') ∧ w.heap.size ≤ g ∧ OwnStrs w' g ss ∧ ss.length ≤ 5 ∧ (∀ s ∈ ss, s.size ≤ 9) ∧ Below w.heap.size w w' := by
  have HC := Lib.hid hc
  clear hc
  go_enter Try.func15, Try.ntmps15
  go_wp2_with fail
  refine (draw_new _ hB hl HC.out).mono ?_
  rintro e w1 ⟨C, rfl, hC, hc1, hb1⟩
  have HC1 := Lib.hid hc1
  have HB1 := Lib.hid hb1
  clear hc1 hb1
  go_wp2_with fail
  refine (spec_l2List _ HC1.out).mono ?_
  rintro e w2 ⟨g, cap', ss, rfl, hg, ho, hl5, hs9, hc2, hw2⟩
  have HO := Lib.hid ho
  have HS := Lib.hid hs9
  have HB2 := Lib.hid (HB1.out.trans ((hw2.below HC1.out.lt).mono hC))
  have hgw : w.heap.size ≤ g := Nat.le_trans HB1.out.size hg
  generalize hL : ss.length = L at hl5
  have HL := Lib.hid hL
  clear ho hs9 hc2 hw2 hL
  go_wp2
  go_ret
  exact ⟨g, cap', ss, by rw [HL.out]; rfl, hgw, HO.out, by rw [HL.out]; exact hl5, HS.out, HB2.out⟩

set_option maxRecDepth 100000 in
theorem DrawIsValidName {B : Nat} {a : Option Addr} {len cap : Nat} (w : World) (hB : B ≤ w.heap.size) (hl : len ≤ 1048576) (hc : Code B w a len) :
    Calls Try.prog 21 #[.slice a len cap] w fun e w' => ∃ s : ByteArray, e = .returned (.string s) ∧ s.size ≤ 9 ∧ Below w.heap.size w w' := by
  have HC := Lib.hid hc
  clear hc
  go_enter Try.func21, Try.ntmps21
  go_wp2_with fail
  refine (draw_new _ hB hl HC.out).mono ?_
  rintro e w1 ⟨C, rfl, hC, hc1, hb1⟩
  have HC1 := Lib.hid hc1
  have HB1 := Lib.hid hb1
  clear hc1 hb1
  go_wp2_with fail
  refine (spec_l2Any _ HC1.out).mono ?_
  rintro e w2 ⟨s, rfl, hs, hc2, hw2⟩
  have HB2 := Lib.hid (HB1.out.trans ((hw2.below HC1.out.lt).mono hC))
  clear hc2 hw2
  go_wp2
  go_ret
  exact ⟨s, rfl, hs, HB2.out⟩
end Go.Proofs.Ytlgddglhnnagpaa
