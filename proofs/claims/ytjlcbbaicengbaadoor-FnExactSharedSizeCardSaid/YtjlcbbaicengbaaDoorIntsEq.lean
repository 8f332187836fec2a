/-
  Whether two lists of numbers are equal, in the model and in the program.
-/
import Derived.Test.YtjlcbbaicengbaaDoorTInt
namespace Go.Proofs.YtjlcbbaicengbaaDoor
open Go.ChangeShapes Go.WideShapes Go.ChangeAt Go.RowKit Go.Deep

theorem getD_ext {l m : List Int} (h : l.length = m.length) (hk : ∀ k, k < l.length → l.getD k default = m.getD k default) : l = m := by
  refine List.ext_getElem h fun i h1 h2 => ?_
  have := hk i h1
  rwa [List.getD_eq_getElem?_getD, List.getD_eq_getElem?_getD, List.getElem?_eq_getElem h1, List.getElem?_eq_getElem h2] at this

set_option maxHeartbeats 1600000 in
set_option maxRecDepth 100000 in
theorem spec_l1Ints {lo hi lo2 hi2 cap cap2 : Nat} {a a2 : Option Addr} (l m : List Int) (hn : l.length ≤ 1048576) (_ : m.length ≤ 1048576) (w : World) (hs : Sl lo hi w 1 l.length (fun k => ictI (l.getD k default)) a) (hs2 : Sl lo2 hi2 w 1 m.length (fun k => ictI (m.getD k default)) a2) :
    Calls Tryd.prog 31 #[.slice a l.length cap, .slice a2 m.length cap2] w fun e w' => e = .returned (.bool (decide (l = m))) ∧ ∃ q, w' = w.drewN q := by
  by_cases hl : l.length = m.length
  · have HS := Lib.hid hs
    have HS2 := Lib.hid hs2
    have HL := Lib.hid hl
    have e0 : ((l.length : Int) == (m.length : Int)) = true := by rw [hl]; exact beq_self_eq_true _
    clear hs hs2 hl
    go_enter Tryd.func31, Tryd.ntmps31
    go_wp2
    go_loopw [5] (fun i wr => ∃ k : Nat, k ≤ l.length ∧ i = .int .i64 (k : Int) ∧ (∀ jj, jj < k → l.getD jj default = m.getD jj default) ∧ ∃ q, wr = w.drewN q) (fun i _ => l.length - (intOf i).toNat)
    case atStart => exact ⟨0, Nat.zero_le _, rfl, fun _ h => absurd h (Nat.not_lt_zero _), 0, rfl⟩
    case round =>
      obtain ⟨k, hk, rfl, heq, q, rfl⟩ := hrel
      have HE := Lib.hid heq
      clear heq
      by_cases hlt : k < l.length
      · obtain ⟨b, off, rfl, _, _, hc⟩ := HS.out.at k hlt
        obtain ⟨b2, off2, rfl, _, _, hc2⟩ := HS2.out.at k (by rw [← HL.out]; exact hlt)
        rw [Nat.mul_one] at hc hc2
        have hc0 := open_Int hc
        have hd0 := open_Int hc2
        have hltm : k < m.length := by rw [← HL.out]; exact hlt
        clear hc hc2
        by_cases h1 : l.getD k default = m.getD k default
        · have HE2 := Lib.hid (show ∀ jj, jj < k + 1 → l.getD jj default = m.getD jj default from fun jj hj => by
            rcases Nat.lt_succ_iff_lt_or_eq.1 hj with h | h
            · exact HE.out jj h
            · rw [h]; exact h1)
          rw [h1] at hc0
          clear h1
          generalize m.getD k default = z at *
          go_wp2
          go_quiet (fail)
          go_wp2
          go_roundw
          case rel => exact ⟨k + 1, by omega, by go_num, HE2.out, _, rfl⟩
          case measure => simp [intOf]; omega
        · have fin := Lib.hid (show decide (l = m) = false from decide_eq_false (fun e => h1 (by rw [e])))
          have e2 : (l.getD k default == m.getD k default) = false := beq_eq_false_iff_ne.2 h1
          clear h1
          generalize l.getD k default = z at *
          generalize m.getD k default = z2 at *
          go_wp2
          go_quiet (fail)
          go_wp2
          go_ret
          exact ⟨ret_b (by rw [fin.out]), _, World.drewN_drewN _ _ _⟩
      · obtain rfl : k = l.length := by omega
        have fin := Lib.hid (show decide (l = m) = true from decide_eq_true (getD_ext HL.out HE.out))
        go_wp2
        go_ret
        exact ⟨ret_b (by rw [fin.out]), _, rfl⟩
  · have fin := Lib.hid (show decide (l = m) = false from decide_eq_false (fun e => hl (by rw [e])))
    have e0 : ((l.length : Int) == (m.length : Int)) = false := beq_eq_false_iff_ne.2 (by omega)
    clear hs hs2 hl
    go_enter Tryd.func31, Tryd.ntmps31
    go_wp2
    go_ret
    exact ⟨ret_b (by rw [fin.out]), 0, rfl⟩
end Go.Proofs.YtjlcbbaicengbaaDoor
