/-
  The laws' helpers on long lists.
-/
import Derived.Test.YticchgfhmfjknaaMkOccurrence
import Derived.Test.YticchgfhmfjknaaTInt
namespace Go.Proofs.Yticchgfhmfjknaa
open Go.ChangeShapes Go.WideShapes Go.ChangeAt Go.RowKit Go.Deep

set_option maxHeartbeats 3200000 in
set_option maxRecDepth 100000 in
theorem laws_eqOccurrenceSL {lo hi lo2 hi2 : Nat} {a a2 : Option Addr} {cap cap2 : Nat} (l : List DOccurrence) (hn : l.length ≤ 1099511627776) (w : World) (hhi : hi ≤ w.heap.size) (hhi2 : hi2 ≤ w.heap.size) (hs : Sl lo hi w 2 l.length (fun k => DOccurrence.ct (l.getD k default)) a) (hs2 : Sl lo2 hi2 w 2 l.length (fun k => DOccurrence.ct (l.getD k default)) a2) :
    Calls Try.prog 10 #[.slice a l.length cap, .slice a2 l.length cap2] w fun e w' => e = .returned (.bool true) ∧ Below w.heap.size w w' := by
  have HS := Lib.hid hs
  have HS2 := Lib.hid hs2
  clear hs hs2
  go_enter Try.func10, Try.ntmps10
  go_wp2
  go_loopw [5] (fun i wr => ∃ k : Nat, k ≤ l.length ∧ i = .int .i64 (k : Int) ∧ Below w.heap.size w wr) (fun i _ => l.length - (intOf i).toNat)
  case atStart => exact ⟨0, Nat.zero_le _, rfl, Below.refl _ _⟩
  case round =>
    obtain ⟨k, hk, rfl, hb⟩ := hrel
    have HB := Lib.hid hb
    by_cases hlt : k < l.length
    · have hhr : hi ≤ wr.heap.size := Nat.le_trans hhi hb.size
      have hhr2 : hi2 ≤ wr.heap.size := Nat.le_trans hhi2 hb.size
      obtain ⟨b, off, rfl, _, hhi', hc⟩ := (HS.out.later (hb.mono hhi) (Nat.le_refl _)).at k hlt
      obtain ⟨b2, off2, rfl, _, hhi2', hc2⟩ := (HS2.out.later (hb.mono hhi2) (Nat.le_refl _)).at k hlt
      obtain ⟨hc0_, hc1_⟩ := DOccurrence.open hc
      obtain ⟨hc0q_, hc1q_⟩ := DOccurrence.open hc2
      clear hb hc hc2
      generalize l.getD k default = x at *
      have HT := Lib.hid (fun (w' : World) => laws_eqOccurrence x w')
      skip
      go_wp2_with fail
      go_region_with ((go_at_call 33; refine (HT.out _).mono ?_; rintro e w1 ⟨rfl, hb1⟩))
      all_goals
        go_wp2
        go_roundw
        case rel =>
          refine ⟨k + 1, by omega, by go_num, ?_⟩
          have hb2 : Below wr.heap.size wr w1 := ⟨hb1.os, hb1.tape, hb1.output, hb1.size, hb1.block⟩
          repeat (first | exact HB.out.trans (hb2.mono HB.out.size) | apply Below.drew | refine below_drewN ?_ _)
        case measure => simp [intOf]; omega
    · go_wp2
      go_ret
      exact ⟨rfl, HB.out⟩

set_option maxHeartbeats 3200000 in
set_option maxRecDepth 100000 in
theorem laws_markOccurrenceSL {F : Nat → Prop} {a : Option Addr} {cap : Nat} (l : List DOccurrence) (hn : l.length ≤ 1099511627776) (k : Nat) (hk0 : 1 ≤ k) (hk : k ≤ 4398046511104) (w : World) (ho : Own w F (.sl 2 l.length (fun k => DOccurrence.ct (l.getD k default))) (.slice a l.length cap)) :
    Calls Try.prog 15 #[.slice a l.length cap, .int .i64 (k : Int)] w fun e w' => e = .returned (.int .i64 ((k + 2 * l.length : Nat) : Int)) ∧ Own w' F (.sl 2 l.length (fun t c => .lit (mkvOccurrence k t c))) (.slice a l.length cap) ∧ WritesF F w w' := by
  rcases mark_start (fun t c => some (mkvOccurrence k t c)) ho with h0 | ⟨b, off, u, G, rfl, hO, hM⟩
  · have HL := Lib.hid h0
    clear ho hn
    generalize l.length = n at *
    obtain rfl : n = 0 := HL.out
    go_enter Try.func15, Try.ntmps15
    go_wp2
    go_loop [1, 5] (fun q i => q = .int .i64 (k : Int) ∧ i = .int .i64 0) (fun _ _ => 0)
    case atStart => exact ⟨rfl, rfl⟩
    case round =>
      obtain ⟨rfl, rfl⟩ := hrel
      go_wp2
      go_ret
      exact ⟨rfl, .nil _ _ _ _ _, WritesF.refl _ _⟩
  · have HO := Lib.hid hO
    have HMS := Lib.hid hM
    clear ho hO hM
    go_enter Try.func15, Try.ntmps15
    go_wp2
    go_loopw [1, 5] (fun q i wr => ∃ j : Nat, j ≤ l.length ∧ i = .int .i64 (j : Int) ∧ q = .int .i64 ((k + 2 * j : Nat) : Int) ∧ MarkSt F 2 l.length b off (fun k => DOccurrence.ct (l.getD k default)) u G (fun t c => some (mkvOccurrence k t c)) w j 0 wr) (fun _ i _ => l.length - (intOf i).toNat)
    case atStart => exact ⟨0, Nat.zero_le _, rfl, by go_num, HMS.out⟩
    case round =>
      clear HMS
      obtain ⟨j, hj, rfl, rfl, hm⟩ := hrel
      have HM0 := Lib.hid hm
      clear hm
      by_cases hlt : j < l.length
      · skip
        obtain ⟨z, hz⟩ : ∃ z : Int, z = ((k + 2 * j : Nat) : Int) := ⟨_, rfl⟩
        rw [← hz]
        have HZ := Lib.hid hz
        have hzb : 1 ≤ z ∧ z ≤ 4611686018527387904 := by omega
        clear hz
        have d0_0 : wr.cell? ⟨b, off + j * 2, none⟩ = some (u j 0) := HM0.out.cell j hlt 0 (by decide) (Or.inr ⟨rfl, by decide⟩)
        generalize u j 0 = v0_0 at d0_0
        have z0_0 : wr.frozen? ⟨b, off + j * 2, none⟩ = false := HM0.out.frozen _
        have d0_1 : wr.cell? ⟨b, off + j * 2 + 1, none⟩ = some (u j 1) := HM0.out.cell j hlt 1 (by decide) (Or.inr ⟨rfl, by decide⟩)
        generalize u j 1 = v0_1 at d0_1
        have z0_1 : wr.frozen? ⟨b, off + j * 2 + 1, none⟩ = false := HM0.out.frozen _
        have HQ0 := Lib.hid (fun (v0 : Value) (h0 : ∀ z, (some (mkvOccurrence k j 0) : Option Value) = some z → z = v0) (w' : World) (hb : Below (wr.setCell ⟨b, off + j * 2, none⟩ v0).heap.size (wr.setCell ⟨b, off + j * 2, none⟩ v0) w') => (show MarkSt F 2 l.length b off (fun k => DOccurrence.ct (l.getD k default)) u G (fun t c => some (mkvOccurrence k t c)) w j 1 w' from (HM0.out.set HO.out hlt (by decide) v0 h0).below hb))
        go_wp2_with fail
        refine (markTextI _ (by omega) (by omega) _).mono ?_
        rintro e w1 ⟨rfl, hb1⟩
        have HM1 := Lib.hid (HQ0.out _ (fun _ h => (Option.some.inj h).symm.trans (by unfold mkvOccurrence; have h9 := HZ.out; first | exact congrArg (Value.int .i64) (by omega) | exact congrArg (fun q : Nat => Value.string (mk q)) (by omega) | exact congrArg (Value.bool) (by rw [h9]; exact mod3 (by omega)))) _ hb1)
        clear hb1 HM0 HQ0 d0_0 z0_0 d0_1 z0_1
        have d1_1 : w1.cell? ⟨b, off + j * 2 + 1, none⟩ = some (u j 1) := HM1.out.cell j hlt 1 (by decide) (Or.inr ⟨rfl, by decide⟩)
        generalize u j 1 = v1_1 at d1_1
        have z1_1 : w1.frozen? ⟨b, off + j * 2 + 1, none⟩ = false := HM1.out.frozen _
        have HNX := Lib.hid (fun (v1 : Value) (h1 : ∀ z, (some (mkvOccurrence k j 1) : Option Value) = some z → z = v1) => (show MarkSt F 2 l.length b off (fun k => DOccurrence.ct (l.getD k default)) u G (fun t c => some (mkvOccurrence k t c)) w (j + 1) 0 (w1.setCell ⟨b, off + j * 2 + 1, none⟩ v1) from (HM1.out.set HO.out hlt (by decide) v1 h1).next rfl))
        go_wp2
        go_roundw
        case rel =>
          have hz := HZ.out
          refine ⟨j + 1, by omega, by go_num, ?_, HNX.out _ (fun _ h => (Option.some.inj h).symm.trans (by unfold mkvOccurrence; have h9 := HZ.out; first | exact congrArg (Value.int .i64) (by omega) | exact congrArg (fun q : Nat => Value.string (mk q)) (by omega) | exact congrArg (Value.bool) (by rw [h9]; exact mod3 (by omega))))⟩
          exact congrArg (Value.int .i64) (by omega)
        case measure => simp [intOf]; omega
      · obtain rfl : j = l.length := by omega
        go_wp2
        go_ret
        exact ⟨rfl, HM0.out.marked HO.out cap (fun _ _ _ _ => rfl), HM0.out.writes⟩

set_option maxHeartbeats 3200000 in
set_option maxRecDepth 100000 in
theorem laws_heldOccurrenceSL {F : Nat → Prop} {a : Option Addr} {cap : Nat} (n : Nat) (hn : n ≤ 1099511627776) (k : Nat) (hk0 : 1 ≤ k) (hk : k ≤ 4398046511104) (w : World) (ho : Own w F (.sl 2 n (fun t c => .lit (mkvOccurrence k t c))) (.slice a n cap)) :
    Calls Try.prog 16 #[.slice a n cap, .int .i64 (k : Int)] w fun e w' => e = .returned (.int .i64 ((k + 2 * n : Nat) : Int)) ∧ Below w.heap.size w w' := by
  rcases own_flat ho with rfl | ⟨b, off, rfl, hb, hc⟩
  · clear ho
    go_enter Try.func16, Try.ntmps16
    go_wp2
    go_loop [1, 5] (fun q i => q = .int .i64 (k : Int) ∧ i = .int .i64 0) (fun _ _ => 0)
    case atStart => exact ⟨rfl, rfl⟩
    case round =>
      obtain ⟨rfl, rfl⟩ := hrel
      go_wp2
      go_ret
      exact ⟨rfl, Below.refl _ _⟩
  · have HC := Lib.hid hc
    clear ho hc
    go_enter Try.func16, Try.ntmps16
    go_wp2
    go_loopw [1, 5] (fun q i wr => ∃ j : Nat, j ≤ n ∧ i = .int .i64 (j : Int) ∧ q = .int .i64 ((k + 2 * j : Nat) : Int) ∧ Below w.heap.size w wr) (fun _ i _ => n - (intOf i).toNat)
    case atStart => exact ⟨0, Nat.zero_le _, rfl, by go_num, Below.refl _ _⟩
    case round =>
      obtain ⟨j, hj, rfl, rfl, hbr⟩ := hrel
      have HB0 := Lib.hid hbr
      clear hbr
      by_cases hlt : j < n
      · skip
        obtain ⟨z, hz⟩ : ∃ z : Int, z = ((k + 2 * j : Nat) : Int) := ⟨_, rfl⟩
        rw [← hz]
        have HZ := Lib.hid hz
        have hzb : 1 ≤ z ∧ z ≤ 4611686018527387904 := by omega
        have D0 := Lib.hid (show w.cell? ⟨b, off + j * 2, none⟩ = some (.int .i64 (z)) from (HC.out j hlt 0 (by decide)).trans (congrArg (fun q : Int => some (Value.int .i64 q)) (by omega)))
        have D1 := Lib.hid (show w.cell? ⟨b, off + j * 2 + 1, none⟩ = some (.string (mk (z + 1).toNat)) from (HC.out j hlt 1 (by decide)).trans (congrArg (fun q : Nat => some (Value.string (mk q))) (by omega)))
        clear hz
        have d0_0 := (HB0.out.cell (p := ⟨b, off + j * 2, none⟩) hb).trans D0.out
        have d0_1 := (HB0.out.cell (p := ⟨b, off + j * 2 + 1, none⟩) hb).trans D1.out
        have HT0 := Lib.hid (fun w => markTextI (z + 1) (by omega) (by omega) w)
        have hbs0 : b < wr.heap.size := Nat.lt_of_lt_of_le hb HB0.out.size
        go_wp2_with fail
        go_region_with ((go_at_call 44; refine (HT0.out _).mono ?_; rintro e w1 ⟨rfl, hb1⟩; (have e0_1 := (hb1.cell (p := ⟨b, off + j * 2 + 1, none⟩) hbs0).trans d0_1)))
        all_goals
          have HB1 := Lib.hid (HB0.out.trans ((show Below wr.heap.size wr w1 from Below.trans (by repeat (first | (with_reducible exact Below.refl _ _) | (with_reducible apply Below.drew) | (with_reducible refine below_drewN ?_ _))) hb1).mono HB0.out.size))
          clear hb1 HT0 d0_0 d0_1 e0_1
          have d1_1 := (HB1.out.cell (p := ⟨b, off + j * 2 + 1, none⟩) hb).trans D1.out
          go_wp2
          go_roundw
          case rel =>
            have hz := HZ.out
            refine ⟨j + 1, by omega, by go_num, ?_, by repeat (first | (with_reducible exact HB1.out) | (with_reducible apply Below.drew) | (with_reducible refine below_drewN ?_ _))⟩
            exact congrArg (Value.int .i64) (by omega)
          case measure => simp [intOf]; omega
      · obtain rfl : j = n := by omega
        go_wp2
        go_ret
        exact ⟨rfl, HB0.out⟩
end Go.Proofs.Yticchgfhmfjknaa
