/-
  The marks of Reading.
-/
import Derived.Test.YthgpompoionfoaaTReading
import Derived.Test.YthgpompoionfoaaMark
import Derived.WalkSpells
import Derived.WalkSmall
import Derived.WalkLawsBesides
import Derived.SliceStrings
import Derived.Deep.QuietTactic
import Derived.Deep.RegionWith
import Derived.BigQuiet
import Derived.Outline
import Derived.Laws.Rows
namespace Go.Proofs.Ythgpompoionfoaa
open Go.ChangeShapes Go.WideShapes Go.ChangeAt Go.RowKit Go.Deep

/-- The marks from number k on. -/
def mkvReading (k t : Nat) : Nat → Value
  | 0 => .int .i64 ((k + 4 * t + 0 : Nat) : Int)
  | 1 => .string (mk (k + 4 * t + 1))
  | 2 => .int .i64 ((k + 4 * t + 2 : Nat) : Int)
  | 3 => .string (mk (k + 4 * t + 3))
  | _ => .nilFunc

set_option maxHeartbeats 3200000 in
set_option maxRecDepth 100000 in
theorem laws_markReadingS {F : Nat → Prop} {a : Option Addr} {cap : Nat} (l : List DReading) (hn : l.length ≤ 1048576) (k : Nat) (hk0 : 1 ≤ k) (hk : k ≤ 4611686018427387904) (w : World) (ho : Own w F (.sl 4 l.length (fun k => DReading.ct (l.getD k default))) (.slice a l.length cap)) :
    Calls Try.prog 30 #[.slice a l.length cap, .int .i64 (k : Int)] w fun e w' => e = .returned (.int .i64 ((k + 4 * l.length : Nat) : Int)) ∧ Own w' F (.sl 4 l.length (fun t c => .lit (mkvReading k t c))) (.slice a l.length cap) ∧ WritesF F w w' := by
  rcases mark_start (fun t c => some (mkvReading k t c)) ho with h0 | ⟨b, off, u, G, rfl, hO, hM⟩
  · have HL := Lib.hid h0
    clear ho hn
    generalize l.length = n at *
    obtain rfl : n = 0 := HL.out
    go_enter Try.func30, Try.ntmps30
    go_wp2
    go_loop [1, 5] (fun q i => q = .int .i64 (k : Int) ∧ i = .int .i64 0) (fun _ _ => 0)
    case atStart => exact ⟨rfl, rfl⟩
    case round =>
      obtain ⟨rfl, rfl⟩ := hrel
      go_wp2
      go_ret
      exact ⟨rfl, .nil _ _ _ _ _, WritesF.refl _ _⟩
  · have HO := Lib.hid hO
    have HMS := Lib.hid hM
    clear ho hO hM
    go_enter Try.func30, Try.ntmps30
    go_wp2
    go_loopw [1, 5] (fun q i wr => ∃ j : Nat, j ≤ l.length ∧ i = .int .i64 (j : Int) ∧ q = .int .i64 ((k + 4 * j : Nat) : Int) ∧ MarkSt F 4 l.length b off (fun k => DReading.ct (l.getD k default)) u G (fun t c => some (mkvReading k t c)) w j 0 wr) (fun _ i _ => l.length - (intOf i).toNat)
    case atStart => exact ⟨0, Nat.zero_le _, rfl, by go_num, HMS.out⟩
    case round =>
      clear HMS
      obtain ⟨j, hj, rfl, rfl, hm⟩ := hrel
      have HM0 := Lib.hid hm
      clear hm
      by_cases hlt : j < l.length
      · skip
        obtain ⟨z, hz⟩ : ∃ z : Int, z = ((k + 4 * j : Nat) : Int) := ⟨_, rfl⟩
        rw [← hz]
        have HZ := Lib.hid hz
        have hzb : 1 ≤ z ∧ z ≤ 4611686018527387904 := by omega
        clear hz
        have d0_0 : wr.cell? ⟨b, off + j * 4, none⟩ = some (u j 0) := HM0.out.cell j hlt 0 (by decide) (Or.inr ⟨rfl, by decide⟩)
        generalize u j 0 = v0_0 at d0_0
        have z0_0 : wr.frozen? ⟨b, off + j * 4, none⟩ = false := HM0.out.frozen _
        have d0_1 : wr.cell? ⟨b, off + j * 4 + 1, none⟩ = some (u j 1) := HM0.out.cell j hlt 1 (by decide) (Or.inr ⟨rfl, by decide⟩)
        generalize u j 1 = v0_1 at d0_1
        have z0_1 : wr.frozen? ⟨b, off + j * 4 + 1, none⟩ = false := HM0.out.frozen _
        have d0_2 : wr.cell? ⟨b, off + j * 4 + 2, none⟩ = some (u j 2) := HM0.out.cell j hlt 2 (by decide) (Or.inr ⟨rfl, by decide⟩)
        generalize u j 2 = v0_2 at d0_2
        have z0_2 : wr.frozen? ⟨b, off + j * 4 + 2, none⟩ = false := HM0.out.frozen _
        have d0_3 : wr.cell? ⟨b, off + j * 4 + 3, none⟩ = some (u j 3) := HM0.out.cell j hlt 3 (by decide) (Or.inr ⟨rfl, by decide⟩)
        generalize u j 3 = v0_3 at d0_3
        have z0_3 : wr.frozen? ⟨b, off + j * 4 + 3, none⟩ = false := HM0.out.frozen _
        have HQ0 := Lib.hid (fun (v0 : Value) (h0 : ∀ z, (some (mkvReading k j 0) : Option Value) = some z → z = v0) (w' : World) (hb : Below (wr.setCell ⟨b, off + j * 4, none⟩ v0).heap.size (wr.setCell ⟨b, off + j * 4, none⟩ v0) w') => (show MarkSt F 4 l.length b off (fun k => DReading.ct (l.getD k default)) u G (fun t c => some (mkvReading k t c)) w j 1 w' from (HM0.out.set HO.out hlt (by decide) v0 h0).below hb))
        go_wp2_with fail
        refine (markTextI _ (by omega) (by omega) _).mono ?_
        rintro e w1 ⟨rfl, hb1⟩
        have HM1 := Lib.hid (HQ0.out _ (fun _ h => (Option.some.inj h).symm.trans (by unfold mkvReading; have h9 := HZ.out; first | exact congrArg (Value.int .i64) (by omega) | exact congrArg (fun q : Nat => Value.string (mk q)) (by omega) | exact congrArg (Value.bool) (by rw [h9]; exact mod3 (by omega)))) _ hb1)
        clear hb1 HM0 HQ0 d0_0 z0_0 d0_1 z0_1 d0_2 z0_2 d0_3 z0_3
        have d1_1 : w1.cell? ⟨b, off + j * 4 + 1, none⟩ = some (u j 1) := HM1.out.cell j hlt 1 (by decide) (Or.inr ⟨rfl, by decide⟩)
        generalize u j 1 = v1_1 at d1_1
        have z1_1 : w1.frozen? ⟨b, off + j * 4 + 1, none⟩ = false := HM1.out.frozen _
        have d1_2 : w1.cell? ⟨b, off + j * 4 + 2, none⟩ = some (u j 2) := HM1.out.cell j hlt 2 (by decide) (Or.inr ⟨rfl, by decide⟩)
        generalize u j 2 = v1_2 at d1_2
        have z1_2 : w1.frozen? ⟨b, off + j * 4 + 2, none⟩ = false := HM1.out.frozen _
        have d1_3 : w1.cell? ⟨b, off + j * 4 + 3, none⟩ = some (u j 3) := HM1.out.cell j hlt 3 (by decide) (Or.inr ⟨rfl, by decide⟩)
        generalize u j 3 = v1_3 at d1_3
        have z1_3 : w1.frozen? ⟨b, off + j * 4 + 3, none⟩ = false := HM1.out.frozen _
        have HQ1 := Lib.hid (fun (v1 : Value) (h1 : ∀ z, (some (mkvReading k j 1) : Option Value) = some z → z = v1) (v2 : Value) (h2 : ∀ z, (some (mkvReading k j 2) : Option Value) = some z → z = v2) (w' : World) (hb : Below ((w1.setCell ⟨b, off + j * 4 + 1, none⟩ v1).setCell ⟨b, off + j * 4 + 2, none⟩ v2).heap.size ((w1.setCell ⟨b, off + j * 4 + 1, none⟩ v1).setCell ⟨b, off + j * 4 + 2, none⟩ v2) w') => (show MarkSt F 4 l.length b off (fun k => DReading.ct (l.getD k default)) u G (fun t c => some (mkvReading k t c)) w j 3 w' from ((HM1.out.set HO.out hlt (by decide) v1 h1).set HO.out hlt (by decide) v2 h2).below hb))
        go_wp2_with fail
        refine (markTextI _ (by omega) (by omega) _).mono ?_
        rintro e w2 ⟨rfl, hb2⟩
        have HM2 := Lib.hid (HQ1.out _ (fun _ h => (Option.some.inj h).symm.trans (by unfold mkvReading; have h9 := HZ.out; first | exact congrArg (Value.int .i64) (by omega) | exact congrArg (fun q : Nat => Value.string (mk q)) (by omega) | exact congrArg (Value.bool) (by rw [h9]; exact mod3 (by omega)))) _ (fun _ h => (Option.some.inj h).symm.trans (by unfold mkvReading; have h9 := HZ.out; first | exact congrArg (Value.int .i64) (by omega) | exact congrArg (fun q : Nat => Value.string (mk q)) (by omega) | exact congrArg (Value.bool) (by rw [h9]; exact mod3 (by omega)))) _ hb2)
        clear hb2 HM1 HQ1 d1_1 z1_1 d1_2 z1_2 d1_3 z1_3
        have d2_3 : w2.cell? ⟨b, off + j * 4 + 3, none⟩ = some (u j 3) := HM2.out.cell j hlt 3 (by decide) (Or.inr ⟨rfl, by decide⟩)
        generalize u j 3 = v2_3 at d2_3
        have z2_3 : w2.frozen? ⟨b, off + j * 4 + 3, none⟩ = false := HM2.out.frozen _
        have HNX := Lib.hid (fun (v3 : Value) (h3 : ∀ z, (some (mkvReading k j 3) : Option Value) = some z → z = v3) => (show MarkSt F 4 l.length b off (fun k => DReading.ct (l.getD k default)) u G (fun t c => some (mkvReading k t c)) w (j + 1) 0 (w2.setCell ⟨b, off + j * 4 + 3, none⟩ v3) from (HM2.out.set HO.out hlt (by decide) v3 h3).next rfl))
        go_wp2
        go_roundw
        case rel =>
          have hz := HZ.out
          refine ⟨j + 1, by omega, by go_num, ?_, HNX.out _ (fun _ h => (Option.some.inj h).symm.trans (by unfold mkvReading; have h9 := HZ.out; first | exact congrArg (Value.int .i64) (by omega) | exact congrArg (fun q : Nat => Value.string (mk q)) (by omega) | exact congrArg (Value.bool) (by rw [h9]; exact mod3 (by omega))))⟩
          exact congrArg (Value.int .i64) (by omega)
        case measure => simp [intOf]; omega
      · obtain rfl : j = l.length := by omega
        go_wp2
        go_ret
        exact ⟨rfl, HM0.out.marked HO.out cap (fun _ _ _ _ => rfl), HM0.out.writes⟩

set_option maxHeartbeats 3200000 in
set_option maxRecDepth 100000 in
theorem laws_heldReadingS {F : Nat → Prop} {a : Option Addr} {cap : Nat} (n : Nat) (hn : n ≤ 1048576) (k : Nat) (hk0 : 1 ≤ k) (hk : k ≤ 4611686018427387904) (w : World) (ho : Own w F (.sl 4 n (fun t c => .lit (mkvReading k t c))) (.slice a n cap)) :
    Calls Try.prog 32 #[.slice a n cap, .int .i64 (k : Int)] w fun e w' => e = .returned (.int .i64 ((k + 4 * n : Nat) : Int)) ∧ Below w.heap.size w w' := by
  rcases own_flat ho with rfl | ⟨b, off, rfl, hb, hc⟩
  · clear ho
    go_enter Try.func32, Try.ntmps32
    go_wp2
    go_loop [1, 5] (fun q i => q = .int .i64 (k : Int) ∧ i = .int .i64 0) (fun _ _ => 0)
    case atStart => exact ⟨rfl, rfl⟩
    case round =>
      obtain ⟨rfl, rfl⟩ := hrel
      go_wp2
      go_ret
      exact ⟨rfl, Below.refl _ _⟩
  · have HC := Lib.hid hc
    clear ho hc
    go_enter Try.func32, Try.ntmps32
    go_wp2
    go_loopw [1, 5] (fun q i wr => ∃ j : Nat, j ≤ n ∧ i = .int .i64 (j : Int) ∧ q = .int .i64 ((k + 4 * j : Nat) : Int) ∧ Below w.heap.size w wr) (fun _ i _ => n - (intOf i).toNat)
    case atStart => exact ⟨0, Nat.zero_le _, rfl, by go_num, Below.refl _ _⟩
    case round =>
      obtain ⟨j, hj, rfl, rfl, hbr⟩ := hrel
      have HB0 := Lib.hid hbr
      clear hbr
      by_cases hlt : j < n
      · skip
        obtain ⟨z, hz⟩ : ∃ z : Int, z = ((k + 4 * j : Nat) : Int) := ⟨_, rfl⟩
        rw [← hz]
        have HZ := Lib.hid hz
        have hzb : 1 ≤ z ∧ z ≤ 4611686018527387904 := by omega
        have D0 := Lib.hid (show w.cell? ⟨b, off + j * 4, none⟩ = some (.int .i64 (z)) from (HC.out j hlt 0 (by decide)).trans (congrArg (fun q : Int => some (Value.int .i64 q)) (by omega)))
        have D1 := Lib.hid (show w.cell? ⟨b, off + j * 4 + 1, none⟩ = some (.string (mk (z + 1).toNat)) from (HC.out j hlt 1 (by decide)).trans (congrArg (fun q : Nat => some (Value.string (mk q))) (by omega)))
        have D2 := Lib.hid (show w.cell? ⟨b, off + j * 4 + 2, none⟩ = some (.int .i64 (z + 1 + 1)) from (HC.out j hlt 2 (by decide)).trans (congrArg (fun q : Int => some (Value.int .i64 q)) (by omega)))
        have D3 := Lib.hid (show w.cell? ⟨b, off + j * 4 + 3, none⟩ = some (.string (mk (z + 1 + 1 + 1).toNat)) from (HC.out j hlt 3 (by decide)).trans (congrArg (fun q : Nat => some (Value.string (mk q))) (by omega)))
        clear hz
        have d0_0 := (HB0.out.cell (p := ⟨b, off + j * 4, none⟩) hb).trans D0.out
        have d0_1 := (HB0.out.cell (p := ⟨b, off + j * 4 + 1, none⟩) hb).trans D1.out
        have d0_2 := (HB0.out.cell (p := ⟨b, off + j * 4 + 2, none⟩) hb).trans D2.out
        have d0_3 := (HB0.out.cell (p := ⟨b, off + j * 4 + 3, none⟩) hb).trans D3.out
        have HT0 := Lib.hid (fun w => markTextI (z + 1) (by omega) (by omega) w)
        have hbs0 : b < wr.heap.size := Nat.lt_of_lt_of_le hb HB0.out.size
        go_wp2_with fail
        go_region_with ((go_at_call 38; refine (HT0.out _).mono ?_; rintro e w1 ⟨rfl, hb1⟩; (have e0_1 := (hb1.cell (p := ⟨b, off + j * 4 + 1, none⟩) hbs0).trans d0_1); (have e0_2 := (hb1.cell (p := ⟨b, off + j * 4 + 2, none⟩) hbs0).trans d0_2); (have e0_3 := (hb1.cell (p := ⟨b, off + j * 4 + 3, none⟩) hbs0).trans d0_3)))
        all_goals
          have HB1 := Lib.hid (HB0.out.trans ((show Below wr.heap.size wr w1 from Below.trans (by repeat (first | (with_reducible exact Below.refl _ _) | (with_reducible apply Below.drew) | (with_reducible refine below_drewN ?_ _))) hb1).mono HB0.out.size))
          clear hb1 HT0 d0_0 d0_1 d0_2 d0_3 e0_1 e0_2 e0_3
          have d1_1 := (HB1.out.cell (p := ⟨b, off + j * 4 + 1, none⟩) hb).trans D1.out
          have d1_2 := (HB1.out.cell (p := ⟨b, off + j * 4 + 2, none⟩) hb).trans D2.out
          have d1_3 := (HB1.out.cell (p := ⟨b, off + j * 4 + 3, none⟩) hb).trans D3.out
          have HT1 := Lib.hid (fun w => markTextI (z + 1 + 1 + 1) (by omega) (by omega) w)
          have hbs1 : b < w1.heap.size := Nat.lt_of_lt_of_le hb HB1.out.size
          go_wp2_with fail
          go_region_with ((go_at_call 38; refine (HT1.out _).mono ?_; rintro e w2 ⟨rfl, hb1⟩; (have e1_3 := (hb1.cell (p := ⟨b, off + j * 4 + 3, none⟩) hbs1).trans d1_3)))
          all_goals
            have HB2 := Lib.hid (HB1.out.trans ((show Below w1.heap.size w1 w2 from Below.trans (by repeat (first | (with_reducible exact Below.refl _ _) | (with_reducible apply Below.drew) | (with_reducible refine below_drewN ?_ _))) hb1).mono HB1.out.size))
            clear hb1 HT1 d1_1 d1_2 d1_3 e1_3
            have d2_3 := (HB2.out.cell (p := ⟨b, off + j * 4 + 3, none⟩) hb).trans D3.out
            go_wp2
            go_roundw
            case rel =>
              have hz := HZ.out
              refine ⟨j + 1, by omega, by go_num, ?_, by repeat (first | (with_reducible exact HB2.out) | (with_reducible apply Below.drew) | (with_reducible refine below_drewN ?_ _))⟩
              exact congrArg (Value.int .i64) (by omega)
            case measure => simp [intOf]; omega
      · obtain rfl : j = n := by omega
        go_wp2
        go_ret
        exact ⟨rfl, HB0.out⟩

theorem wmark_ReadingS {F : Nat → Prop} {a : Option Addr} {cap : Nat} (l : List DReading) (hn : lsz DReading.sz l ≤ 1048576) (k : Int) (hk0 : 1 ≤ k) (hk : k + 16 * (lsz DReading.sz l : Nat) ≤ 4611686018427387904) (w : World) (ho : Own w F (.sl 4 l.length (fun k => DReading.ct (l.getD k default))) (.slice a l.length cap)) :
    Calls Try.prog 30 #[.slice a l.length cap, .int .i64 k] w fun e w' => ∃ k' : Int, e = .returned (.int .i64 k') ∧ k ≤ k' ∧ k' ≤ k + 16 * (lsz DReading.sz l : Nat) ∧ WritesF F w w' := by
  obtain ⟨m, rfl⟩ : ∃ m : Nat, k = m := ⟨k.toNat, by omega⟩
  have hl := lsz_pos DReading.sz l
  refine (laws_markReadingS l (by omega) m (by omega) (by omega) w ho).mono ?_
  rintro e w1 ⟨rfl, _, hw⟩
  exact ⟨_, rfl, by omega, by omega, hw⟩
end Go.Proofs.Ythgpompoionfoaa
