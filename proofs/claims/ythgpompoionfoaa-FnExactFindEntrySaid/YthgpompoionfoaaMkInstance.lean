/-
  The marks of Instance.
-/
import Derived.Test.YthgpompoionfoaaTInstance
import Derived.Test.YthgpompoionfoaaMark
import Derived.WalkSpells
import Derived.WalkSmall
import Derived.WalkLawsBesides
import Derived.SliceStrings
import Derived.Deep.QuietTactic
import Derived.Deep.RegionWith
import Derived.BigQuiet
import Derived.Outline
import Derived.Laws.Rows
namespace Go.Proofs.Ythgpompoionfoaa
open Go.ChangeShapes Go.WideShapes Go.ChangeAt Go.RowKit Go.Deep

/-- The marks from number k on. -/
def mkvInstance (k t : Nat) : Nat → Value
  | 0 => .int .i64 ((k + 2 * t + 0 : Nat) : Int)
  | 1 => .string (mk (k + 2 * t + 1))
  | _ => .nilFunc

set_option maxHeartbeats 3200000 in
set_option maxRecDepth 100000 in
theorem laws_markInstanceS {F : Nat → Prop} {a : Option Addr} {cap : Nat} (l : List DInstance) (hn : l.length ≤ 1048576) (k : Nat) (hk0 : 1 ≤ k) (hk : k ≤ 4611686018427387904) (w : World) (ho : Own w F (.sl 2 l.length (fun k => DInstance.ct (l.getD k default))) (.slice a l.length cap)) :
    Calls Try.prog 28 #[.slice a l.length cap, .int .i64 (k : Int)] w fun e w' => e = .returned (.int .i64 ((k + 2 * l.length : Nat) : Int)) ∧ Own w' F (.sl 2 l.length (fun t c => .lit (mkvInstance k t c))) (.slice a l.length cap) ∧ WritesF F w w' := by
  rcases mark_start (fun t c => some (mkvInstance k t c)) ho with h0 | ⟨b, off, u, G, rfl, hO, hM⟩
  · have HL := Lib.hid h0
    clear ho hn
    generalize l.length = n at *
    obtain rfl : n = 0 := HL.out
    go_enter Try.func28, Try.ntmps28
    go_wp2
    go_loop [1, 5] (fun q i => q = .int .i64 (k : Int) ∧ i = .int .i64 0) (fun _ _ => 0)
    case atStart => exact ⟨rfl, rfl⟩
    case round =>
      obtain ⟨rfl, rfl⟩ := hrel
      go_wp2
      go_ret
      exact ⟨rfl, .nil _ _ _ _ _, WritesF.refl _ _⟩
  · have HO := Lib.hid hO
    have HMS := Lib.hid hM
    clear ho hO hM
    go_enter Try.func28, Try.ntmps28
    go_wp2
    go_loopw [1, 5] (fun q i wr => ∃ j : Nat, j ≤ l.length ∧ i = .int .i64 (j : Int) ∧ q = .int .i64 ((k + 2 * j : Nat) : Int) ∧ MarkSt F 2 l.length b off (fun k => DInstance.ct (l.getD k default)) u G (fun t c => some (mkvInstance k t c)) w j 0 wr) (fun _ i _ => l.length - (intOf i).toNat)
    case atStart => exact ⟨0, Nat.zero_le _, rfl, by go_num, HMS.out⟩
    case round =>
      clear HMS
      obtain ⟨j, hj, rfl, rfl, hm⟩ := hrel
      have HM0 := Lib.hid hm
      clear hm
      by_cases hlt : j < l.length
      · skip
        obtain ⟨z, hz⟩ : ∃ z : Int, z = ((k + 2 * j : Nat) : Int) := ⟨_, rfl⟩
        rw [← hz]
        have HZ := Lib.hid hz
        have hzb : 1 ≤ z ∧ z ≤ 4611686018527387904 := by omega
        clear hz
        have d0_0 : wr.cell? ⟨b, off + j * 2, none⟩ = some (u j 0) := HM0.out.cell j hlt 0 (by decide) (Or.inr ⟨rfl, by decide⟩)
        generalize u j 0 = v0_0 at d0_0
        have z0_0 : wr.frozen? ⟨b, off + j * 2, none⟩ = false := HM0.out.frozen _
        have d0_1 : wr.cell? ⟨b, off + j * 2 + 1, none⟩ = some (u j 1) := HM0.out.cell j hlt 1 (by decide) (Or.inr ⟨rfl, by decide⟩)
        generalize u j 1 = v0_1 at d0_1
        have z0_1 : wr.frozen? ⟨b, off + j * 2 + 1, none⟩ = false := HM0.out.frozen _
        have HQ0 := Lib.hid (fun (v0 : Value) (h0 : ∀ z, (some (mkvInstance k j 0) : Option Value) = some z → z = v0) (w' : World) (hb : Below (wr.setCell ⟨b, off + j * 2, none⟩ v0).heap.size (wr.setCell ⟨b, off + j * 2, none⟩ v0) w') => (show MarkSt F 2 l.length b off (fun k => DInstance.ct (l.getD k default)) u G (fun t c => some (mkvInstance k t c)) w j 1 w' from (HM0.out.set HO.out hlt (by decide) v0 h0).below hb))
        go_wp2_with fail
        refine (markTextI _ (by omega) (by omega) _).mono ?_
        rintro e w1 ⟨rfl, hb1⟩
        have HM1 := Lib.hid (HQ0.out _ (fun _ h => (Option.some.inj h).symm.trans (by unfold mkvInstance; have h9 := HZ.out; first | exact congrArg (Value.int .i64) (by omega) | exact congrArg (fun q : Nat => Value.string (mk q)) (by omega) | exact congrArg (Value.bool) (by rw [h9]; exact mod3 (by omega)))) _ hb1)
        clear hb1 HM0 HQ0 d0_0 z0_0 d0_1 z0_1
        have d1_1 : w1.cell? ⟨b, off + j * 2 + 1, none⟩ = some (u j 1) := HM1.out.cell j hlt 1 (by decide) (Or.inr ⟨rfl, by decide⟩)
        generalize u j 1 = v1_1 at d1_1
        have z1_1 : w1.frozen? ⟨b, off + j * 2 + 1, none⟩ = false := HM1.out.frozen _
        have HNX := Lib.hid (fun (v1 : Value) (h1 : ∀ z, (some (mkvInstance k j 1) : Option Value) = some z → z = v1) => (show MarkSt F 2 l.length b off (fun k => DInstance.ct (l.getD k default)) u G (fun t c => some (mkvInstance k t c)) w (j + 1) 0 (w1.setCell ⟨b, off + j * 2 + 1, none⟩ v1) from (HM1.out.set HO.out hlt (by decide) v1 h1).next rfl))
        go_wp2
        go_roundw
        case rel =>
          have hz := HZ.out
          refine ⟨j + 1, by omega, by go_num, ?_, HNX.out _ (fun _ h => (Option.some.inj h).symm.trans (by unfold mkvInstance; have h9 := HZ.out; first | exact congrArg (Value.int .i64) (by omega) | exact congrArg (fun q : Nat => Value.string (mk q)) (by omega) | exact congrArg (Value.bool) (by rw [h9]; exact mod3 (by omega))))⟩
          exact congrArg (Value.int .i64) (by omega)
        case measure => simp [intOf]; omega
      · obtain rfl : j = l.length := by omega
        go_wp2
        go_ret
        exact ⟨rfl, HM0.out.marked HO.out cap (fun _ _ _ _ => rfl), HM0.out.writes⟩

theorem wmark_InstanceS {F : Nat → Prop} {a : Option Addr} {cap : Nat} (l : List DInstance) (hn : lsz DInstance.sz l ≤ 1048576) (k : Int) (hk0 : 1 ≤ k) (hk : k + 16 * (lsz DInstance.sz l : Nat) ≤ 4611686018427387904) (w : World) (ho : Own w F (.sl 2 l.length (fun k => DInstance.ct (l.getD k default))) (.slice a l.length cap)) :
    Calls Try.prog 28 #[.slice a l.length cap, .int .i64 k] w fun e w' => ∃ k' : Int, e = .returned (.int .i64 k') ∧ k ≤ k' ∧ k' ≤ k + 16 * (lsz DInstance.sz l : Nat) ∧ WritesF F w w' := by
  obtain ⟨m, rfl⟩ : ∃ m : Nat, k = m := ⟨k.toNat, by omega⟩
  have hl := lsz_pos DInstance.sz l
  refine (laws_markInstanceS l (by omega) m (by omega) (by omega) w ho).mono ?_
  rintro e w1 ⟨rfl, _, hw⟩
  exact ⟨_, rfl, by omega, by omega, hw⟩
end Go.Proofs.Ythgpompoionfoaa
