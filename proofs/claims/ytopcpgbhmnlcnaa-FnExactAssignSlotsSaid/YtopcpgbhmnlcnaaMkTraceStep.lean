/-
  The marks of TraceStep.
-/
import Derived.Test.YtopcpgbhmnlcnaaTTraceStep
import Derived.Test.YtopcpgbhmnlcnaaMark
import Derived.Test.YtopcpgbhmnlcnaaMkInstance
import Derived.WalkSpells
import Derived.WalkSmall
import Derived.WalkLawsBesides
import Derived.SliceStrings
import Derived.Deep.QuietTactic
import Derived.Deep.RegionWith
import Derived.BigQuiet
import Derived.Outline
import Derived.Laws.Rows
namespace Go.Proofs.Ytopcpgbhmnlcnaa
open Go.ChangeShapes Go.WideShapes Go.ChangeAt Go.RowKit Go.Deep

set_option maxHeartbeats 3200000 in
set_option maxRecDepth 100000 in
theorem wmark_TraceStepS {F : Nat → Prop} {a : Option Addr} {cap : Nat} (l : List DTraceStep) (hn : lsz DTraceStep.sz l ≤ 1048576) (k : Int) (hk0 : 1 ≤ k) (hk : k + 16 * (lsz DTraceStep.sz l : Nat) ≤ 4611686018427387904) (w : World) (ho : Own w F (.sl 3 l.length (fun k => DTraceStep.ct (l.getD k default))) (.slice a l.length cap)) :
    Calls Try.prog 20 #[.slice a l.length cap, .int .i64 k] w fun e w' => ∃ k' : Int, e = .returned (.int .i64 k') ∧ k ≤ k' ∧ k' ≤ k + 16 * (lsz DTraceStep.sz l : Nat) ∧ WritesF F w w' := by
  rcases mark_start (fun _ _ => none) ho with h0 | ⟨b, off, u, G, rfl, hO, hM⟩
  · have HL := Lib.hid h0
    clear ho hn
    generalize l.length = n at *
    obtain rfl : n = 0 := HL.out
    generalize lsz DTraceStep.sz l = Z at *
    go_enter Try.func20, Try.ntmps20
    go_wp2
    go_loop [1, 5] (fun q i => q = .int .i64 k ∧ i = .int .i64 0) (fun _ _ => 0)
    case atStart => exact ⟨rfl, rfl⟩
    case round =>
      obtain ⟨rfl, rfl⟩ := hrel
      go_wp2
      go_ret
      exact ⟨_, rfl, Int.le_refl _, by omega, WritesF.refl _ _⟩
  · have HO := Lib.hid hO
    have HMS := Lib.hid hM
    clear ho hO hM
    have hlen := lsz_pos DTraceStep.sz l
    go_enter Try.func20, Try.ntmps20
    go_wp2
    go_loopw [1, 5] (fun q i wr => ∃ (j : Nat) (z : Int), j ≤ l.length ∧ i = .int .i64 (j : Int) ∧ q = .int .i64 z ∧ k ≤ z ∧ z ≤ k + 16 * ((j + psz DTraceStep.sz l j : Nat) : Int) ∧ MarkSt F 3 l.length b off (fun k => DTraceStep.ct (l.getD k default)) u G (fun _ _ => none) w j 0 wr) (fun _ i _ => l.length - (intOf i).toNat)
    case atStart => exact ⟨0, k, Nat.zero_le _, rfl, rfl, Int.le_refl _, by omega, HMS.out⟩
    case round =>
      clear HMS
      obtain ⟨j, z, hj, rfl, rfl, hz0, hz1, hm⟩ := hrel
      have HM0 := Lib.hid hm
      clear hm
      by_cases hlt : j < l.length
      · skip
        have hsu := Lib.hid (psz_succ DTraceStep.sz l j hlt)
        have hle2 := Lib.hid (psz_le DTraceStep.sz l (j + 1))
        have hzb : 1 ≤ z ∧ z ≤ 4611686018527387904 := by have h1 := hsu.out; have h2 := hle2.out; omega
        obtain ⟨a2, c2, hu2, _⟩ := own_sl (n := 2) (len := (l.getD j default).fInputs.length) (f := (fun k => DInstance.ct ((l.getD j default).fInputs.getD k default))) (HM0.out.own j hlt 2 (by decide) (Or.inr ⟨rfl, Nat.zero_le _⟩))
        have HW2 := Lib.hid (fun (W : World) (h : MarkSt F 3 l.length b off (fun k => DTraceStep.ct (l.getD k default)) u G (fun _ _ => none) w j 2 W) => (show Own W (G j 2) (.sl 2 (l.getD j default).fInputs.length (fun k => DInstance.ct ((l.getD j default).fInputs.getD k default))) (.slice a2 (l.getD j default).fInputs.length c2) from by have h1 := h.own j hlt 2 (by decide) (Or.inr ⟨rfl, Nat.le_refl _⟩); rw [hu2] at h1; exact h1))
        have HU0 := Lib.hid (show DTraceStep.sz (l.getD j default) = DInstance.sz (l.getD j default).fAt + (lsz DInstance.sz) (l.getD j default).fInputs from rfl)
        have HU1 := Lib.hid (show DInstance.sz (l.getD j default).fAt = (l.getD j default).fAt.fName.size from rfl)
        generalize l.getD j default = x at *
        have d0_0 : wr.cell? ⟨b, off + j * 3, none⟩ = some (u j 0) := HM0.out.cell j hlt 0 (by decide) (Or.inr ⟨rfl, by decide⟩)
        generalize u j 0 = v0_0 at d0_0
        have z0_0 : wr.frozen? ⟨b, off + j * 3, none⟩ = false := HM0.out.frozen _
        have d0_1 : wr.cell? ⟨b, off + j * 3 + 1, none⟩ = some (u j 1) := HM0.out.cell j hlt 1 (by decide) (Or.inr ⟨rfl, by decide⟩)
        generalize u j 1 = v0_1 at d0_1
        have z0_1 : wr.frozen? ⟨b, off + j * 3 + 1, none⟩ = false := HM0.out.frozen _
        have d0_2 : wr.cell? ⟨b, off + j * 3 + 2, none⟩ = some (.slice a2 x.fInputs.length c2) := (HM0.out.cell j hlt 2 (by decide) (Or.inr ⟨rfl, by decide⟩)).trans (congrArg some hu2)
        have z0_2 : wr.frozen? ⟨b, off + j * 3 + 2, none⟩ = false := HM0.out.frozen _
        have HQ0 := Lib.hid (fun (v0 : Value) (w' : World) (hb : Below (wr.setCell ⟨b, off + j * 3, none⟩ v0).heap.size (wr.setCell ⟨b, off + j * 3, none⟩ v0) w') => (show MarkSt F 3 l.length b off (fun k => DTraceStep.ct (l.getD k default)) u G (fun _ _ => none) w j 1 w' from (HM0.out.set HO.out hlt (by decide) v0 (fun _ h => by cases h)).below hb))
        go_wp2_with fail
        refine (markTextI _ (by omega) (by omega) _).mono ?_
        rintro e w1 ⟨rfl, hb1⟩
        have HM1 := Lib.hid (HQ0.out _ _ hb1)
        clear hb1 HM0 HQ0 d0_0 z0_0 d0_1 z0_1 d0_2 z0_2
        have d1_1 : w1.cell? ⟨b, off + j * 3 + 1, none⟩ = some (u j 1) := HM1.out.cell j hlt 1 (by decide) (Or.inr ⟨rfl, by decide⟩)
        generalize u j 1 = v1_1 at d1_1
        have z1_1 : w1.frozen? ⟨b, off + j * 3 + 1, none⟩ = false := HM1.out.frozen _
        have d1_2 : w1.cell? ⟨b, off + j * 3 + 2, none⟩ = some (.slice a2 x.fInputs.length c2) := (HM1.out.cell j hlt 2 (by decide) (Or.inr ⟨rfl, by decide⟩)).trans (congrArg some hu2)
        have z1_2 : w1.frozen? ⟨b, off + j * 3 + 2, none⟩ = false := HM1.out.frozen _
        have HP1 := Lib.hid (fun (v1 : Value) => HW2.out (w1.setCell ⟨b, off + j * 3 + 1, none⟩ v1) (HM1.out.set HO.out hlt (by decide) v1 (fun _ h => by cases h)))
        have HQ1 := Lib.hid (fun (v1 : Value) (w' : World) (hw : WritesF (G j 2) (w1.setCell ⟨b, off + j * 3 + 1, none⟩ v1) w') => (show MarkSt F 3 l.length b off (fun k => DTraceStep.ct (l.getD k default)) u G (fun _ _ => none) w j 3 w' from (HM1.out.set HO.out hlt (by decide) v1 (fun _ h => by cases h)).call HO.out hlt (by decide) rfl hw))
        have hn1 := Lib.hid (show lsz DInstance.sz x.fInputs ≤ 1048576 from (by have h1 := hsu.out; have h2 := hle2.out; have h3_0 := HU0.out; have h3_1 := HU1.out; omega))
        go_wp2_with fail
        refine (wmark_InstanceS x.fInputs hn1.out _ (by omega) (by have h1 := hsu.out; have h2 := hle2.out; have h3_0 := HU0.out; have h3_1 := HU1.out; omega) _ (HP1.out _)).mono ?_
        rintro e w2 ⟨k2, rfl, hka2, hkb2, hw2⟩
        have HM2 := Lib.hid (HQ1.out _ _ hw2)
        have hkz2 : 1 ≤ k2 ∧ k2 ≤ 4611686018427387904 := by have h1 := hsu.out; have h2 := hle2.out; have h3_0 := HU0.out; have h3_1 := HU1.out; omega
        clear hw2 HM1 HP1 HQ1 d1_1 z1_1 d1_2 z1_2
        have HNX := Lib.hid ((show MarkSt F 3 l.length b off (fun k => DTraceStep.ct (l.getD k default)) u G (fun _ _ => none) w (j + 1) 0 w2 from HM2.out.next rfl))
        go_wp2
        go_roundw
        case rel =>
          have h1 := hsu.out
          have h2 := hle2.out
          have h3_0 := HU0.out
          have h3_1 := HU1.out
          refine ⟨j + 1, _, by omega, by go_num, rfl, by omega, by rw [h1]; omega, HNX.out⟩
        case measure => simp [intOf]; omega
      · obtain rfl : j = l.length := by omega
        go_wp2
        go_ret
        exact ⟨_, rfl, hz0, by have h1 := psz_le DTraceStep.sz l l.length; omega, HM0.out.writes⟩
end Go.Proofs.Ytopcpgbhmnlcnaa
