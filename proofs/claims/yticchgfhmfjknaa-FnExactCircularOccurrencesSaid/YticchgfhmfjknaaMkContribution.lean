/-
  The marks of Contribution.
-/
import Derived.Test.YticchgfhmfjknaaTContribution
import Derived.Test.YticchgfhmfjknaaMark
import Derived.Test.YticchgfhmfjknaaMkExpr
import Derived.WalkSpells
import Derived.WalkSmall
import Derived.WalkLawsBesides
import Derived.SliceStrings
import Derived.Deep.QuietTactic
import Derived.Deep.RegionWith
import Derived.BigQuiet
import Derived.Outline
import Derived.Laws.Rows
namespace Go.Proofs.Yticchgfhmfjknaa
open Go.ChangeShapes Go.WideShapes Go.ChangeAt Go.RowKit Go.Deep

set_option maxHeartbeats 3200000 in
set_option maxRecDepth 100000 in
theorem wmark_ContributionS {F : Nat → Prop} {a : Option Addr} {cap : Nat} (l : List DContribution) (hn : lsz DContribution.sz l ≤ 1048576) (k : Int) (hk0 : 1 ≤ k) (hk : k + 16 * (lsz DContribution.sz l : Nat) ≤ 4611686018427387904) (w : World) (ho : Own w F (.sl 16 l.length (fun k => DContribution.ct (l.getD k default))) (.slice a l.length cap)) :
    Calls Try.prog 43 #[.slice a l.length cap, .int .i64 k] w fun e w' => ∃ k' : Int, e = .returned (.int .i64 k') ∧ k ≤ k' ∧ k' ≤ k + 16 * (lsz DContribution.sz l : Nat) ∧ WritesF F w w' := by
  rcases mark_start (fun _ _ => none) ho with h0 | ⟨b, off, u, G, rfl, hO, hM⟩
  · have HL := Lib.hid h0
    clear ho hn
    generalize l.length = n at *
    obtain rfl : n = 0 := HL.out
    generalize lsz DContribution.sz l = Z at *
    go_enter Try.func43, Try.ntmps43
    go_wp2
    go_loop [1, 5] (fun q i => q = .int .i64 k ∧ i = .int .i64 0) (fun _ _ => 0)
    case atStart => exact ⟨rfl, rfl⟩
    case round =>
      obtain ⟨rfl, rfl⟩ := hrel
      go_wp2
      go_ret
      exact ⟨_, rfl, Int.le_refl _, by omega, WritesF.refl _ _⟩
  · have HO := Lib.hid hO
    have HMS := Lib.hid hM
    clear ho hO hM
    have hlen := lsz_pos DContribution.sz l
    go_enter Try.func43, Try.ntmps43
    go_wp2
    go_loopw [1, 5] (fun q i wr => ∃ (j : Nat) (z : Int), j ≤ l.length ∧ i = .int .i64 (j : Int) ∧ q = .int .i64 z ∧ k ≤ z ∧ z ≤ k + 16 * ((j + psz DContribution.sz l j : Nat) : Int) ∧ MarkSt F 16 l.length b off (fun k => DContribution.ct (l.getD k default)) u G (fun _ _ => none) w j 0 wr) (fun _ i _ => l.length - (intOf i).toNat)
    case atStart => exact ⟨0, k, Nat.zero_le _, rfl, rfl, Int.le_refl _, by omega, HMS.out⟩
    case round =>
      clear HMS
      obtain ⟨j, z, hj, rfl, rfl, hz0, hz1, hm⟩ := hrel
      have HM0 := Lib.hid hm
      clear hm
      by_cases hlt : j < l.length
      · skip
        have hsu := Lib.hid (psz_succ DContribution.sz l j hlt)
        have hle2 := Lib.hid (psz_le DContribution.sz l (j + 1))
        have hzb : 1 ≤ z ∧ z ≤ 4611686018527387904 := by have h1 := hsu.out; have h2 := hle2.out; omega
        obtain ⟨a8, c8, hu8, _⟩ := own_sl (n := 7) (len := (l.getD j default).fTarget.fArgs.length) (f := (ctE (l.getD j default).fTarget.fArgs)) (HM0.out.own j hlt 8 (by decide) (Or.inr ⟨rfl, Nat.zero_le _⟩))
        have HW8 := Lib.hid (fun (W : World) (h : MarkSt F 16 l.length b off (fun k => DContribution.ct (l.getD k default)) u G (fun _ _ => none) w j 8 W) => (show Own W (G j 8) (.sl 7 (l.getD j default).fTarget.fArgs.length (ctE (l.getD j default).fTarget.fArgs)) (.slice a8 (l.getD j default).fTarget.fArgs.length c8) from by have h1 := h.own j hlt 8 (by decide) (Or.inr ⟨rfl, Nat.le_refl _⟩); rw [hu8] at h1; exact h1))
        obtain ⟨a15, c15, hu15, _⟩ := own_sl (n := 7) (len := (l.getD j default).fValue.fArgs.length) (f := (ctE (l.getD j default).fValue.fArgs)) (HM0.out.own j hlt 15 (by decide) (Or.inr ⟨rfl, Nat.zero_le _⟩))
        have HW15 := Lib.hid (fun (W : World) (h : MarkSt F 16 l.length b off (fun k => DContribution.ct (l.getD k default)) u G (fun _ _ => none) w j 15 W) => (show Own W (G j 15) (.sl 7 (l.getD j default).fValue.fArgs.length (ctE (l.getD j default).fValue.fArgs)) (.slice a15 (l.getD j default).fValue.fArgs.length c15) from by have h1 := h.own j hlt 15 (by decide) (Or.inr ⟨rfl, Nat.le_refl _⟩); rw [hu15] at h1; exact h1))
        have HU0 := Lib.hid (show DContribution.sz (l.getD j default) = (l.getD j default).fSymbol.size + (l.getD j default).fName.size + DExpr.sz (l.getD j default).fTarget + DExpr.sz (l.getD j default).fValue from rfl)
        have HU1 := Lib.hid (show DExpr.sz (l.getD j default).fTarget = (l.getD j default).fTarget.fSymbol.size + (l.getD j default).fTarget.fName.size + (lsz DExpr.sz) (l.getD j default).fTarget.fArgs from DExpr.sz_eq _)
        have HU2 := Lib.hid (show DExpr.sz (l.getD j default).fValue = (l.getD j default).fValue.fSymbol.size + (l.getD j default).fValue.fName.size + (lsz DExpr.sz) (l.getD j default).fValue.fArgs from DExpr.sz_eq _)
        generalize l.getD j default = x at *
        have d0_0 : wr.cell? ⟨b, off + j * 16, none⟩ = some (u j 0) := HM0.out.cell j hlt 0 (by decide) (Or.inr ⟨rfl, by decide⟩)
        generalize u j 0 = v0_0 at d0_0
        have z0_0 : wr.frozen? ⟨b, off + j * 16, none⟩ = false := HM0.out.frozen _
        have d0_1 : wr.cell? ⟨b, off + j * 16 + 1, none⟩ = some (u j 1) := HM0.out.cell j hlt 1 (by decide) (Or.inr ⟨rfl, by decide⟩)
        generalize u j 1 = v0_1 at d0_1
        have z0_1 : wr.frozen? ⟨b, off + j * 16 + 1, none⟩ = false := HM0.out.frozen _
        have d0_2 : wr.cell? ⟨b, off + j * 16 + 2, none⟩ = some (u j 2) := HM0.out.cell j hlt 2 (by decide) (Or.inr ⟨rfl, by decide⟩)
        generalize u j 2 = v0_2 at d0_2
        have z0_2 : wr.frozen? ⟨b, off + j * 16 + 2, none⟩ = false := HM0.out.frozen _
        have d0_3 : wr.cell? ⟨b, off + j * 16 + 3, none⟩ = some (u j 3) := HM0.out.cell j hlt 3 (by decide) (Or.inr ⟨rfl, by decide⟩)
        generalize u j 3 = v0_3 at d0_3
        have z0_3 : wr.frozen? ⟨b, off + j * 16 + 3, none⟩ = false := HM0.out.frozen _
        have d0_4 : wr.cell? ⟨b, off + j * 16 + 4, none⟩ = some (u j 4) := HM0.out.cell j hlt 4 (by decide) (Or.inr ⟨rfl, by decide⟩)
        generalize u j 4 = v0_4 at d0_4
        have z0_4 : wr.frozen? ⟨b, off + j * 16 + 4, none⟩ = false := HM0.out.frozen _
        have d0_5 : wr.cell? ⟨b, off + j * 16 + 5, none⟩ = some (u j 5) := HM0.out.cell j hlt 5 (by decide) (Or.inr ⟨rfl, by decide⟩)
        generalize u j 5 = v0_5 at d0_5
        have z0_5 : wr.frozen? ⟨b, off + j * 16 + 5, none⟩ = false := HM0.out.frozen _
        have d0_6 : wr.cell? ⟨b, off + j * 16 + 6, none⟩ = some (u j 6) := HM0.out.cell j hlt 6 (by decide) (Or.inr ⟨rfl, by decide⟩)
        generalize u j 6 = v0_6 at d0_6
        have z0_6 : wr.frozen? ⟨b, off + j * 16 + 6, none⟩ = false := HM0.out.frozen _
        have d0_7 : wr.cell? ⟨b, off + j * 16 + 7, none⟩ = some (u j 7) := HM0.out.cell j hlt 7 (by decide) (Or.inr ⟨rfl, by decide⟩)
        generalize u j 7 = v0_7 at d0_7
        have z0_7 : wr.frozen? ⟨b, off + j * 16 + 7, none⟩ = false := HM0.out.frozen _
        have d0_8 : wr.cell? ⟨b, off + j * 16 + 8, none⟩ = some (.slice a8 x.fTarget.fArgs.length c8) := (HM0.out.cell j hlt 8 (by decide) (Or.inr ⟨rfl, by decide⟩)).trans (congrArg some hu8)
        have z0_8 : wr.frozen? ⟨b, off + j * 16 + 8, none⟩ = false := HM0.out.frozen _
        have d0_9 : wr.cell? ⟨b, off + j * 16 + 9, none⟩ = some (u j 9) := HM0.out.cell j hlt 9 (by decide) (Or.inr ⟨rfl, by decide⟩)
        generalize u j 9 = v0_9 at d0_9
        have z0_9 : wr.frozen? ⟨b, off + j * 16 + 9, none⟩ = false := HM0.out.frozen _
        have d0_10 : wr.cell? ⟨b, off + j * 16 + 10, none⟩ = some (u j 10) := HM0.out.cell j hlt 10 (by decide) (Or.inr ⟨rfl, by decide⟩)
        generalize u j 10 = v0_10 at d0_10
        have z0_10 : wr.frozen? ⟨b, off + j * 16 + 10, none⟩ = false := HM0.out.frozen _
        have d0_11 : wr.cell? ⟨b, off + j * 16 + 11, none⟩ = some (u j 11) := HM0.out.cell j hlt 11 (by decide) (Or.inr ⟨rfl, by decide⟩)
        generalize u j 11 = v0_11 at d0_11
        have z0_11 : wr.frozen? ⟨b, off + j * 16 + 11, none⟩ = false := HM0.out.frozen _
        have d0_12 : wr.cell? ⟨b, off + j * 16 + 12, none⟩ = some (u j 12) := HM0.out.cell j hlt 12 (by decide) (Or.inr ⟨rfl, by decide⟩)
        generalize u j 12 = v0_12 at d0_12
        have z0_12 : wr.frozen? ⟨b, off + j * 16 + 12, none⟩ = false := HM0.out.frozen _
        have d0_13 : wr.cell? ⟨b, off + j * 16 + 13, none⟩ = some (u j 13) := HM0.out.cell j hlt 13 (by decide) (Or.inr ⟨rfl, by decide⟩)
        generalize u j 13 = v0_13 at d0_13
        have z0_13 : wr.frozen? ⟨b, off + j * 16 + 13, none⟩ = false := HM0.out.frozen _
        have d0_14 : wr.cell? ⟨b, off + j * 16 + 14, none⟩ = some (u j 14) := HM0.out.cell j hlt 14 (by decide) (Or.inr ⟨rfl, by decide⟩)
        generalize u j 14 = v0_14 at d0_14
        have z0_14 : wr.frozen? ⟨b, off + j * 16 + 14, none⟩ = false := HM0.out.frozen _
        have d0_15 : wr.cell? ⟨b, off + j * 16 + 15, none⟩ = some (.slice a15 x.fValue.fArgs.length c15) := (HM0.out.cell j hlt 15 (by decide) (Or.inr ⟨rfl, by decide⟩)).trans (congrArg some hu15)
        have z0_15 : wr.frozen? ⟨b, off + j * 16 + 15, none⟩ = false := HM0.out.frozen _
        have HQ0 := Lib.hid (fun (w' : World) (hb : Below wr.heap.size wr w') => (show MarkSt F 16 l.length b off (fun k => DContribution.ct (l.getD k default)) u G (fun _ _ => none) w j 0 w' from HM0.out.below hb))
        go_wp2_with fail
        refine (markTextI _ (by omega) (by omega) _).mono ?_
        rintro e w1 ⟨rfl, hb1⟩
        have HM1 := Lib.hid (HQ0.out _ hb1)
        clear hb1 HM0 HQ0 d0_0 z0_0 d0_1 z0_1 d0_2 z0_2 d0_3 z0_3 d0_4 z0_4 d0_5 z0_5 d0_6 z0_6 d0_7 z0_7 d0_8 z0_8 d0_9 z0_9 d0_10 z0_10 d0_11 z0_11 d0_12 z0_12 d0_13 z0_13 d0_14 z0_14 d0_15 z0_15
        have d1_0 : w1.cell? ⟨b, off + j * 16, none⟩ = some (u j 0) := HM1.out.cell j hlt 0 (by decide) (Or.inr ⟨rfl, by decide⟩)
        generalize u j 0 = v1_0 at d1_0
        have z1_0 : w1.frozen? ⟨b, off + j * 16, none⟩ = false := HM1.out.frozen _
        have d1_1 : w1.cell? ⟨b, off + j * 16 + 1, none⟩ = some (u j 1) := HM1.out.cell j hlt 1 (by decide) (Or.inr ⟨rfl, by decide⟩)
        generalize u j 1 = v1_1 at d1_1
        have z1_1 : w1.frozen? ⟨b, off + j * 16 + 1, none⟩ = false := HM1.out.frozen _
        have d1_2 : w1.cell? ⟨b, off + j * 16 + 2, none⟩ = some (u j 2) := HM1.out.cell j hlt 2 (by decide) (Or.inr ⟨rfl, by decide⟩)
        generalize u j 2 = v1_2 at d1_2
        have z1_2 : w1.frozen? ⟨b, off + j * 16 + 2, none⟩ = false := HM1.out.frozen _
        have d1_3 : w1.cell? ⟨b, off + j * 16 + 3, none⟩ = some (u j 3) := HM1.out.cell j hlt 3 (by decide) (Or.inr ⟨rfl, by decide⟩)
        generalize u j 3 = v1_3 at d1_3
        have z1_3 : w1.frozen? ⟨b, off + j * 16 + 3, none⟩ = false := HM1.out.frozen _
        have d1_4 : w1.cell? ⟨b, off + j * 16 + 4, none⟩ = some (u j 4) := HM1.out.cell j hlt 4 (by decide) (Or.inr ⟨rfl, by decide⟩)
        generalize u j 4 = v1_4 at d1_4
        have z1_4 : w1.frozen? ⟨b, off + j * 16 + 4, none⟩ = false := HM1.out.frozen _
        have d1_5 : w1.cell? ⟨b, off + j * 16 + 5, none⟩ = some (u j 5) := HM1.out.cell j hlt 5 (by decide) (Or.inr ⟨rfl, by decide⟩)
        generalize u j 5 = v1_5 at d1_5
        have z1_5 : w1.frozen? ⟨b, off + j * 16 + 5, none⟩ = false := HM1.out.frozen _
        have d1_6 : w1.cell? ⟨b, off + j * 16 + 6, none⟩ = some (u j 6) := HM1.out.cell j hlt 6 (by decide) (Or.inr ⟨rfl, by decide⟩)
        generalize u j 6 = v1_6 at d1_6
        have z1_6 : w1.frozen? ⟨b, off + j * 16 + 6, none⟩ = false := HM1.out.frozen _
        have d1_7 : w1.cell? ⟨b, off + j * 16 + 7, none⟩ = some (u j 7) := HM1.out.cell j hlt 7 (by decide) (Or.inr ⟨rfl, by decide⟩)
        generalize u j 7 = v1_7 at d1_7
        have z1_7 : w1.frozen? ⟨b, off + j * 16 + 7, none⟩ = false := HM1.out.frozen _
        have d1_8 : w1.cell? ⟨b, off + j * 16 + 8, none⟩ = some (.slice a8 x.fTarget.fArgs.length c8) := (HM1.out.cell j hlt 8 (by decide) (Or.inr ⟨rfl, by decide⟩)).trans (congrArg some hu8)
        have z1_8 : w1.frozen? ⟨b, off + j * 16 + 8, none⟩ = false := HM1.out.frozen _
        have d1_9 : w1.cell? ⟨b, off + j * 16 + 9, none⟩ = some (u j 9) := HM1.out.cell j hlt 9 (by decide) (Or.inr ⟨rfl, by decide⟩)
        generalize u j 9 = v1_9 at d1_9
        have z1_9 : w1.frozen? ⟨b, off + j * 16 + 9, none⟩ = false := HM1.out.frozen _
        have d1_10 : w1.cell? ⟨b, off + j * 16 + 10, none⟩ = some (u j 10) := HM1.out.cell j hlt 10 (by decide) (Or.inr ⟨rfl, by decide⟩)
        generalize u j 10 = v1_10 at d1_10
        have z1_10 : w1.frozen? ⟨b, off + j * 16 + 10, none⟩ = false := HM1.out.frozen _
        have d1_11 : w1.cell? ⟨b, off + j * 16 + 11, none⟩ = some (u j 11) := HM1.out.cell j hlt 11 (by decide) (Or.inr ⟨rfl, by decide⟩)
        generalize u j 11 = v1_11 at d1_11
        have z1_11 : w1.frozen? ⟨b, off + j * 16 + 11, none⟩ = false := HM1.out.frozen _
        have d1_12 : w1.cell? ⟨b, off + j * 16 + 12, none⟩ = some (u j 12) := HM1.out.cell j hlt 12 (by decide) (Or.inr ⟨rfl, by decide⟩)
        generalize u j 12 = v1_12 at d1_12
        have z1_12 : w1.frozen? ⟨b, off + j * 16 + 12, none⟩ = false := HM1.out.frozen _
        have d1_13 : w1.cell? ⟨b, off + j * 16 + 13, none⟩ = some (u j 13) := HM1.out.cell j hlt 13 (by decide) (Or.inr ⟨rfl, by decide⟩)
        generalize u j 13 = v1_13 at d1_13
        have z1_13 : w1.frozen? ⟨b, off + j * 16 + 13, none⟩ = false := HM1.out.frozen _
        have d1_14 : w1.cell? ⟨b, off + j * 16 + 14, none⟩ = some (u j 14) := HM1.out.cell j hlt 14 (by decide) (Or.inr ⟨rfl, by decide⟩)
        generalize u j 14 = v1_14 at d1_14
        have z1_14 : w1.frozen? ⟨b, off + j * 16 + 14, none⟩ = false := HM1.out.frozen _
        have d1_15 : w1.cell? ⟨b, off + j * 16 + 15, none⟩ = some (.slice a15 x.fValue.fArgs.length c15) := (HM1.out.cell j hlt 15 (by decide) (Or.inr ⟨rfl, by decide⟩)).trans (congrArg some hu15)
        have z1_15 : w1.frozen? ⟨b, off + j * 16 + 15, none⟩ = false := HM1.out.frozen _
        have HQ1 := Lib.hid (fun (v0 : Value) (w' : World) (hb : Below (w1.setCell ⟨b, off + j * 16, none⟩ v0).heap.size (w1.setCell ⟨b, off + j * 16, none⟩ v0) w') => (show MarkSt F 16 l.length b off (fun k => DContribution.ct (l.getD k default)) u G (fun _ _ => none) w j 1 w' from (HM1.out.set HO.out hlt (by decide) v0 (fun _ h => by cases h)).below hb))
        go_wp2_with fail
        refine (markTextI _ (by omega) (by omega) _).mono ?_
        rintro e w2 ⟨rfl, hb2⟩
        have HM2 := Lib.hid (HQ1.out _ _ hb2)
        clear hb2 HM1 HQ1 d1_0 z1_0 d1_1 z1_1 d1_2 z1_2 d1_3 z1_3 d1_4 z1_4 d1_5 z1_5 d1_6 z1_6 d1_7 z1_7 d1_8 z1_8 d1_9 z1_9 d1_10 z1_10 d1_11 z1_11 d1_12 z1_12 d1_13 z1_13 d1_14 z1_14 d1_15 z1_15
        have d2_1 : w2.cell? ⟨b, off + j * 16 + 1, none⟩ = some (u j 1) := HM2.out.cell j hlt 1 (by decide) (Or.inr ⟨rfl, by decide⟩)
        generalize u j 1 = v2_1 at d2_1
        have z2_1 : w2.frozen? ⟨b, off + j * 16 + 1, none⟩ = false := HM2.out.frozen _
        have d2_2 : w2.cell? ⟨b, off + j * 16 + 2, none⟩ = some (u j 2) := HM2.out.cell j hlt 2 (by decide) (Or.inr ⟨rfl, by decide⟩)
        generalize u j 2 = v2_2 at d2_2
        have z2_2 : w2.frozen? ⟨b, off + j * 16 + 2, none⟩ = false := HM2.out.frozen _
        have d2_3 : w2.cell? ⟨b, off + j * 16 + 3, none⟩ = some (u j 3) := HM2.out.cell j hlt 3 (by decide) (Or.inr ⟨rfl, by decide⟩)
        generalize u j 3 = v2_3 at d2_3
        have z2_3 : w2.frozen? ⟨b, off + j * 16 + 3, none⟩ = false := HM2.out.frozen _
        have d2_4 : w2.cell? ⟨b, off + j * 16 + 4, none⟩ = some (u j 4) := HM2.out.cell j hlt 4 (by decide) (Or.inr ⟨rfl, by decide⟩)
        generalize u j 4 = v2_4 at d2_4
        have z2_4 : w2.frozen? ⟨b, off + j * 16 + 4, none⟩ = false := HM2.out.frozen _
        have d2_5 : w2.cell? ⟨b, off + j * 16 + 5, none⟩ = some (u j 5) := HM2.out.cell j hlt 5 (by decide) (Or.inr ⟨rfl, by decide⟩)
        generalize u j 5 = v2_5 at d2_5
        have z2_5 : w2.frozen? ⟨b, off + j * 16 + 5, none⟩ = false := HM2.out.frozen _
        have d2_6 : w2.cell? ⟨b, off + j * 16 + 6, none⟩ = some (u j 6) := HM2.out.cell j hlt 6 (by decide) (Or.inr ⟨rfl, by decide⟩)
        generalize u j 6 = v2_6 at d2_6
        have z2_6 : w2.frozen? ⟨b, off + j * 16 + 6, none⟩ = false := HM2.out.frozen _
        have d2_7 : w2.cell? ⟨b, off + j * 16 + 7, none⟩ = some (u j 7) := HM2.out.cell j hlt 7 (by decide) (Or.inr ⟨rfl, by decide⟩)
        generalize u j 7 = v2_7 at d2_7
        have z2_7 : w2.frozen? ⟨b, off + j * 16 + 7, none⟩ = false := HM2.out.frozen _
        have d2_8 : w2.cell? ⟨b, off + j * 16 + 8, none⟩ = some (.slice a8 x.fTarget.fArgs.length c8) := (HM2.out.cell j hlt 8 (by decide) (Or.inr ⟨rfl, by decide⟩)).trans (congrArg some hu8)
        have z2_8 : w2.frozen? ⟨b, off + j * 16 + 8, none⟩ = false := HM2.out.frozen _
        have d2_9 : w2.cell? ⟨b, off + j * 16 + 9, none⟩ = some (u j 9) := HM2.out.cell j hlt 9 (by decide) (Or.inr ⟨rfl, by decide⟩)
        generalize u j 9 = v2_9 at d2_9
        have z2_9 : w2.frozen? ⟨b, off + j * 16 + 9, none⟩ = false := HM2.out.frozen _
        have d2_10 : w2.cell? ⟨b, off + j * 16 + 10, none⟩ = some (u j 10) := HM2.out.cell j hlt 10 (by decide) (Or.inr ⟨rfl, by decide⟩)
        generalize u j 10 = v2_10 at d2_10
        have z2_10 : w2.frozen? ⟨b, off + j * 16 + 10, none⟩ = false := HM2.out.frozen _
        have d2_11 : w2.cell? ⟨b, off + j * 16 + 11, none⟩ = some (u j 11) := HM2.out.cell j hlt 11 (by decide) (Or.inr ⟨rfl, by decide⟩)
        generalize u j 11 = v2_11 at d2_11
        have z2_11 : w2.frozen? ⟨b, off + j * 16 + 11, none⟩ = false := HM2.out.frozen _
        have d2_12 : w2.cell? ⟨b, off + j * 16 + 12, none⟩ = some (u j 12) := HM2.out.cell j hlt 12 (by decide) (Or.inr ⟨rfl, by decide⟩)
        generalize u j 12 = v2_12 at d2_12
        have z2_12 : w2.frozen? ⟨b, off + j * 16 + 12, none⟩ = false := HM2.out.frozen _
        have d2_13 : w2.cell? ⟨b, off + j * 16 + 13, none⟩ = some (u j 13) := HM2.out.cell j hlt 13 (by decide) (Or.inr ⟨rfl, by decide⟩)
        generalize u j 13 = v2_13 at d2_13
        have z2_13 : w2.frozen? ⟨b, off + j * 16 + 13, none⟩ = false := HM2.out.frozen _
        have d2_14 : w2.cell? ⟨b, off + j * 16 + 14, none⟩ = some (u j 14) := HM2.out.cell j hlt 14 (by decide) (Or.inr ⟨rfl, by decide⟩)
        generalize u j 14 = v2_14 at d2_14
        have z2_14 : w2.frozen? ⟨b, off + j * 16 + 14, none⟩ = false := HM2.out.frozen _
        have d2_15 : w2.cell? ⟨b, off + j * 16 + 15, none⟩ = some (.slice a15 x.fValue.fArgs.length c15) := (HM2.out.cell j hlt 15 (by decide) (Or.inr ⟨rfl, by decide⟩)).trans (congrArg some hu15)
        have z2_15 : w2.frozen? ⟨b, off + j * 16 + 15, none⟩ = false := HM2.out.frozen _
        have HQ2 := Lib.hid (fun (v1 : Value) (v2 : Value) (v3 : Value) (v4 : Value) (v5 : Value) (w' : World) (hb : Below (((((w2.setCell ⟨b, off + j * 16 + 1, none⟩ v1).setCell ⟨b, off + j * 16 + 2, none⟩ v2).setCell ⟨b, off + j * 16 + 3, none⟩ v3).setCell ⟨b, off + j * 16 + 4, none⟩ v4).setCell ⟨b, off + j * 16 + 5, none⟩ v5).heap.size (((((w2.setCell ⟨b, off + j * 16 + 1, none⟩ v1).setCell ⟨b, off + j * 16 + 2, none⟩ v2).setCell ⟨b, off + j * 16 + 3, none⟩ v3).setCell ⟨b, off + j * 16 + 4, none⟩ v4).setCell ⟨b, off + j * 16 + 5, none⟩ v5) w') => (show MarkSt F 16 l.length b off (fun k => DContribution.ct (l.getD k default)) u G (fun _ _ => none) w j 6 w' from (((((HM2.out.set HO.out hlt (by decide) v1 (fun _ h => by cases h)).set HO.out hlt (by decide) v2 (fun _ h => by cases h)).set HO.out hlt (by decide) v3 (fun _ h => by cases h)).set HO.out hlt (by decide) v4 (fun _ h => by cases h)).set HO.out hlt (by decide) v5 (fun _ h => by cases h)).below hb))
        go_wp2_with fail
        refine (markTextI _ (by omega) (by omega) _).mono ?_
        rintro e w3 ⟨rfl, hb3⟩
        have HM3 := Lib.hid (HQ2.out _ _ _ _ _ _ hb3)
        clear hb3 HM2 HQ2 d2_1 z2_1 d2_2 z2_2 d2_3 z2_3 d2_4 z2_4 d2_5 z2_5 d2_6 z2_6 d2_7 z2_7 d2_8 z2_8 d2_9 z2_9 d2_10 z2_10 d2_11 z2_11 d2_12 z2_12 d2_13 z2_13 d2_14 z2_14 d2_15 z2_15
        have d3_6 : w3.cell? ⟨b, off + j * 16 + 6, none⟩ = some (u j 6) := HM3.out.cell j hlt 6 (by decide) (Or.inr ⟨rfl, by decide⟩)
        generalize u j 6 = v3_6 at d3_6
        have z3_6 : w3.frozen? ⟨b, off + j * 16 + 6, none⟩ = false := HM3.out.frozen _
        have d3_7 : w3.cell? ⟨b, off + j * 16 + 7, none⟩ = some (u j 7) := HM3.out.cell j hlt 7 (by decide) (Or.inr ⟨rfl, by decide⟩)
        generalize u j 7 = v3_7 at d3_7
        have z3_7 : w3.frozen? ⟨b, off + j * 16 + 7, none⟩ = false := HM3.out.frozen _
        have d3_8 : w3.cell? ⟨b, off + j * 16 + 8, none⟩ = some (.slice a8 x.fTarget.fArgs.length c8) := (HM3.out.cell j hlt 8 (by decide) (Or.inr ⟨rfl, by decide⟩)).trans (congrArg some hu8)
        have z3_8 : w3.frozen? ⟨b, off + j * 16 + 8, none⟩ = false := HM3.out.frozen _
        have d3_9 : w3.cell? ⟨b, off + j * 16 + 9, none⟩ = some (u j 9) := HM3.out.cell j hlt 9 (by decide) (Or.inr ⟨rfl, by decide⟩)
        generalize u j 9 = v3_9 at d3_9
        have z3_9 : w3.frozen? ⟨b, off + j * 16 + 9, none⟩ = false := HM3.out.frozen _
        have d3_10 : w3.cell? ⟨b, off + j * 16 + 10, none⟩ = some (u j 10) := HM3.out.cell j hlt 10 (by decide) (Or.inr ⟨rfl, by decide⟩)
        generalize u j 10 = v3_10 at d3_10
        have z3_10 : w3.frozen? ⟨b, off + j * 16 + 10, none⟩ = false := HM3.out.frozen _
        have d3_11 : w3.cell? ⟨b, off + j * 16 + 11, none⟩ = some (u j 11) := HM3.out.cell j hlt 11 (by decide) (Or.inr ⟨rfl, by decide⟩)
        generalize u j 11 = v3_11 at d3_11
        have z3_11 : w3.frozen? ⟨b, off + j * 16 + 11, none⟩ = false := HM3.out.frozen _
        have d3_12 : w3.cell? ⟨b, off + j * 16 + 12, none⟩ = some (u j 12) := HM3.out.cell j hlt 12 (by decide) (Or.inr ⟨rfl, by decide⟩)
        generalize u j 12 = v3_12 at d3_12
        have z3_12 : w3.frozen? ⟨b, off + j * 16 + 12, none⟩ = false := HM3.out.frozen _
        have d3_13 : w3.cell? ⟨b, off + j * 16 + 13, none⟩ = some (u j 13) := HM3.out.cell j hlt 13 (by decide) (Or.inr ⟨rfl, by decide⟩)
        generalize u j 13 = v3_13 at d3_13
        have z3_13 : w3.frozen? ⟨b, off + j * 16 + 13, none⟩ = false := HM3.out.frozen _
        have d3_14 : w3.cell? ⟨b, off + j * 16 + 14, none⟩ = some (u j 14) := HM3.out.cell j hlt 14 (by decide) (Or.inr ⟨rfl, by decide⟩)
        generalize u j 14 = v3_14 at d3_14
        have z3_14 : w3.frozen? ⟨b, off + j * 16 + 14, none⟩ = false := HM3.out.frozen _
        have d3_15 : w3.cell? ⟨b, off + j * 16 + 15, none⟩ = some (.slice a15 x.fValue.fArgs.length c15) := (HM3.out.cell j hlt 15 (by decide) (Or.inr ⟨rfl, by decide⟩)).trans (congrArg some hu15)
        have z3_15 : w3.frozen? ⟨b, off + j * 16 + 15, none⟩ = false := HM3.out.frozen _
        have HQ3 := Lib.hid (fun (v6 : Value) (w' : World) (hb : Below (w3.setCell ⟨b, off + j * 16 + 6, none⟩ v6).heap.size (w3.setCell ⟨b, off + j * 16 + 6, none⟩ v6) w') => (show MarkSt F 16 l.length b off (fun k => DContribution.ct (l.getD k default)) u G (fun _ _ => none) w j 7 w' from (HM3.out.set HO.out hlt (by decide) v6 (fun _ h => by cases h)).below hb))
        go_wp2_with fail
        refine (markTextI _ (by omega) (by omega) _).mono ?_
        rintro e w4 ⟨rfl, hb4⟩
        have HM4 := Lib.hid (HQ3.out _ _ hb4)
        clear hb4 HM3 HQ3 d3_6 z3_6 d3_7 z3_7 d3_8 z3_8 d3_9 z3_9 d3_10 z3_10 d3_11 z3_11 d3_12 z3_12 d3_13 z3_13 d3_14 z3_14 d3_15 z3_15
        have d4_7 : w4.cell? ⟨b, off + j * 16 + 7, none⟩ = some (u j 7) := HM4.out.cell j hlt 7 (by decide) (Or.inr ⟨rfl, by decide⟩)
        generalize u j 7 = v4_7 at d4_7
        have z4_7 : w4.frozen? ⟨b, off + j * 16 + 7, none⟩ = false := HM4.out.frozen _
        have d4_8 : w4.cell? ⟨b, off + j * 16 + 8, none⟩ = some (.slice a8 x.fTarget.fArgs.length c8) := (HM4.out.cell j hlt 8 (by decide) (Or.inr ⟨rfl, by decide⟩)).trans (congrArg some hu8)
        have z4_8 : w4.frozen? ⟨b, off + j * 16 + 8, none⟩ = false := HM4.out.frozen _
        have d4_9 : w4.cell? ⟨b, off + j * 16 + 9, none⟩ = some (u j 9) := HM4.out.cell j hlt 9 (by decide) (Or.inr ⟨rfl, by decide⟩)
        generalize u j 9 = v4_9 at d4_9
        have z4_9 : w4.frozen? ⟨b, off + j * 16 + 9, none⟩ = false := HM4.out.frozen _
        have d4_10 : w4.cell? ⟨b, off + j * 16 + 10, none⟩ = some (u j 10) := HM4.out.cell j hlt 10 (by decide) (Or.inr ⟨rfl, by decide⟩)
        generalize u j 10 = v4_10 at d4_10
        have z4_10 : w4.frozen? ⟨b, off + j * 16 + 10, none⟩ = false := HM4.out.frozen _
        have d4_11 : w4.cell? ⟨b, off + j * 16 + 11, none⟩ = some (u j 11) := HM4.out.cell j hlt 11 (by decide) (Or.inr ⟨rfl, by decide⟩)
        generalize u j 11 = v4_11 at d4_11
        have z4_11 : w4.frozen? ⟨b, off + j * 16 + 11, none⟩ = false := HM4.out.frozen _
        have d4_12 : w4.cell? ⟨b, off + j * 16 + 12, none⟩ = some (u j 12) := HM4.out.cell j hlt 12 (by decide) (Or.inr ⟨rfl, by decide⟩)
        generalize u j 12 = v4_12 at d4_12
        have z4_12 : w4.frozen? ⟨b, off + j * 16 + 12, none⟩ = false := HM4.out.frozen _
        have d4_13 : w4.cell? ⟨b, off + j * 16 + 13, none⟩ = some (u j 13) := HM4.out.cell j hlt 13 (by decide) (Or.inr ⟨rfl, by decide⟩)
        generalize u j 13 = v4_13 at d4_13
        have z4_13 : w4.frozen? ⟨b, off + j * 16 + 13, none⟩ = false := HM4.out.frozen _
        have d4_14 : w4.cell? ⟨b, off + j * 16 + 14, none⟩ = some (u j 14) := HM4.out.cell j hlt 14 (by decide) (Or.inr ⟨rfl, by decide⟩)
        generalize u j 14 = v4_14 at d4_14
        have z4_14 : w4.frozen? ⟨b, off + j * 16 + 14, none⟩ = false := HM4.out.frozen _
        have d4_15 : w4.cell? ⟨b, off + j * 16 + 15, none⟩ = some (.slice a15 x.fValue.fArgs.length c15) := (HM4.out.cell j hlt 15 (by decide) (Or.inr ⟨rfl, by decide⟩)).trans (congrArg some hu15)
        have z4_15 : w4.frozen? ⟨b, off + j * 16 + 15, none⟩ = false := HM4.out.frozen _
        have HP4 := Lib.hid (fun (v7 : Value) => HW8.out (w4.setCell ⟨b, off + j * 16 + 7, none⟩ v7) (HM4.out.set HO.out hlt (by decide) v7 (fun _ h => by cases h)))
        have HQ4 := Lib.hid (fun (v7 : Value) (w' : World) (hw : WritesF (G j 8) (w4.setCell ⟨b, off + j * 16 + 7, none⟩ v7) w') => (show MarkSt F 16 l.length b off (fun k => DContribution.ct (l.getD k default)) u G (fun _ _ => none) w j 9 w' from (HM4.out.set HO.out hlt (by decide) v7 (fun _ h => by cases h)).call HO.out hlt (by decide) rfl hw))
        have hn4 := Lib.hid (show lsz DExpr.sz x.fTarget.fArgs ≤ 1048576 from (by have h1 := hsu.out; have h2 := hle2.out; have h3_0 := HU0.out; have h3_1 := HU1.out; have h3_2 := HU2.out; omega))
        go_wp2_with fail
        refine (wmark_ExprS x.fTarget.fArgs hn4.out _ (by omega) (by have h1 := hsu.out; have h2 := hle2.out; have h3_0 := HU0.out; have h3_1 := HU1.out; have h3_2 := HU2.out; omega) _ (HP4.out _)).mono ?_
        rintro e w5 ⟨k5, rfl, hka5, hkb5, hw5⟩
        have HM5 := Lib.hid (HQ4.out _ _ hw5)
        have hkz5 : 1 ≤ k5 ∧ k5 ≤ 4611686018427387904 := by have h1 := hsu.out; have h2 := hle2.out; have h3_0 := HU0.out; have h3_1 := HU1.out; have h3_2 := HU2.out; omega
        clear hw5 HM4 HP4 HQ4 d4_7 z4_7 d4_8 z4_8 d4_9 z4_9 d4_10 z4_10 d4_11 z4_11 d4_12 z4_12 d4_13 z4_13 d4_14 z4_14 d4_15 z4_15
        have d5_9 : w5.cell? ⟨b, off + j * 16 + 9, none⟩ = some (u j 9) := HM5.out.cell j hlt 9 (by decide) (Or.inr ⟨rfl, by decide⟩)
        generalize u j 9 = v5_9 at d5_9
        have z5_9 : w5.frozen? ⟨b, off + j * 16 + 9, none⟩ = false := HM5.out.frozen _
        have d5_10 : w5.cell? ⟨b, off + j * 16 + 10, none⟩ = some (u j 10) := HM5.out.cell j hlt 10 (by decide) (Or.inr ⟨rfl, by decide⟩)
        generalize u j 10 = v5_10 at d5_10
        have z5_10 : w5.frozen? ⟨b, off + j * 16 + 10, none⟩ = false := HM5.out.frozen _
        have d5_11 : w5.cell? ⟨b, off + j * 16 + 11, none⟩ = some (u j 11) := HM5.out.cell j hlt 11 (by decide) (Or.inr ⟨rfl, by decide⟩)
        generalize u j 11 = v5_11 at d5_11
        have z5_11 : w5.frozen? ⟨b, off + j * 16 + 11, none⟩ = false := HM5.out.frozen _
        have d5_12 : w5.cell? ⟨b, off + j * 16 + 12, none⟩ = some (u j 12) := HM5.out.cell j hlt 12 (by decide) (Or.inr ⟨rfl, by decide⟩)
        generalize u j 12 = v5_12 at d5_12
        have z5_12 : w5.frozen? ⟨b, off + j * 16 + 12, none⟩ = false := HM5.out.frozen _
        have d5_13 : w5.cell? ⟨b, off + j * 16 + 13, none⟩ = some (u j 13) := HM5.out.cell j hlt 13 (by decide) (Or.inr ⟨rfl, by decide⟩)
        generalize u j 13 = v5_13 at d5_13
        have z5_13 : w5.frozen? ⟨b, off + j * 16 + 13, none⟩ = false := HM5.out.frozen _
        have d5_14 : w5.cell? ⟨b, off + j * 16 + 14, none⟩ = some (u j 14) := HM5.out.cell j hlt 14 (by decide) (Or.inr ⟨rfl, by decide⟩)
        generalize u j 14 = v5_14 at d5_14
        have z5_14 : w5.frozen? ⟨b, off + j * 16 + 14, none⟩ = false := HM5.out.frozen _
        have d5_15 : w5.cell? ⟨b, off + j * 16 + 15, none⟩ = some (.slice a15 x.fValue.fArgs.length c15) := (HM5.out.cell j hlt 15 (by decide) (Or.inr ⟨rfl, by decide⟩)).trans (congrArg some hu15)
        have z5_15 : w5.frozen? ⟨b, off + j * 16 + 15, none⟩ = false := HM5.out.frozen _
        have HQ5 := Lib.hid (fun (v9 : Value) (v10 : Value) (v11 : Value) (v12 : Value) (w' : World) (hb : Below ((((w5.setCell ⟨b, off + j * 16 + 9, none⟩ v9).setCell ⟨b, off + j * 16 + 10, none⟩ v10).setCell ⟨b, off + j * 16 + 11, none⟩ v11).setCell ⟨b, off + j * 16 + 12, none⟩ v12).heap.size ((((w5.setCell ⟨b, off + j * 16 + 9, none⟩ v9).setCell ⟨b, off + j * 16 + 10, none⟩ v10).setCell ⟨b, off + j * 16 + 11, none⟩ v11).setCell ⟨b, off + j * 16 + 12, none⟩ v12) w') => (show MarkSt F 16 l.length b off (fun k => DContribution.ct (l.getD k default)) u G (fun _ _ => none) w j 13 w' from ((((HM5.out.set HO.out hlt (by decide) v9 (fun _ h => by cases h)).set HO.out hlt (by decide) v10 (fun _ h => by cases h)).set HO.out hlt (by decide) v11 (fun _ h => by cases h)).set HO.out hlt (by decide) v12 (fun _ h => by cases h)).below hb))
        go_wp2_with fail
        refine (markTextI _ (by omega) (by omega) _).mono ?_
        rintro e w6 ⟨rfl, hb6⟩
        have HM6 := Lib.hid (HQ5.out _ _ _ _ _ hb6)
        clear hb6 HM5 HQ5 d5_9 z5_9 d5_10 z5_10 d5_11 z5_11 d5_12 z5_12 d5_13 z5_13 d5_14 z5_14 d5_15 z5_15
        have d6_13 : w6.cell? ⟨b, off + j * 16 + 13, none⟩ = some (u j 13) := HM6.out.cell j hlt 13 (by decide) (Or.inr ⟨rfl, by decide⟩)
        generalize u j 13 = v6_13 at d6_13
        have z6_13 : w6.frozen? ⟨b, off + j * 16 + 13, none⟩ = false := HM6.out.frozen _
        have d6_14 : w6.cell? ⟨b, off + j * 16 + 14, none⟩ = some (u j 14) := HM6.out.cell j hlt 14 (by decide) (Or.inr ⟨rfl, by decide⟩)
        generalize u j 14 = v6_14 at d6_14
        have z6_14 : w6.frozen? ⟨b, off + j * 16 + 14, none⟩ = false := HM6.out.frozen _
        have d6_15 : w6.cell? ⟨b, off + j * 16 + 15, none⟩ = some (.slice a15 x.fValue.fArgs.length c15) := (HM6.out.cell j hlt 15 (by decide) (Or.inr ⟨rfl, by decide⟩)).trans (congrArg some hu15)
        have z6_15 : w6.frozen? ⟨b, off + j * 16 + 15, none⟩ = false := HM6.out.frozen _
        have HQ6 := Lib.hid (fun (v13 : Value) (w' : World) (hb : Below (w6.setCell ⟨b, off + j * 16 + 13, none⟩ v13).heap.size (w6.setCell ⟨b, off + j * 16 + 13, none⟩ v13) w') => (show MarkSt F 16 l.length b off (fun k => DContribution.ct (l.getD k default)) u G (fun _ _ => none) w j 14 w' from (HM6.out.set HO.out hlt (by decide) v13 (fun _ h => by cases h)).below hb))
        go_wp2_with fail
        refine (markTextI _ (by omega) (by omega) _).mono ?_
        rintro e w7 ⟨rfl, hb7⟩
        have HM7 := Lib.hid (HQ6.out _ _ hb7)
        clear hb7 HM6 HQ6 d6_13 z6_13 d6_14 z6_14 d6_15 z6_15
        have d7_14 : w7.cell? ⟨b, off + j * 16 + 14, none⟩ = some (u j 14) := HM7.out.cell j hlt 14 (by decide) (Or.inr ⟨rfl, by decide⟩)
        generalize u j 14 = v7_14 at d7_14
        have z7_14 : w7.frozen? ⟨b, off + j * 16 + 14, none⟩ = false := HM7.out.frozen _
        have d7_15 : w7.cell? ⟨b, off + j * 16 + 15, none⟩ = some (.slice a15 x.fValue.fArgs.length c15) := (HM7.out.cell j hlt 15 (by decide) (Or.inr ⟨rfl, by decide⟩)).trans (congrArg some hu15)
        have z7_15 : w7.frozen? ⟨b, off + j * 16 + 15, none⟩ = false := HM7.out.frozen _
        have HP7 := Lib.hid (fun (v14 : Value) => HW15.out (w7.setCell ⟨b, off + j * 16 + 14, none⟩ v14) (HM7.out.set HO.out hlt (by decide) v14 (fun _ h => by cases h)))
        have HQ7 := Lib.hid (fun (v14 : Value) (w' : World) (hw : WritesF (G j 15) (w7.setCell ⟨b, off + j * 16 + 14, none⟩ v14) w') => (show MarkSt F 16 l.length b off (fun k => DContribution.ct (l.getD k default)) u G (fun _ _ => none) w j 16 w' from (HM7.out.set HO.out hlt (by decide) v14 (fun _ h => by cases h)).call HO.out hlt (by decide) rfl hw))
        have hn7 := Lib.hid (show lsz DExpr.sz x.fValue.fArgs ≤ 1048576 from (by have h1 := hsu.out; have h2 := hle2.out; have h3_0 := HU0.out; have h3_1 := HU1.out; have h3_2 := HU2.out; omega))
        go_wp2_with fail
        refine (wmark_ExprS x.fValue.fArgs hn7.out _ (by omega) (by have h1 := hsu.out; have h2 := hle2.out; have h3_0 := HU0.out; have h3_1 := HU1.out; have h3_2 := HU2.out; omega) _ (HP7.out _)).mono ?_
        rintro e w8 ⟨k8, rfl, hka8, hkb8, hw8⟩
        have HM8 := Lib.hid (HQ7.out _ _ hw8)
        have hkz8 : 1 ≤ k8 ∧ k8 ≤ 4611686018427387904 := by have h1 := hsu.out; have h2 := hle2.out; have h3_0 := HU0.out; have h3_1 := HU1.out; have h3_2 := HU2.out; omega
        clear hw8 HM7 HP7 HQ7 d7_14 z7_14 d7_15 z7_15
        have HNX := Lib.hid ((show MarkSt F 16 l.length b off (fun k => DContribution.ct (l.getD k default)) u G (fun _ _ => none) w (j + 1) 0 w8 from HM8.out.next rfl))
        go_wp2
        go_roundw
        case rel =>
          have h1 := hsu.out
          have h2 := hle2.out
          have h3_0 := HU0.out
          have h3_1 := HU1.out
          have h3_2 := HU2.out
          refine ⟨j + 1, _, by omega, by go_num, rfl, by omega, by rw [h1]; omega, HNX.out⟩
        case measure => simp [intOf]; omega
      · obtain rfl : j = l.length := by omega
        go_wp2
        go_ret
        exact ⟨_, rfl, hz0, by have h1 := psz_le DContribution.sz l l.length; omega, HM0.out.writes⟩
end Go.Proofs.Yticchgfhmfjknaa
