/-
  The marks of Equation.
-/
import Derived.Test.YticchgfhmfjknaaTEquation
import Derived.Test.YticchgfhmfjknaaMark
import Derived.Test.YticchgfhmfjknaaMkExpr
import Derived.WalkSpells
import Derived.WalkSmall
import Derived.WalkLawsBesides
import Derived.SliceStrings
import Derived.Deep.QuietTactic
import Derived.Deep.RegionWith
import Derived.BigQuiet
import Derived.Outline
import Derived.Laws.Rows
namespace Go.Proofs.Yticchgfhmfjknaa
open Go.ChangeShapes Go.WideShapes Go.ChangeAt Go.RowKit Go.Deep

set_option maxHeartbeats 3200000 in
set_option maxRecDepth 100000 in
theorem wmark_EquationS {F : Nat → Prop} {a : Option Addr} {cap : Nat} (l : List DEquation) (hn : lsz DEquation.sz l ≤ 1048576) (k : Int) (hk0 : 1 ≤ k) (hk : k + 16 * (lsz DEquation.sz l : Nat) ≤ 4611686018427387904) (w : World) (ho : Own w F (.sl 9 l.length (fun k => DEquation.ct (l.getD k default))) (.slice a l.length cap)) :
    Calls Try.prog 42 #[.slice a l.length cap, .int .i64 k] w fun e w' => ∃ k' : Int, e = .returned (.int .i64 k') ∧ k ≤ k' ∧ k' ≤ k + 16 * (lsz DEquation.sz l : Nat) ∧ WritesF F w w' := by
  rcases mark_start (fun _ _ => none) ho with h0 | ⟨b, off, u, G, rfl, hO, hM⟩
  · have HL := Lib.hid h0
    clear ho hn
    generalize l.length = n at *
    obtain rfl : n = 0 := HL.out
    generalize lsz DEquation.sz l = Z at *
    go_enter Try.func42, Try.ntmps42
    go_wp2
    go_loop [1, 5] (fun q i => q = .int .i64 k ∧ i = .int .i64 0) (fun _ _ => 0)
    case atStart => exact ⟨rfl, rfl⟩
    case round =>
      obtain ⟨rfl, rfl⟩ := hrel
      go_wp2
      go_ret
      exact ⟨_, rfl, Int.le_refl _, by omega, WritesF.refl _ _⟩
  · have HO := Lib.hid hO
    have HMS := Lib.hid hM
    clear ho hO hM
    have hlen := lsz_pos DEquation.sz l
    go_enter Try.func42, Try.ntmps42
    go_wp2
    go_loopw [1, 5] (fun q i wr => ∃ (j : Nat) (z : Int), j ≤ l.length ∧ i = .int .i64 (j : Int) ∧ q = .int .i64 z ∧ k ≤ z ∧ z ≤ k + 16 * ((j + psz DEquation.sz l j : Nat) : Int) ∧ MarkSt F 9 l.length b off (fun k => DEquation.ct (l.getD k default)) u G (fun _ _ => none) w j 0 wr) (fun _ i _ => l.length - (intOf i).toNat)
    case atStart => exact ⟨0, k, Nat.zero_le _, rfl, rfl, Int.le_refl _, by omega, HMS.out⟩
    case round =>
      clear HMS
      obtain ⟨j, z, hj, rfl, rfl, hz0, hz1, hm⟩ := hrel
      have HM0 := Lib.hid hm
      clear hm
      by_cases hlt : j < l.length
      · skip
        have hsu := Lib.hid (psz_succ DEquation.sz l j hlt)
        have hle2 := Lib.hid (psz_le DEquation.sz l (j + 1))
        have hzb : 1 ≤ z ∧ z ≤ 4611686018527387904 := by have h1 := hsu.out; have h2 := hle2.out; omega
        obtain ⟨a8, c8, hu8, _⟩ := own_sl (n := 7) (len := (l.getD j default).fExpr.fArgs.length) (f := (ctE (l.getD j default).fExpr.fArgs)) (HM0.out.own j hlt 8 (by decide) (Or.inr ⟨rfl, Nat.zero_le _⟩))
        have HW8 := Lib.hid (fun (W : World) (h : MarkSt F 9 l.length b off (fun k => DEquation.ct (l.getD k default)) u G (fun _ _ => none) w j 8 W) => (show Own W (G j 8) (.sl 7 (l.getD j default).fExpr.fArgs.length (ctE (l.getD j default).fExpr.fArgs)) (.slice a8 (l.getD j default).fExpr.fArgs.length c8) from by have h1 := h.own j hlt 8 (by decide) (Or.inr ⟨rfl, Nat.le_refl _⟩); rw [hu8] at h1; exact h1))
        have HU0 := Lib.hid (show DEquation.sz (l.getD j default) = DOccurrence.sz (l.getD j default).fAt + DExpr.sz (l.getD j default).fExpr from rfl)
        have HU1 := Lib.hid (show DOccurrence.sz (l.getD j default).fAt = (l.getD j default).fAt.fName.size from rfl)
        have HU2 := Lib.hid (show DExpr.sz (l.getD j default).fExpr = (l.getD j default).fExpr.fSymbol.size + (l.getD j default).fExpr.fName.size + (lsz DExpr.sz) (l.getD j default).fExpr.fArgs from DExpr.sz_eq _)
        generalize l.getD j default = x at *
        have d0_0 : wr.cell? ⟨b, off + j * 9, none⟩ = some (u j 0) := HM0.out.cell j hlt 0 (by decide) (Or.inr ⟨rfl, by decide⟩)
        generalize u j 0 = v0_0 at d0_0
        have z0_0 : wr.frozen? ⟨b, off + j * 9, none⟩ = false := HM0.out.frozen _
        have d0_1 : wr.cell? ⟨b, off + j * 9 + 1, none⟩ = some (u j 1) := HM0.out.cell j hlt 1 (by decide) (Or.inr ⟨rfl, by decide⟩)
        generalize u j 1 = v0_1 at d0_1
        have z0_1 : wr.frozen? ⟨b, off + j * 9 + 1, none⟩ = false := HM0.out.frozen _
        have d0_2 : wr.cell? ⟨b, off + j * 9 + 2, none⟩ = some (u j 2) := HM0.out.cell j hlt 2 (by decide) (Or.inr ⟨rfl, by decide⟩)
        generalize u j 2 = v0_2 at d0_2
        have z0_2 : wr.frozen? ⟨b, off + j * 9 + 2, none⟩ = false := HM0.out.frozen _
        have d0_3 : wr.cell? ⟨b, off + j * 9 + 3, none⟩ = some (u j 3) := HM0.out.cell j hlt 3 (by decide) (Or.inr ⟨rfl, by decide⟩)
        generalize u j 3 = v0_3 at d0_3
        have z0_3 : wr.frozen? ⟨b, off + j * 9 + 3, none⟩ = false := HM0.out.frozen _
        have d0_4 : wr.cell? ⟨b, off + j * 9 + 4, none⟩ = some (u j 4) := HM0.out.cell j hlt 4 (by decide) (Or.inr ⟨rfl, by decide⟩)
        generalize u j 4 = v0_4 at d0_4
        have z0_4 : wr.frozen? ⟨b, off + j * 9 + 4, none⟩ = false := HM0.out.frozen _
        have d0_5 : wr.cell? ⟨b, off + j * 9 + 5, none⟩ = some (u j 5) := HM0.out.cell j hlt 5 (by decide) (Or.inr ⟨rfl, by decide⟩)
        generalize u j 5 = v0_5 at d0_5
        have z0_5 : wr.frozen? ⟨b, off + j * 9 + 5, none⟩ = false := HM0.out.frozen _
        have d0_6 : wr.cell? ⟨b, off + j * 9 + 6, none⟩ = some (u j 6) := HM0.out.cell j hlt 6 (by decide) (Or.inr ⟨rfl, by decide⟩)
        generalize u j 6 = v0_6 at d0_6
        have z0_6 : wr.frozen? ⟨b, off + j * 9 + 6, none⟩ = false := HM0.out.frozen _
        have d0_7 : wr.cell? ⟨b, off + j * 9 + 7, none⟩ = some (u j 7) := HM0.out.cell j hlt 7 (by decide) (Or.inr ⟨rfl, by decide⟩)
        generalize u j 7 = v0_7 at d0_7
        have z0_7 : wr.frozen? ⟨b, off + j * 9 + 7, none⟩ = false := HM0.out.frozen _
        have d0_8 : wr.cell? ⟨b, off + j * 9 + 8, none⟩ = some (.slice a8 x.fExpr.fArgs.length c8) := (HM0.out.cell j hlt 8 (by decide) (Or.inr ⟨rfl, by decide⟩)).trans (congrArg some hu8)
        have z0_8 : wr.frozen? ⟨b, off + j * 9 + 8, none⟩ = false := HM0.out.frozen _
        have HQ0 := Lib.hid (fun (v0 : Value) (w' : World) (hb : Below (wr.setCell ⟨b, off + j * 9, none⟩ v0).heap.size (wr.setCell ⟨b, off + j * 9, none⟩ v0) w') => (show MarkSt F 9 l.length b off (fun k => DEquation.ct (l.getD k default)) u G (fun _ _ => none) w j 1 w' from (HM0.out.set HO.out hlt (by decide) v0 (fun _ h => by cases h)).below hb))
        go_wp2_with fail
        refine (markTextI _ (by omega) (by omega) _).mono ?_
        rintro e w1 ⟨rfl, hb1⟩
        have HM1 := Lib.hid (HQ0.out _ _ hb1)
        clear hb1 HM0 HQ0 d0_0 z0_0 d0_1 z0_1 d0_2 z0_2 d0_3 z0_3 d0_4 z0_4 d0_5 z0_5 d0_6 z0_6 d0_7 z0_7 d0_8 z0_8
        have d1_1 : w1.cell? ⟨b, off + j * 9 + 1, none⟩ = some (u j 1) := HM1.out.cell j hlt 1 (by decide) (Or.inr ⟨rfl, by decide⟩)
        generalize u j 1 = v1_1 at d1_1
        have z1_1 : w1.frozen? ⟨b, off + j * 9 + 1, none⟩ = false := HM1.out.frozen _
        have d1_2 : w1.cell? ⟨b, off + j * 9 + 2, none⟩ = some (u j 2) := HM1.out.cell j hlt 2 (by decide) (Or.inr ⟨rfl, by decide⟩)
        generalize u j 2 = v1_2 at d1_2
        have z1_2 : w1.frozen? ⟨b, off + j * 9 + 2, none⟩ = false := HM1.out.frozen _
        have d1_3 : w1.cell? ⟨b, off + j * 9 + 3, none⟩ = some (u j 3) := HM1.out.cell j hlt 3 (by decide) (Or.inr ⟨rfl, by decide⟩)
        generalize u j 3 = v1_3 at d1_3
        have z1_3 : w1.frozen? ⟨b, off + j * 9 + 3, none⟩ = false := HM1.out.frozen _
        have d1_4 : w1.cell? ⟨b, off + j * 9 + 4, none⟩ = some (u j 4) := HM1.out.cell j hlt 4 (by decide) (Or.inr ⟨rfl, by decide⟩)
        generalize u j 4 = v1_4 at d1_4
        have z1_4 : w1.frozen? ⟨b, off + j * 9 + 4, none⟩ = false := HM1.out.frozen _
        have d1_5 : w1.cell? ⟨b, off + j * 9 + 5, none⟩ = some (u j 5) := HM1.out.cell j hlt 5 (by decide) (Or.inr ⟨rfl, by decide⟩)
        generalize u j 5 = v1_5 at d1_5
        have z1_5 : w1.frozen? ⟨b, off + j * 9 + 5, none⟩ = false := HM1.out.frozen _
        have d1_6 : w1.cell? ⟨b, off + j * 9 + 6, none⟩ = some (u j 6) := HM1.out.cell j hlt 6 (by decide) (Or.inr ⟨rfl, by decide⟩)
        generalize u j 6 = v1_6 at d1_6
        have z1_6 : w1.frozen? ⟨b, off + j * 9 + 6, none⟩ = false := HM1.out.frozen _
        have d1_7 : w1.cell? ⟨b, off + j * 9 + 7, none⟩ = some (u j 7) := HM1.out.cell j hlt 7 (by decide) (Or.inr ⟨rfl, by decide⟩)
        generalize u j 7 = v1_7 at d1_7
        have z1_7 : w1.frozen? ⟨b, off + j * 9 + 7, none⟩ = false := HM1.out.frozen _
        have d1_8 : w1.cell? ⟨b, off + j * 9 + 8, none⟩ = some (.slice a8 x.fExpr.fArgs.length c8) := (HM1.out.cell j hlt 8 (by decide) (Or.inr ⟨rfl, by decide⟩)).trans (congrArg some hu8)
        have z1_8 : w1.frozen? ⟨b, off + j * 9 + 8, none⟩ = false := HM1.out.frozen _
        have HQ1 := Lib.hid (fun (v1 : Value) (v2 : Value) (v3 : Value) (v4 : Value) (v5 : Value) (w' : World) (hb : Below (((((w1.setCell ⟨b, off + j * 9 + 1, none⟩ v1).setCell ⟨b, off + j * 9 + 2, none⟩ v2).setCell ⟨b, off + j * 9 + 3, none⟩ v3).setCell ⟨b, off + j * 9 + 4, none⟩ v4).setCell ⟨b, off + j * 9 + 5, none⟩ v5).heap.size (((((w1.setCell ⟨b, off + j * 9 + 1, none⟩ v1).setCell ⟨b, off + j * 9 + 2, none⟩ v2).setCell ⟨b, off + j * 9 + 3, none⟩ v3).setCell ⟨b, off + j * 9 + 4, none⟩ v4).setCell ⟨b, off + j * 9 + 5, none⟩ v5) w') => (show MarkSt F 9 l.length b off (fun k => DEquation.ct (l.getD k default)) u G (fun _ _ => none) w j 6 w' from (((((HM1.out.set HO.out hlt (by decide) v1 (fun _ h => by cases h)).set HO.out hlt (by decide) v2 (fun _ h => by cases h)).set HO.out hlt (by decide) v3 (fun _ h => by cases h)).set HO.out hlt (by decide) v4 (fun _ h => by cases h)).set HO.out hlt (by decide) v5 (fun _ h => by cases h)).below hb))
        go_wp2_with fail
        refine (markTextI _ (by omega) (by omega) _).mono ?_
        rintro e w2 ⟨rfl, hb2⟩
        have HM2 := Lib.hid (HQ1.out _ _ _ _ _ _ hb2)
        clear hb2 HM1 HQ1 d1_1 z1_1 d1_2 z1_2 d1_3 z1_3 d1_4 z1_4 d1_5 z1_5 d1_6 z1_6 d1_7 z1_7 d1_8 z1_8
        have d2_6 : w2.cell? ⟨b, off + j * 9 + 6, none⟩ = some (u j 6) := HM2.out.cell j hlt 6 (by decide) (Or.inr ⟨rfl, by decide⟩)
        generalize u j 6 = v2_6 at d2_6
        have z2_6 : w2.frozen? ⟨b, off + j * 9 + 6, none⟩ = false := HM2.out.frozen _
        have d2_7 : w2.cell? ⟨b, off + j * 9 + 7, none⟩ = some (u j 7) := HM2.out.cell j hlt 7 (by decide) (Or.inr ⟨rfl, by decide⟩)
        generalize u j 7 = v2_7 at d2_7
        have z2_7 : w2.frozen? ⟨b, off + j * 9 + 7, none⟩ = false := HM2.out.frozen _
        have d2_8 : w2.cell? ⟨b, off + j * 9 + 8, none⟩ = some (.slice a8 x.fExpr.fArgs.length c8) := (HM2.out.cell j hlt 8 (by decide) (Or.inr ⟨rfl, by decide⟩)).trans (congrArg some hu8)
        have z2_8 : w2.frozen? ⟨b, off + j * 9 + 8, none⟩ = false := HM2.out.frozen _
        have HQ2 := Lib.hid (fun (v6 : Value) (w' : World) (hb : Below (w2.setCell ⟨b, off + j * 9 + 6, none⟩ v6).heap.size (w2.setCell ⟨b, off + j * 9 + 6, none⟩ v6) w') => (show MarkSt F 9 l.length b off (fun k => DEquation.ct (l.getD k default)) u G (fun _ _ => none) w j 7 w' from (HM2.out.set HO.out hlt (by decide) v6 (fun _ h => by cases h)).below hb))
        go_wp2_with fail
        refine (markTextI _ (by omega) (by omega) _).mono ?_
        rintro e w3 ⟨rfl, hb3⟩
        have HM3 := Lib.hid (HQ2.out _ _ hb3)
        clear hb3 HM2 HQ2 d2_6 z2_6 d2_7 z2_7 d2_8 z2_8
        have d3_7 : w3.cell? ⟨b, off + j * 9 + 7, none⟩ = some (u j 7) := HM3.out.cell j hlt 7 (by decide) (Or.inr ⟨rfl, by decide⟩)
        generalize u j 7 = v3_7 at d3_7
        have z3_7 : w3.frozen? ⟨b, off + j * 9 + 7, none⟩ = false := HM3.out.frozen _
        have d3_8 : w3.cell? ⟨b, off + j * 9 + 8, none⟩ = some (.slice a8 x.fExpr.fArgs.length c8) := (HM3.out.cell j hlt 8 (by decide) (Or.inr ⟨rfl, by decide⟩)).trans (congrArg some hu8)
        have z3_8 : w3.frozen? ⟨b, off + j * 9 + 8, none⟩ = false := HM3.out.frozen _
        have HP3 := Lib.hid (fun (v7 : Value) => HW8.out (w3.setCell ⟨b, off + j * 9 + 7, none⟩ v7) (HM3.out.set HO.out hlt (by decide) v7 (fun _ h => by cases h)))
        have HQ3 := Lib.hid (fun (v7 : Value) (w' : World) (hw : WritesF (G j 8) (w3.setCell ⟨b, off + j * 9 + 7, none⟩ v7) w') => (show MarkSt F 9 l.length b off (fun k => DEquation.ct (l.getD k default)) u G (fun _ _ => none) w j 9 w' from (HM3.out.set HO.out hlt (by decide) v7 (fun _ h => by cases h)).call HO.out hlt (by decide) rfl hw))
        have hn3 := Lib.hid (show lsz DExpr.sz x.fExpr.fArgs ≤ 1048576 from (by have h1 := hsu.out; have h2 := hle2.out; have h3_0 := HU0.out; have h3_1 := HU1.out; have h3_2 := HU2.out; omega))
        go_wp2_with fail
        refine (wmark_ExprS x.fExpr.fArgs hn3.out _ (by omega) (by have h1 := hsu.out; have h2 := hle2.out; have h3_0 := HU0.out; have h3_1 := HU1.out; have h3_2 := HU2.out; omega) _ (HP3.out _)).mono ?_
        rintro e w4 ⟨k4, rfl, hka4, hkb4, hw4⟩
        have HM4 := Lib.hid (HQ3.out _ _ hw4)
        have hkz4 : 1 ≤ k4 ∧ k4 ≤ 4611686018427387904 := by have h1 := hsu.out; have h2 := hle2.out; have h3_0 := HU0.out; have h3_1 := HU1.out; have h3_2 := HU2.out; omega
        clear hw4 HM3 HP3 HQ3 d3_7 z3_7 d3_8 z3_8
        have HNX := Lib.hid ((show MarkSt F 9 l.length b off (fun k => DEquation.ct (l.getD k default)) u G (fun _ _ => none) w (j + 1) 0 w4 from HM4.out.next rfl))
        go_wp2
        go_roundw
        case rel =>
          have h1 := hsu.out
          have h2 := hle2.out
          have h3_0 := HU0.out
          have h3_1 := HU1.out
          have h3_2 := HU2.out
          refine ⟨j + 1, _, by omega, by go_num, rfl, by omega, by rw [h1]; omega, HNX.out⟩
        case measure => simp [intOf]; omega
      · obtain rfl : j = l.length := by omega
        go_wp2
        go_ret
        exact ⟨_, rfl, hz0, by have h1 := psz_le DEquation.sz l l.length; omega, HM0.out.writes⟩
end Go.Proofs.Yticchgfhmfjknaa
