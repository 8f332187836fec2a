/-
  The marks of Rule.
-/
import Derived.Test.YticchgfhmfjknaaTRule
import Derived.Test.YticchgfhmfjknaaMark
import Derived.Test.YticchgfhmfjknaaMkContribution
import Derived.Test.YticchgfhmfjknaaMkEquation
import Derived.Test.YticchgfhmfjknaaMkStr
import Derived.WalkSpells
import Derived.WalkSmall
import Derived.WalkLawsBesides
import Derived.SliceStrings
import Derived.Deep.QuietTactic
import Derived.Deep.RegionWith
import Derived.BigQuiet
import Derived.Outline
import Derived.Laws.Rows
namespace Go.Proofs.Yticchgfhmfjknaa
open Go.ChangeShapes Go.WideShapes Go.ChangeAt Go.RowKit Go.Deep

set_option maxHeartbeats 3200000 in
set_option maxRecDepth 100000 in
theorem wmark_RuleS {F : Nat → Prop} {a : Option Addr} {cap : Nat} (l : List DRule) (hn : lsz DRule.sz l ≤ 1048576) (k : Int) (hk0 : 1 ≤ k) (hk : k + 16 * (lsz DRule.sz l : Nat) ≤ 4611686018427387904) (w : World) (ho : Own w F (.sl 6 l.length (fun k => DRule.ct (l.getD k default))) (.slice a l.length cap)) :
    Calls Try.prog 40 #[.slice a l.length cap, .int .i64 k] w fun e w' => ∃ k' : Int, e = .returned (.int .i64 k') ∧ k ≤ k' ∧ k' ≤ k + 16 * (lsz DRule.sz l : Nat) ∧ WritesF F w w' := by
  rcases mark_start (fun _ _ => none) ho with h0 | ⟨b, off, u, G, rfl, hO, hM⟩
  · have HL := Lib.hid h0
    clear ho hn
    generalize l.length = n at *
    obtain rfl : n = 0 := HL.out
    generalize lsz DRule.sz l = Z at *
    go_enter Try.func40, Try.ntmps40
    go_wp2
    go_loop [1, 5] (fun q i => q = .int .i64 k ∧ i = .int .i64 0) (fun _ _ => 0)
    case atStart => exact ⟨rfl, rfl⟩
    case round =>
      obtain ⟨rfl, rfl⟩ := hrel
      go_wp2
      go_ret
      exact ⟨_, rfl, Int.le_refl _, by omega, WritesF.refl _ _⟩
  · have HO := Lib.hid hO
    have HMS := Lib.hid hM
    clear ho hO hM
    have hlen := lsz_pos DRule.sz l
    go_enter Try.func40, Try.ntmps40
    go_wp2
    go_loopw [1, 5] (fun q i wr => ∃ (j : Nat) (z : Int), j ≤ l.length ∧ i = .int .i64 (j : Int) ∧ q = .int .i64 z ∧ k ≤ z ∧ z ≤ k + 16 * ((j + psz DRule.sz l j : Nat) : Int) ∧ MarkSt F 6 l.length b off (fun k => DRule.ct (l.getD k default)) u G (fun _ _ => none) w j 0 wr) (fun _ i _ => l.length - (intOf i).toNat)
    case atStart => exact ⟨0, k, Nat.zero_le _, rfl, rfl, Int.le_refl _, by omega, HMS.out⟩
    case round =>
      clear HMS
      obtain ⟨j, z, hj, rfl, rfl, hz0, hz1, hm⟩ := hrel
      have HM0 := Lib.hid hm
      clear hm
      by_cases hlt : j < l.length
      · skip
        have hsu := Lib.hid (psz_succ DRule.sz l j hlt)
        have hle2 := Lib.hid (psz_le DRule.sz l (j + 1))
        have hzb : 1 ≤ z ∧ z ≤ 4611686018527387904 := by have h1 := hsu.out; have h2 := hle2.out; omega
        obtain ⟨a2, c2, hu2, _⟩ := own_sl (n := 1) (len := (l.getD j default).fRight.length) (f := (fun k => ictS ((l.getD j default).fRight.getD k default))) (HM0.out.own j hlt 2 (by decide) (Or.inr ⟨rfl, Nat.zero_le _⟩))
        have HW2 := Lib.hid (fun (W : World) (h : MarkSt F 6 l.length b off (fun k => DRule.ct (l.getD k default)) u G (fun _ _ => none) w j 2 W) => (show Own W (G j 2) (.sl 1 (l.getD j default).fRight.length (fun k => ictS ((l.getD j default).fRight.getD k default))) (.slice a2 (l.getD j default).fRight.length c2) from by have h1 := h.own j hlt 2 (by decide) (Or.inr ⟨rfl, Nat.le_refl _⟩); rw [hu2] at h1; exact h1))
        obtain ⟨a4, c4, hu4, _⟩ := own_sl (n := 9) (len := (l.getD j default).fEquations.length) (f := (fun k => DEquation.ct ((l.getD j default).fEquations.getD k default))) (HM0.out.own j hlt 4 (by decide) (Or.inr ⟨rfl, Nat.zero_le _⟩))
        have HW4 := Lib.hid (fun (W : World) (h : MarkSt F 6 l.length b off (fun k => DRule.ct (l.getD k default)) u G (fun _ _ => none) w j 4 W) => (show Own W (G j 4) (.sl 9 (l.getD j default).fEquations.length (fun k => DEquation.ct ((l.getD j default).fEquations.getD k default))) (.slice a4 (l.getD j default).fEquations.length c4) from by have h1 := h.own j hlt 4 (by decide) (Or.inr ⟨rfl, Nat.le_refl _⟩); rw [hu4] at h1; exact h1))
        obtain ⟨a5, c5, hu5, _⟩ := own_sl (n := 16) (len := (l.getD j default).fContributions.length) (f := (fun k => DContribution.ct ((l.getD j default).fContributions.getD k default))) (HM0.out.own j hlt 5 (by decide) (Or.inr ⟨rfl, Nat.zero_le _⟩))
        have HW5 := Lib.hid (fun (W : World) (h : MarkSt F 6 l.length b off (fun k => DRule.ct (l.getD k default)) u G (fun _ _ => none) w j 5 W) => (show Own W (G j 5) (.sl 16 (l.getD j default).fContributions.length (fun k => DContribution.ct ((l.getD j default).fContributions.getD k default))) (.slice a5 (l.getD j default).fContributions.length c5) from by have h1 := h.own j hlt 5 (by decide) (Or.inr ⟨rfl, Nat.le_refl _⟩); rw [hu5] at h1; exact h1))
        have HU0 := Lib.hid (show DRule.sz (l.getD j default) = (l.getD j default).fName.size + (l.getD j default).fLeft.size + (lsz ByteArray.size) (l.getD j default).fRight + (lsz DEquation.sz) (l.getD j default).fEquations + (lsz DContribution.sz) (l.getD j default).fContributions from rfl)
        generalize l.getD j default = x at *
        have d0_0 : wr.cell? ⟨b, off + j * 6, none⟩ = some (u j 0) := HM0.out.cell j hlt 0 (by decide) (Or.inr ⟨rfl, by decide⟩)
        generalize u j 0 = v0_0 at d0_0
        have z0_0 : wr.frozen? ⟨b, off + j * 6, none⟩ = false := HM0.out.frozen _
        have d0_1 : wr.cell? ⟨b, off + j * 6 + 1, none⟩ = some (u j 1) := HM0.out.cell j hlt 1 (by decide) (Or.inr ⟨rfl, by decide⟩)
        generalize u j 1 = v0_1 at d0_1
        have z0_1 : wr.frozen? ⟨b, off + j * 6 + 1, none⟩ = false := HM0.out.frozen _
        have d0_2 : wr.cell? ⟨b, off + j * 6 + 2, none⟩ = some (.slice a2 x.fRight.length c2) := (HM0.out.cell j hlt 2 (by decide) (Or.inr ⟨rfl, by decide⟩)).trans (congrArg some hu2)
        have z0_2 : wr.frozen? ⟨b, off + j * 6 + 2, none⟩ = false := HM0.out.frozen _
        have d0_3 : wr.cell? ⟨b, off + j * 6 + 3, none⟩ = some (u j 3) := HM0.out.cell j hlt 3 (by decide) (Or.inr ⟨rfl, by decide⟩)
        generalize u j 3 = v0_3 at d0_3
        have z0_3 : wr.frozen? ⟨b, off + j * 6 + 3, none⟩ = false := HM0.out.frozen _
        have d0_4 : wr.cell? ⟨b, off + j * 6 + 4, none⟩ = some (.slice a4 x.fEquations.length c4) := (HM0.out.cell j hlt 4 (by decide) (Or.inr ⟨rfl, by decide⟩)).trans (congrArg some hu4)
        have z0_4 : wr.frozen? ⟨b, off + j * 6 + 4, none⟩ = false := HM0.out.frozen _
        have d0_5 : wr.cell? ⟨b, off + j * 6 + 5, none⟩ = some (.slice a5 x.fContributions.length c5) := (HM0.out.cell j hlt 5 (by decide) (Or.inr ⟨rfl, by decide⟩)).trans (congrArg some hu5)
        have z0_5 : wr.frozen? ⟨b, off + j * 6 + 5, none⟩ = false := HM0.out.frozen _
        have HQ0 := Lib.hid (fun (w' : World) (hb : Below wr.heap.size wr w') => (show MarkSt F 6 l.length b off (fun k => DRule.ct (l.getD k default)) u G (fun _ _ => none) w j 0 w' from HM0.out.below hb))
        go_wp2_with fail
        refine (markTextI _ (by omega) (by omega) _).mono ?_
        rintro e w1 ⟨rfl, hb1⟩
        have HM1 := Lib.hid (HQ0.out _ hb1)
        clear hb1 HM0 HQ0 d0_0 z0_0 d0_1 z0_1 d0_2 z0_2 d0_3 z0_3 d0_4 z0_4 d0_5 z0_5
        have d1_0 : w1.cell? ⟨b, off + j * 6, none⟩ = some (u j 0) := HM1.out.cell j hlt 0 (by decide) (Or.inr ⟨rfl, by decide⟩)
        generalize u j 0 = v1_0 at d1_0
        have z1_0 : w1.frozen? ⟨b, off + j * 6, none⟩ = false := HM1.out.frozen _
        have d1_1 : w1.cell? ⟨b, off + j * 6 + 1, none⟩ = some (u j 1) := HM1.out.cell j hlt 1 (by decide) (Or.inr ⟨rfl, by decide⟩)
        generalize u j 1 = v1_1 at d1_1
        have z1_1 : w1.frozen? ⟨b, off + j * 6 + 1, none⟩ = false := HM1.out.frozen _
        have d1_2 : w1.cell? ⟨b, off + j * 6 + 2, none⟩ = some (.slice a2 x.fRight.length c2) := (HM1.out.cell j hlt 2 (by decide) (Or.inr ⟨rfl, by decide⟩)).trans (congrArg some hu2)
        have z1_2 : w1.frozen? ⟨b, off + j * 6 + 2, none⟩ = false := HM1.out.frozen _
        have d1_3 : w1.cell? ⟨b, off + j * 6 + 3, none⟩ = some (u j 3) := HM1.out.cell j hlt 3 (by decide) (Or.inr ⟨rfl, by decide⟩)
        generalize u j 3 = v1_3 at d1_3
        have z1_3 : w1.frozen? ⟨b, off + j * 6 + 3, none⟩ = false := HM1.out.frozen _
        have d1_4 : w1.cell? ⟨b, off + j * 6 + 4, none⟩ = some (.slice a4 x.fEquations.length c4) := (HM1.out.cell j hlt 4 (by decide) (Or.inr ⟨rfl, by decide⟩)).trans (congrArg some hu4)
        have z1_4 : w1.frozen? ⟨b, off + j * 6 + 4, none⟩ = false := HM1.out.frozen _
        have d1_5 : w1.cell? ⟨b, off + j * 6 + 5, none⟩ = some (.slice a5 x.fContributions.length c5) := (HM1.out.cell j hlt 5 (by decide) (Or.inr ⟨rfl, by decide⟩)).trans (congrArg some hu5)
        have z1_5 : w1.frozen? ⟨b, off + j * 6 + 5, none⟩ = false := HM1.out.frozen _
        have HQ1 := Lib.hid (fun (v0 : Value) (w' : World) (hb : Below (w1.setCell ⟨b, off + j * 6, none⟩ v0).heap.size (w1.setCell ⟨b, off + j * 6, none⟩ v0) w') => (show MarkSt F 6 l.length b off (fun k => DRule.ct (l.getD k default)) u G (fun _ _ => none) w j 1 w' from (HM1.out.set HO.out hlt (by decide) v0 (fun _ h => by cases h)).below hb))
        go_wp2_with fail
        refine (markTextI _ (by omega) (by omega) _).mono ?_
        rintro e w2 ⟨rfl, hb2⟩
        have HM2 := Lib.hid (HQ1.out _ _ hb2)
        clear hb2 HM1 HQ1 d1_0 z1_0 d1_1 z1_1 d1_2 z1_2 d1_3 z1_3 d1_4 z1_4 d1_5 z1_5
        have d2_1 : w2.cell? ⟨b, off + j * 6 + 1, none⟩ = some (u j 1) := HM2.out.cell j hlt 1 (by decide) (Or.inr ⟨rfl, by decide⟩)
        generalize u j 1 = v2_1 at d2_1
        have z2_1 : w2.frozen? ⟨b, off + j * 6 + 1, none⟩ = false := HM2.out.frozen _
        have d2_2 : w2.cell? ⟨b, off + j * 6 + 2, none⟩ = some (.slice a2 x.fRight.length c2) := (HM2.out.cell j hlt 2 (by decide) (Or.inr ⟨rfl, by decide⟩)).trans (congrArg some hu2)
        have z2_2 : w2.frozen? ⟨b, off + j * 6 + 2, none⟩ = false := HM2.out.frozen _
        have d2_3 : w2.cell? ⟨b, off + j * 6 + 3, none⟩ = some (u j 3) := HM2.out.cell j hlt 3 (by decide) (Or.inr ⟨rfl, by decide⟩)
        generalize u j 3 = v2_3 at d2_3
        have z2_3 : w2.frozen? ⟨b, off + j * 6 + 3, none⟩ = false := HM2.out.frozen _
        have d2_4 : w2.cell? ⟨b, off + j * 6 + 4, none⟩ = some (.slice a4 x.fEquations.length c4) := (HM2.out.cell j hlt 4 (by decide) (Or.inr ⟨rfl, by decide⟩)).trans (congrArg some hu4)
        have z2_4 : w2.frozen? ⟨b, off + j * 6 + 4, none⟩ = false := HM2.out.frozen _
        have d2_5 : w2.cell? ⟨b, off + j * 6 + 5, none⟩ = some (.slice a5 x.fContributions.length c5) := (HM2.out.cell j hlt 5 (by decide) (Or.inr ⟨rfl, by decide⟩)).trans (congrArg some hu5)
        have z2_5 : w2.frozen? ⟨b, off + j * 6 + 5, none⟩ = false := HM2.out.frozen _
        have HP2 := Lib.hid (fun (v1 : Value) => HW2.out (w2.setCell ⟨b, off + j * 6 + 1, none⟩ v1) (HM2.out.set HO.out hlt (by decide) v1 (fun _ h => by cases h)))
        have HQ2 := Lib.hid (fun (v1 : Value) (w' : World) (hw : WritesF (G j 2) (w2.setCell ⟨b, off + j * 6 + 1, none⟩ v1) w') => (show MarkSt F 6 l.length b off (fun k => DRule.ct (l.getD k default)) u G (fun _ _ => none) w j 3 w' from (HM2.out.set HO.out hlt (by decide) v1 (fun _ h => by cases h)).call HO.out hlt (by decide) rfl hw))
        have hn2 := Lib.hid (show lsz ByteArray.size x.fRight ≤ 1048576 from (by have h1 := hsu.out; have h2 := hle2.out; have h3_0 := HU0.out; omega))
        go_wp2_with fail
        refine (wmark_StringS x.fRight hn2.out _ (by omega) (by have h1 := hsu.out; have h2 := hle2.out; have h3_0 := HU0.out; omega) _ (HP2.out _)).mono ?_
        rintro e w3 ⟨k3, rfl, hka3, hkb3, hw3⟩
        have HM3 := Lib.hid (HQ2.out _ _ hw3)
        have hkz3 : 1 ≤ k3 ∧ k3 ≤ 4611686018427387904 := by have h1 := hsu.out; have h2 := hle2.out; have h3_0 := HU0.out; omega
        clear hw3 HM2 HP2 HQ2 d2_1 z2_1 d2_2 z2_2 d2_3 z2_3 d2_4 z2_4 d2_5 z2_5
        have d3_3 : w3.cell? ⟨b, off + j * 6 + 3, none⟩ = some (u j 3) := HM3.out.cell j hlt 3 (by decide) (Or.inr ⟨rfl, by decide⟩)
        generalize u j 3 = v3_3 at d3_3
        have z3_3 : w3.frozen? ⟨b, off + j * 6 + 3, none⟩ = false := HM3.out.frozen _
        have d3_4 : w3.cell? ⟨b, off + j * 6 + 4, none⟩ = some (.slice a4 x.fEquations.length c4) := (HM3.out.cell j hlt 4 (by decide) (Or.inr ⟨rfl, by decide⟩)).trans (congrArg some hu4)
        have z3_4 : w3.frozen? ⟨b, off + j * 6 + 4, none⟩ = false := HM3.out.frozen _
        have d3_5 : w3.cell? ⟨b, off + j * 6 + 5, none⟩ = some (.slice a5 x.fContributions.length c5) := (HM3.out.cell j hlt 5 (by decide) (Or.inr ⟨rfl, by decide⟩)).trans (congrArg some hu5)
        have z3_5 : w3.frozen? ⟨b, off + j * 6 + 5, none⟩ = false := HM3.out.frozen _
        have HP3 := Lib.hid (fun (v3 : Value) => HW4.out (w3.setCell ⟨b, off + j * 6 + 3, none⟩ v3) (HM3.out.set HO.out hlt (by decide) v3 (fun _ h => by cases h)))
        have HQ3 := Lib.hid (fun (v3 : Value) (w' : World) (hw : WritesF (G j 4) (w3.setCell ⟨b, off + j * 6 + 3, none⟩ v3) w') => (show MarkSt F 6 l.length b off (fun k => DRule.ct (l.getD k default)) u G (fun _ _ => none) w j 5 w' from (HM3.out.set HO.out hlt (by decide) v3 (fun _ h => by cases h)).call HO.out hlt (by decide) rfl hw))
        have hn3 := Lib.hid (show lsz DEquation.sz x.fEquations ≤ 1048576 from (by have h1 := hsu.out; have h2 := hle2.out; have h3_0 := HU0.out; omega))
        go_wp2_with fail
        refine (wmark_EquationS x.fEquations hn3.out _ (by omega) (by have h1 := hsu.out; have h2 := hle2.out; have h3_0 := HU0.out; omega) _ (HP3.out _)).mono ?_
        rintro e w4 ⟨k4, rfl, hka4, hkb4, hw4⟩
        have HM4 := Lib.hid (HQ3.out _ _ hw4)
        have hkz4 : 1 ≤ k4 ∧ k4 ≤ 4611686018427387904 := by have h1 := hsu.out; have h2 := hle2.out; have h3_0 := HU0.out; omega
        clear hw4 HM3 HP3 HQ3 d3_3 z3_3 d3_4 z3_4 d3_5 z3_5
        have d4_5 : w4.cell? ⟨b, off + j * 6 + 5, none⟩ = some (.slice a5 x.fContributions.length c5) := (HM4.out.cell j hlt 5 (by decide) (Or.inr ⟨rfl, by decide⟩)).trans (congrArg some hu5)
        have z4_5 : w4.frozen? ⟨b, off + j * 6 + 5, none⟩ = false := HM4.out.frozen _
        have HP4 := Lib.hid (HW5.out w4 HM4.out)
        have HQ4 := Lib.hid (fun (w' : World) (hw : WritesF (G j 5) w4 w') => (show MarkSt F 6 l.length b off (fun k => DRule.ct (l.getD k default)) u G (fun _ _ => none) w j 6 w' from HM4.out.call HO.out hlt (by decide) rfl hw))
        have hn4 := Lib.hid (show lsz DContribution.sz x.fContributions ≤ 1048576 from (by have h1 := hsu.out; have h2 := hle2.out; have h3_0 := HU0.out; omega))
        go_wp2_with fail
        refine (wmark_ContributionS x.fContributions hn4.out _ (by omega) (by have h1 := hsu.out; have h2 := hle2.out; have h3_0 := HU0.out; omega) _ (HP4.out)).mono ?_
        rintro e w5 ⟨k5, rfl, hka5, hkb5, hw5⟩
        have HM5 := Lib.hid (HQ4.out _ hw5)
        have hkz5 : 1 ≤ k5 ∧ k5 ≤ 4611686018427387904 := by have h1 := hsu.out; have h2 := hle2.out; have h3_0 := HU0.out; omega
        clear hw5 HM4 HP4 HQ4 d4_5 z4_5
        have HNX := Lib.hid ((show MarkSt F 6 l.length b off (fun k => DRule.ct (l.getD k default)) u G (fun _ _ => none) w (j + 1) 0 w5 from HM5.out.next rfl))
        go_wp2
        go_roundw
        case rel =>
          have h1 := hsu.out
          have h2 := hle2.out
          have h3_0 := HU0.out
          refine ⟨j + 1, _, by omega, by go_num, rfl, by omega, by rw [h1]; omega, HNX.out⟩
        case measure => simp [intOf]; omega
      · obtain rfl : j = l.length := by omega
        go_wp2
        go_ret
        exact ⟨_, rfl, hz0, by have h1 := psz_le DRule.sz l l.length; omega, HM0.out.writes⟩

set_option maxHeartbeats 3200000 in
set_option maxRecDepth 100000 in
theorem wmark_Rule {F : Nat → Prop} {a2 : Option Addr} {c2 : Nat} {a4 : Option Addr} {c4 : Nat} {a5 : Option Addr} {c5 : Nat} (x : DRule) (hsz : x.sz ≤ 1048576) (k : Int) (hk0 : 1 ≤ k) (hk : k + 16 * (x.sz : Nat) ≤ 4611686018427387904) (w : World) (hF : ∀ y, F y → y < w.heap.size) (ho : OwnR w F 6 x.ct (fun j => [.string x.fName, .string x.fLeft, .slice a2 x.fRight.length c2, .bool x.fLiteral, .slice a4 x.fEquations.length c4, .slice a5 x.fContributions.length c5].getD j .nilFunc)) :
    Calls Try.prog 14 #[.agg #[.string x.fName, .string x.fLeft, .slice a2 x.fRight.length c2, .bool x.fLiteral, .slice a4 x.fEquations.length c4, .slice a5 x.fContributions.length c5], .int .i64 k] w fun e w' => ∃ k' : Int, e = .returned (.int .i64 k') ∧ k ≤ k' ∧ k' ≤ k + 16 * (x.sz : Nat) ∧ WritesF F w w' := by
  obtain ⟨G, g1, g2, g3⟩ := ho
  have HB := Lib.hid ((Below.refl w.heap.size w).alloc (Nat.le_refl _) (.cells #[.string x.fName, .string x.fLeft, .slice a2 x.fRight.length c2, .bool x.fLiteral, .slice a4 x.fEquations.length c4, .slice a5 x.fContributions.length c5] 43))
  have HSZ := Lib.hid hsz
  have HO2 := Lib.hid (show Own w (G 2) (.sl 1 x.fRight.length (fun k => ictS (x.fRight.getD k default))) (.slice a2 x.fRight.length c2) from g1 2 (by decide))
  have HO4 := Lib.hid (show Own w (G 4) (.sl 9 x.fEquations.length (fun k => DEquation.ct (x.fEquations.getD k default))) (.slice a4 x.fEquations.length c4) from g1 4 (by decide))
  have HO5 := Lib.hid (show Own w (G 5) (.sl 16 x.fContributions.length (fun k => DContribution.ct (x.fContributions.getD k default))) (.slice a5 x.fContributions.length c5) from g1 5 (by decide))
  have HK := Lib.hid (fun j hj x hx => hF x (g2 j hj x hx))
  have HG2 := Lib.hid g2
  have HG3 := Lib.hid g3
  clear g1 g2 g3 hsz
  unfold DRule.sz at HSZ hk ⊢
  go_enter Try.func14, Try.ntmps14
  go_wp2_with fail
  refine (wmark_StringS _ (by have h := HSZ.out; omega) _ (by omega) (by omega) _ (HO2.out.kept (Kept.of_below HB.out (HK.out 2 (by decide))))).mono ?_
  rintro e w1 ⟨k1, rfl, hka1, hkb1, hw1⟩
  have hkz1 : 1 ≤ k1 ∧ k1 ≤ 4611686018427387904 := by have h := HSZ.out; omega
  have HW1 := Lib.hid ((hw1.sub (HG2.out 2 (by decide))).of_below HB.out)
  have HO4_1 := Lib.hid (HO4.out.kept ((Kept.of_below HB.out (HK.out 4 (by decide))).trans (hw1.kept (fun y hy hf => absurd (HG3.out 4 (by decide) 2 (by decide) y hy hf) (by decide)))))
  have HO5_1 := Lib.hid (HO5.out.kept ((Kept.of_below HB.out (HK.out 5 (by decide))).trans (hw1.kept (fun y hy hf => absurd (HG3.out 5 (by decide) 2 (by decide) y hy hf) (by decide)))))
  have x1_4 : w1.cell? ⟨w.heap.size, 4, none⟩ = some (.slice a4 x.fEquations.length c4) := (World.cell?_of_block (a := ⟨w.heap.size, 4, none⟩) (hw1.block w.heap.size (by simp) (fun hf => absurd (HK.out 2 (by decide) _ hf) (Nat.lt_irrefl _)))).trans (by go_simp)
  have x1_5 : w1.cell? ⟨w.heap.size, 5, none⟩ = some (.slice a5 x.fContributions.length c5) := (World.cell?_of_block (a := ⟨w.heap.size, 5, none⟩) (hw1.block w.heap.size (by simp) (fun hf => absurd (HK.out 2 (by decide) _ hf) (Nat.lt_irrefl _)))).trans (by go_simp)
  have SZ1 := Lib.hid (show (w.alloc (.cells #[.string x.fName, .string x.fLeft, .slice a2 x.fRight.length c2, .bool x.fLiteral, .slice a4 x.fEquations.length c4, .slice a5 x.fContributions.length c5] 43)).heap.size ≤ w1.heap.size from hw1.size)
  clear hw1
  go_wp2_with fail
  refine (wmark_EquationS _ (by have h := HSZ.out; omega) _ (by omega) (by omega) _ (HO4_1.out)).mono ?_
  rintro e w2 ⟨k2, rfl, hka2, hkb2, hw2⟩
  have hkz2 : 1 ≤ k2 ∧ k2 ≤ 4611686018427387904 := by have h := HSZ.out; omega
  have HW2 := Lib.hid (HW1.out.trans (hw2.sub (HG2.out 4 (by decide))))
  have HO5_2 := Lib.hid (HO5_1.out.kept (hw2.kept (fun y hy hf => absurd (HG3.out 5 (by decide) 4 (by decide) y hy hf) (by decide))))
  have x2_5 : w2.cell? ⟨w.heap.size, 5, none⟩ = some (.slice a5 x.fContributions.length c5) := (World.cell?_of_block (a := ⟨w.heap.size, 5, none⟩) (hw2.block w.heap.size (Nat.lt_of_lt_of_le (by simp) (SZ1.out)) (fun hf => absurd (HK.out 4 (by decide) _ hf) (Nat.lt_irrefl _)))).trans x1_5
  have SZ2 := Lib.hid (Nat.le_trans SZ1.out hw2.size)
  clear hw2
  go_wp2_with fail
  refine (wmark_ContributionS _ (by have h := HSZ.out; omega) _ (by omega) (by omega) _ (HO5_2.out)).mono ?_
  rintro e w3 ⟨k3, rfl, hka3, hkb3, hw3⟩
  have hkz3 : 1 ≤ k3 ∧ k3 ≤ 4611686018427387904 := by have h := HSZ.out; omega
  have HW3 := Lib.hid (HW2.out.trans (hw3.sub (HG2.out 5 (by decide))))
  clear hw3
  go_wp2
  go_ret
  exact ⟨_, rfl, by omega, by have h := HSZ.out; omega, HW3.out⟩
end Go.Proofs.Yticchgfhmfjknaa
