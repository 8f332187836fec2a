/-
  The marks of Entry.
-/
import Derived.Test.YthgpompoionfoaaTEntry
import Derived.Test.YthgpompoionfoaaMark
import Derived.Test.YthgpompoionfoaaMkI
import Derived.Test.YthgpompoionfoaaMkReading
import Derived.WalkSpells
import Derived.WalkSmall
import Derived.WalkLawsBesides
import Derived.SliceStrings
import Derived.Deep.QuietTactic
import Derived.Deep.RegionWith
import Derived.BigQuiet
import Derived.Outline
import Derived.Laws.Rows
namespace Go.Proofs.Ythgpompoionfoaa
open Go.ChangeShapes Go.WideShapes Go.ChangeAt Go.RowKit Go.Deep

set_option maxHeartbeats 3200000 in
set_option maxRecDepth 100000 in
theorem wmark_EntryS {F : Nat → Prop} {a : Option Addr} {cap : Nat} (l : List DEntry) (hn : lsz DEntry.sz l ≤ 1048576) (k : Int) (hk0 : 1 ≤ k) (hk : k + 16 * (lsz DEntry.sz l : Nat) ≤ 4611686018427387904) (w : World) (ho : Own w F (.sl 9 l.length (fun k => DEntry.ct (l.getD k default))) (.slice a l.length cap)) :
    Calls Try.prog 27 #[.slice a l.length cap, .int .i64 k] w fun e w' => ∃ k' : Int, e = .returned (.int .i64 k') ∧ k ≤ k' ∧ k' ≤ k + 16 * (lsz DEntry.sz l : Nat) ∧ WritesF F w w' := by
  rcases mark_start (fun _ _ => none) ho with h0 | ⟨b, off, u, G, rfl, hO, hM⟩
  · have HL := Lib.hid h0
    clear ho hn
    generalize l.length = n at *
    obtain rfl : n = 0 := HL.out
    generalize lsz DEntry.sz l = Z at *
    go_enter Try.func27, Try.ntmps27
    go_wp2
    go_loop [1, 5] (fun q i => q = .int .i64 k ∧ i = .int .i64 0) (fun _ _ => 0)
    case atStart => exact ⟨rfl, rfl⟩
    case round =>
      obtain ⟨rfl, rfl⟩ := hrel
      go_wp2
      go_ret
      exact ⟨_, rfl, Int.le_refl _, by omega, WritesF.refl _ _⟩
  · have HO := Lib.hid hO
    have HMS := Lib.hid hM
    clear ho hO hM
    have hlen := lsz_pos DEntry.sz l
    go_enter Try.func27, Try.ntmps27
    go_wp2
    go_loopw [1, 5] (fun q i wr => ∃ (j : Nat) (z : Int), j ≤ l.length ∧ i = .int .i64 (j : Int) ∧ q = .int .i64 z ∧ k ≤ z ∧ z ≤ k + 16 * ((j + psz DEntry.sz l j : Nat) : Int) ∧ MarkSt F 9 l.length b off (fun k => DEntry.ct (l.getD k default)) u G (fun _ _ => none) w j 0 wr) (fun _ i _ => l.length - (intOf i).toNat)
    case atStart => exact ⟨0, k, Nat.zero_le _, rfl, rfl, Int.le_refl _, by omega, HMS.out⟩
    case round =>
      clear HMS
      obtain ⟨j, z, hj, rfl, rfl, hz0, hz1, hm⟩ := hrel
      have HM0 := Lib.hid hm
      clear hm
      by_cases hlt : j < l.length
      · skip
        have hsu := Lib.hid (psz_succ DEntry.sz l j hlt)
        have hle2 := Lib.hid (psz_le DEntry.sz l (j + 1))
        have hzb : 1 ≤ z ∧ z ≤ 4611686018527387904 := by have h1 := hsu.out; have h2 := hle2.out; omega
        obtain ⟨a6, c6, hu6, _⟩ := own_sl (n := 1) (len := (l.getD j default).fIds.length) (f := (fun k => ictI ((l.getD j default).fIds.getD k default))) (HM0.out.own j hlt 6 (by decide) (Or.inr ⟨rfl, Nat.zero_le _⟩))
        have HW6 := Lib.hid (fun (W : World) (h : MarkSt F 9 l.length b off (fun k => DEntry.ct (l.getD k default)) u G (fun _ _ => none) w j 6 W) => (show Own W (G j 6) (.sl 1 (l.getD j default).fIds.length (fun k => ictI ((l.getD j default).fIds.getD k default))) (.slice a6 (l.getD j default).fIds.length c6) from by have h1 := h.own j hlt 6 (by decide) (Or.inr ⟨rfl, Nat.le_refl _⟩); rw [hu6] at h1; exact h1))
        obtain ⟨a7, c7, hu7, _⟩ := own_sl (n := 1) (len := (l.getD j default).fShape.length) (f := (fun k => ictI ((l.getD j default).fShape.getD k default))) (HM0.out.own j hlt 7 (by decide) (Or.inr ⟨rfl, Nat.zero_le _⟩))
        have HW7 := Lib.hid (fun (W : World) (h : MarkSt F 9 l.length b off (fun k => DEntry.ct (l.getD k default)) u G (fun _ _ => none) w j 7 W) => (show Own W (G j 7) (.sl 1 (l.getD j default).fShape.length (fun k => ictI ((l.getD j default).fShape.getD k default))) (.slice a7 (l.getD j default).fShape.length c7) from by have h1 := h.own j hlt 7 (by decide) (Or.inr ⟨rfl, Nat.le_refl _⟩); rw [hu7] at h1; exact h1))
        obtain ⟨a8, c8, hu8, _⟩ := own_sl (n := 4) (len := (l.getD j default).fReads.length) (f := (fun k => DReading.ct ((l.getD j default).fReads.getD k default))) (HM0.out.own j hlt 8 (by decide) (Or.inr ⟨rfl, Nat.zero_le _⟩))
        have HW8 := Lib.hid (fun (W : World) (h : MarkSt F 9 l.length b off (fun k => DEntry.ct (l.getD k default)) u G (fun _ _ => none) w j 8 W) => (show Own W (G j 8) (.sl 4 (l.getD j default).fReads.length (fun k => DReading.ct ((l.getD j default).fReads.getD k default))) (.slice a8 (l.getD j default).fReads.length c8) from by have h1 := h.own j hlt 8 (by decide) (Or.inr ⟨rfl, Nat.le_refl _⟩); rw [hu8] at h1; exact h1))
        have HU0 := Lib.hid (show DEntry.sz (l.getD j default) = DInstance.sz (l.getD j default).fAt + (l.getD j default).fRule.size + (lsz (fun _ => 0)) (l.getD j default).fIds + (lsz (fun _ => 0)) (l.getD j default).fShape + (lsz DReading.sz) (l.getD j default).fReads from rfl)
        have HU1 := Lib.hid (show DInstance.sz (l.getD j default).fAt = (l.getD j default).fAt.fName.size from rfl)
        generalize l.getD j default = x at *
        have d0_0 : wr.cell? ⟨b, off + j * 9, none⟩ = some (u j 0) := HM0.out.cell j hlt 0 (by decide) (Or.inr ⟨rfl, by decide⟩)
        generalize u j 0 = v0_0 at d0_0
        have z0_0 : wr.frozen? ⟨b, off + j * 9, none⟩ = false := HM0.out.frozen _
        have d0_1 : wr.cell? ⟨b, off + j * 9 + 1, none⟩ = some (u j 1) := HM0.out.cell j hlt 1 (by decide) (Or.inr ⟨rfl, by decide⟩)
        generalize u j 1 = v0_1 at d0_1
        have z0_1 : wr.frozen? ⟨b, off + j * 9 + 1, none⟩ = false := HM0.out.frozen _
        have d0_2 : wr.cell? ⟨b, off + j * 9 + 2, none⟩ = some (u j 2) := HM0.out.cell j hlt 2 (by decide) (Or.inr ⟨rfl, by decide⟩)
        generalize u j 2 = v0_2 at d0_2
        have z0_2 : wr.frozen? ⟨b, off + j * 9 + 2, none⟩ = false := HM0.out.frozen _
        have d0_3 : wr.cell? ⟨b, off + j * 9 + 3, none⟩ = some (u j 3) := HM0.out.cell j hlt 3 (by decide) (Or.inr ⟨rfl, by decide⟩)
        generalize u j 3 = v0_3 at d0_3
        have z0_3 : wr.frozen? ⟨b, off + j * 9 + 3, none⟩ = false := HM0.out.frozen _
        have d0_4 : wr.cell? ⟨b, off + j * 9 + 4, none⟩ = some (u j 4) := HM0.out.cell j hlt 4 (by decide) (Or.inr ⟨rfl, by decide⟩)
        generalize u j 4 = v0_4 at d0_4
        have z0_4 : wr.frozen? ⟨b, off + j * 9 + 4, none⟩ = false := HM0.out.frozen _
        have d0_5 : wr.cell? ⟨b, off + j * 9 + 5, none⟩ = some (u j 5) := HM0.out.cell j hlt 5 (by decide) (Or.inr ⟨rfl, by decide⟩)
        generalize u j 5 = v0_5 at d0_5
        have z0_5 : wr.frozen? ⟨b, off + j * 9 + 5, none⟩ = false := HM0.out.frozen _
        have d0_6 : wr.cell? ⟨b, off + j * 9 + 6, none⟩ = some (.slice a6 x.fIds.length c6) := (HM0.out.cell j hlt 6 (by decide) (Or.inr ⟨rfl, by decide⟩)).trans (congrArg some hu6)
        have z0_6 : wr.frozen? ⟨b, off + j * 9 + 6, none⟩ = false := HM0.out.frozen _
        have d0_7 : wr.cell? ⟨b, off + j * 9 + 7, none⟩ = some (.slice a7 x.fShape.length c7) := (HM0.out.cell j hlt 7 (by decide) (Or.inr ⟨rfl, by decide⟩)).trans (congrArg some hu7)
        have z0_7 : wr.frozen? ⟨b, off + j * 9 + 7, none⟩ = false := HM0.out.frozen _
        have d0_8 : wr.cell? ⟨b, off + j * 9 + 8, none⟩ = some (.slice a8 x.fReads.length c8) := (HM0.out.cell j hlt 8 (by decide) (Or.inr ⟨rfl, by decide⟩)).trans (congrArg some hu8)
        have z0_8 : wr.frozen? ⟨b, off + j * 9 + 8, none⟩ = false := HM0.out.frozen _
        have HQ0 := Lib.hid (fun (v0 : Value) (w' : World) (hb : Below (wr.setCell ⟨b, off + j * 9, none⟩ v0).heap.size (wr.setCell ⟨b, off + j * 9, none⟩ v0) w') => (show MarkSt F 9 l.length b off (fun k => DEntry.ct (l.getD k default)) u G (fun _ _ => none) w j 1 w' from (HM0.out.set HO.out hlt (by decide) v0 (fun _ h => by cases h)).below hb))
        go_wp2_with fail
        refine (markTextI _ (by omega) (by omega) _).mono ?_
        rintro e w1 ⟨rfl, hb1⟩
        have HM1 := Lib.hid (HQ0.out _ _ hb1)
        clear hb1 HM0 HQ0 d0_0 z0_0 d0_1 z0_1 d0_2 z0_2 d0_3 z0_3 d0_4 z0_4 d0_5 z0_5 d0_6 z0_6 d0_7 z0_7 d0_8 z0_8
        have d1_1 : w1.cell? ⟨b, off + j * 9 + 1, none⟩ = some (u j 1) := HM1.out.cell j hlt 1 (by decide) (Or.inr ⟨rfl, by decide⟩)
        generalize u j 1 = v1_1 at d1_1
        have z1_1 : w1.frozen? ⟨b, off + j * 9 + 1, none⟩ = false := HM1.out.frozen _
        have d1_2 : w1.cell? ⟨b, off + j * 9 + 2, none⟩ = some (u j 2) := HM1.out.cell j hlt 2 (by decide) (Or.inr ⟨rfl, by decide⟩)
        generalize u j 2 = v1_2 at d1_2
        have z1_2 : w1.frozen? ⟨b, off + j * 9 + 2, none⟩ = false := HM1.out.frozen _
        have d1_3 : w1.cell? ⟨b, off + j * 9 + 3, none⟩ = some (u j 3) := HM1.out.cell j hlt 3 (by decide) (Or.inr ⟨rfl, by decide⟩)
        generalize u j 3 = v1_3 at d1_3
        have z1_3 : w1.frozen? ⟨b, off + j * 9 + 3, none⟩ = false := HM1.out.frozen _
        have d1_4 : w1.cell? ⟨b, off + j * 9 + 4, none⟩ = some (u j 4) := HM1.out.cell j hlt 4 (by decide) (Or.inr ⟨rfl, by decide⟩)
        generalize u j 4 = v1_4 at d1_4
        have z1_4 : w1.frozen? ⟨b, off + j * 9 + 4, none⟩ = false := HM1.out.frozen _
        have d1_5 : w1.cell? ⟨b, off + j * 9 + 5, none⟩ = some (u j 5) := HM1.out.cell j hlt 5 (by decide) (Or.inr ⟨rfl, by decide⟩)
        generalize u j 5 = v1_5 at d1_5
        have z1_5 : w1.frozen? ⟨b, off + j * 9 + 5, none⟩ = false := HM1.out.frozen _
        have d1_6 : w1.cell? ⟨b, off + j * 9 + 6, none⟩ = some (.slice a6 x.fIds.length c6) := (HM1.out.cell j hlt 6 (by decide) (Or.inr ⟨rfl, by decide⟩)).trans (congrArg some hu6)
        have z1_6 : w1.frozen? ⟨b, off + j * 9 + 6, none⟩ = false := HM1.out.frozen _
        have d1_7 : w1.cell? ⟨b, off + j * 9 + 7, none⟩ = some (.slice a7 x.fShape.length c7) := (HM1.out.cell j hlt 7 (by decide) (Or.inr ⟨rfl, by decide⟩)).trans (congrArg some hu7)
        have z1_7 : w1.frozen? ⟨b, off + j * 9 + 7, none⟩ = false := HM1.out.frozen _
        have d1_8 : w1.cell? ⟨b, off + j * 9 + 8, none⟩ = some (.slice a8 x.fReads.length c8) := (HM1.out.cell j hlt 8 (by decide) (Or.inr ⟨rfl, by decide⟩)).trans (congrArg some hu8)
        have z1_8 : w1.frozen? ⟨b, off + j * 9 + 8, none⟩ = false := HM1.out.frozen _
        have HQ1 := Lib.hid (fun (v1 : Value) (v2 : Value) (v3 : Value) (v4 : Value) (w' : World) (hb : Below ((((w1.setCell ⟨b, off + j * 9 + 1, none⟩ v1).setCell ⟨b, off + j * 9 + 2, none⟩ v2).setCell ⟨b, off + j * 9 + 3, none⟩ v3).setCell ⟨b, off + j * 9 + 4, none⟩ v4).heap.size ((((w1.setCell ⟨b, off + j * 9 + 1, none⟩ v1).setCell ⟨b, off + j * 9 + 2, none⟩ v2).setCell ⟨b, off + j * 9 + 3, none⟩ v3).setCell ⟨b, off + j * 9 + 4, none⟩ v4) w') => (show MarkSt F 9 l.length b off (fun k => DEntry.ct (l.getD k default)) u G (fun _ _ => none) w j 5 w' from ((((HM1.out.set HO.out hlt (by decide) v1 (fun _ h => by cases h)).set HO.out hlt (by decide) v2 (fun _ h => by cases h)).set HO.out hlt (by decide) v3 (fun _ h => by cases h)).set HO.out hlt (by decide) v4 (fun _ h => by cases h)).below hb))
        go_wp2_with fail
        refine (markTextI _ (by omega) (by omega) _).mono ?_
        rintro e w2 ⟨rfl, hb2⟩
        have HM2 := Lib.hid (HQ1.out _ _ _ _ _ hb2)
        clear hb2 HM1 HQ1 d1_1 z1_1 d1_2 z1_2 d1_3 z1_3 d1_4 z1_4 d1_5 z1_5 d1_6 z1_6 d1_7 z1_7 d1_8 z1_8
        have d2_5 : w2.cell? ⟨b, off + j * 9 + 5, none⟩ = some (u j 5) := HM2.out.cell j hlt 5 (by decide) (Or.inr ⟨rfl, by decide⟩)
        generalize u j 5 = v2_5 at d2_5
        have z2_5 : w2.frozen? ⟨b, off + j * 9 + 5, none⟩ = false := HM2.out.frozen _
        have d2_6 : w2.cell? ⟨b, off + j * 9 + 6, none⟩ = some (.slice a6 x.fIds.length c6) := (HM2.out.cell j hlt 6 (by decide) (Or.inr ⟨rfl, by decide⟩)).trans (congrArg some hu6)
        have z2_6 : w2.frozen? ⟨b, off + j * 9 + 6, none⟩ = false := HM2.out.frozen _
        have d2_7 : w2.cell? ⟨b, off + j * 9 + 7, none⟩ = some (.slice a7 x.fShape.length c7) := (HM2.out.cell j hlt 7 (by decide) (Or.inr ⟨rfl, by decide⟩)).trans (congrArg some hu7)
        have z2_7 : w2.frozen? ⟨b, off + j * 9 + 7, none⟩ = false := HM2.out.frozen _
        have d2_8 : w2.cell? ⟨b, off + j * 9 + 8, none⟩ = some (.slice a8 x.fReads.length c8) := (HM2.out.cell j hlt 8 (by decide) (Or.inr ⟨rfl, by decide⟩)).trans (congrArg some hu8)
        have z2_8 : w2.frozen? ⟨b, off + j * 9 + 8, none⟩ = false := HM2.out.frozen _
        have HP2 := Lib.hid (fun (v5 : Value) => HW6.out (w2.setCell ⟨b, off + j * 9 + 5, none⟩ v5) (HM2.out.set HO.out hlt (by decide) v5 (fun _ h => by cases h)))
        have HQ2 := Lib.hid (fun (v5 : Value) (w' : World) (hw : WritesF (G j 6) (w2.setCell ⟨b, off + j * 9 + 5, none⟩ v5) w') => (show MarkSt F 9 l.length b off (fun k => DEntry.ct (l.getD k default)) u G (fun _ _ => none) w j 7 w' from (HM2.out.set HO.out hlt (by decide) v5 (fun _ h => by cases h)).call HO.out hlt (by decide) rfl hw))
        have hn2 := Lib.hid (show lsz (fun _ => 0) x.fIds ≤ 1048576 from (by have h1 := hsu.out; have h2 := hle2.out; have h3_0 := HU0.out; have h3_1 := HU1.out; omega))
        go_wp2_with fail
        refine (wmark_IntS x.fIds hn2.out _ (by omega) (by have h1 := hsu.out; have h2 := hle2.out; have h3_0 := HU0.out; have h3_1 := HU1.out; omega) _ (HP2.out _)).mono ?_
        rintro e w3 ⟨k3, rfl, hka3, hkb3, hw3⟩
        have HM3 := Lib.hid (HQ2.out _ _ hw3)
        have hkz3 : 1 ≤ k3 ∧ k3 ≤ 4611686018427387904 := by have h1 := hsu.out; have h2 := hle2.out; have h3_0 := HU0.out; have h3_1 := HU1.out; omega
        clear hw3 HM2 HP2 HQ2 d2_5 z2_5 d2_6 z2_6 d2_7 z2_7 d2_8 z2_8
        have d3_7 : w3.cell? ⟨b, off + j * 9 + 7, none⟩ = some (.slice a7 x.fShape.length c7) := (HM3.out.cell j hlt 7 (by decide) (Or.inr ⟨rfl, by decide⟩)).trans (congrArg some hu7)
        have z3_7 : w3.frozen? ⟨b, off + j * 9 + 7, none⟩ = false := HM3.out.frozen _
        have d3_8 : w3.cell? ⟨b, off + j * 9 + 8, none⟩ = some (.slice a8 x.fReads.length c8) := (HM3.out.cell j hlt 8 (by decide) (Or.inr ⟨rfl, by decide⟩)).trans (congrArg some hu8)
        have z3_8 : w3.frozen? ⟨b, off + j * 9 + 8, none⟩ = false := HM3.out.frozen _
        have HP3 := Lib.hid (HW7.out w3 HM3.out)
        have HQ3 := Lib.hid (fun (w' : World) (hw : WritesF (G j 7) w3 w') => (show MarkSt F 9 l.length b off (fun k => DEntry.ct (l.getD k default)) u G (fun _ _ => none) w j 8 w' from HM3.out.call HO.out hlt (by decide) rfl hw))
        have hn3 := Lib.hid (show lsz (fun _ => 0) x.fShape ≤ 1048576 from (by have h1 := hsu.out; have h2 := hle2.out; have h3_0 := HU0.out; have h3_1 := HU1.out; omega))
        go_wp2_with fail
        refine (wmark_IntS x.fShape hn3.out _ (by omega) (by have h1 := hsu.out; have h2 := hle2.out; have h3_0 := HU0.out; have h3_1 := HU1.out; omega) _ (HP3.out)).mono ?_
        rintro e w4 ⟨k4, rfl, hka4, hkb4, hw4⟩
        have HM4 := Lib.hid (HQ3.out _ hw4)
        have hkz4 : 1 ≤ k4 ∧ k4 ≤ 4611686018427387904 := by have h1 := hsu.out; have h2 := hle2.out; have h3_0 := HU0.out; have h3_1 := HU1.out; omega
        clear hw4 HM3 HP3 HQ3 d3_7 z3_7 d3_8 z3_8
        have d4_8 : w4.cell? ⟨b, off + j * 9 + 8, none⟩ = some (.slice a8 x.fReads.length c8) := (HM4.out.cell j hlt 8 (by decide) (Or.inr ⟨rfl, by decide⟩)).trans (congrArg some hu8)
        have z4_8 : w4.frozen? ⟨b, off + j * 9 + 8, none⟩ = false := HM4.out.frozen _
        have HP4 := Lib.hid (HW8.out w4 HM4.out)
        have HQ4 := Lib.hid (fun (w' : World) (hw : WritesF (G j 8) w4 w') => (show MarkSt F 9 l.length b off (fun k => DEntry.ct (l.getD k default)) u G (fun _ _ => none) w j 9 w' from HM4.out.call HO.out hlt (by decide) rfl hw))
        have hn4 := Lib.hid (show lsz DReading.sz x.fReads ≤ 1048576 from (by have h1 := hsu.out; have h2 := hle2.out; have h3_0 := HU0.out; have h3_1 := HU1.out; omega))
        go_wp2_with fail
        refine (wmark_ReadingS x.fReads hn4.out _ (by omega) (by have h1 := hsu.out; have h2 := hle2.out; have h3_0 := HU0.out; have h3_1 := HU1.out; omega) _ (HP4.out)).mono ?_
        rintro e w5 ⟨k5, rfl, hka5, hkb5, hw5⟩
        have HM5 := Lib.hid (HQ4.out _ hw5)
        have hkz5 : 1 ≤ k5 ∧ k5 ≤ 4611686018427387904 := by have h1 := hsu.out; have h2 := hle2.out; have h3_0 := HU0.out; have h3_1 := HU1.out; omega
        clear hw5 HM4 HP4 HQ4 d4_8 z4_8
        have HNX := Lib.hid ((show MarkSt F 9 l.length b off (fun k => DEntry.ct (l.getD k default)) u G (fun _ _ => none) w (j + 1) 0 w5 from HM5.out.next rfl))
        go_wp2
        go_roundw
        case rel =>
          have h1 := hsu.out
          have h2 := hle2.out
          have h3_0 := HU0.out
          have h3_1 := HU1.out
          refine ⟨j + 1, _, by omega, by go_num, rfl, by omega, by rw [h1]; omega, HNX.out⟩
        case measure => simp [intOf]; omega
      · obtain rfl : j = l.length := by omega
        go_wp2
        go_ret
        exact ⟨_, rfl, hz0, by have h1 := psz_le DEntry.sz l l.length; omega, HM0.out.writes⟩

set_option maxHeartbeats 3200000 in
set_option maxRecDepth 100000 in
theorem wmark_Entry {F : Nat → Prop} {a6 : Option Addr} {c6 : Nat} {a7 : Option Addr} {c7 : Nat} {a8 : Option Addr} {c8 : Nat} (x : DEntry) (hsz : x.sz ≤ 1048576) (k : Int) (hk0 : 1 ≤ k) (hk : k + 16 * (x.sz : Nat) ≤ 4611686018427387904) (w : World) (hF : ∀ y, F y → y < w.heap.size) (ho : OwnR w F 9 x.ct (fun j => [.int .i64 x.fAt.fNode, .string x.fAt.fName, .int .i64 x.fValue, .int .i64 x.fOwner, .int .i64 x.fLiteral, .string x.fRule, .slice a6 x.fIds.length c6, .slice a7 x.fShape.length c7, .slice a8 x.fReads.length c8].getD j .nilFunc)) :
    Calls Try.prog 13 #[.agg #[.int .i64 x.fAt.fNode, .string x.fAt.fName, .int .i64 x.fValue, .int .i64 x.fOwner, .int .i64 x.fLiteral, .string x.fRule, .slice a6 x.fIds.length c6, .slice a7 x.fShape.length c7, .slice a8 x.fReads.length c8], .int .i64 k] w fun e w' => ∃ k' : Int, e = .returned (.int .i64 k') ∧ k ≤ k' ∧ k' ≤ k + 16 * (x.sz : Nat) ∧ WritesF F w w' := by
  obtain ⟨G, g1, g2, g3⟩ := ho
  have HB := Lib.hid ((Below.refl w.heap.size w).alloc (Nat.le_refl _) (.cells #[.int .i64 x.fAt.fNode, .string x.fAt.fName, .int .i64 x.fValue, .int .i64 x.fOwner, .int .i64 x.fLiteral, .string x.fRule, .slice a6 x.fIds.length c6, .slice a7 x.fShape.length c7, .slice a8 x.fReads.length c8] 34))
  have HSZ := Lib.hid hsz
  have HO6 := Lib.hid (show Own w (G 6) (.sl 1 x.fIds.length (fun k => ictI (x.fIds.getD k default))) (.slice a6 x.fIds.length c6) from g1 6 (by decide))
  have HO7 := Lib.hid (show Own w (G 7) (.sl 1 x.fShape.length (fun k => ictI (x.fShape.getD k default))) (.slice a7 x.fShape.length c7) from g1 7 (by decide))
  have HO8 := Lib.hid (show Own w (G 8) (.sl 4 x.fReads.length (fun k => DReading.ct (x.fReads.getD k default))) (.slice a8 x.fReads.length c8) from g1 8 (by decide))
  have HK := Lib.hid (fun j hj x hx => hF x (g2 j hj x hx))
  have HG2 := Lib.hid g2
  have HG3 := Lib.hid g3
  clear g1 g2 g3 hsz
  unfold DEntry.sz at HSZ hk ⊢
  go_enter Try.func13, Try.ntmps13
  go_wp2_with fail
  refine (wmark_IntS _ (by have h := HSZ.out; omega) _ (by omega) (by omega) _ (HO6.out.kept (Kept.of_below HB.out (HK.out 6 (by decide))))).mono ?_
  rintro e w1 ⟨k1, rfl, hka1, hkb1, hw1⟩
  have hkz1 : 1 ≤ k1 ∧ k1 ≤ 4611686018427387904 := by have h := HSZ.out; omega
  have HW1 := Lib.hid ((hw1.sub (HG2.out 6 (by decide))).of_below HB.out)
  have HO7_1 := Lib.hid (HO7.out.kept ((Kept.of_below HB.out (HK.out 7 (by decide))).trans (hw1.kept (fun y hy hf => absurd (HG3.out 7 (by decide) 6 (by decide) y hy hf) (by decide)))))
  have HO8_1 := Lib.hid (HO8.out.kept ((Kept.of_below HB.out (HK.out 8 (by decide))).trans (hw1.kept (fun y hy hf => absurd (HG3.out 8 (by decide) 6 (by decide) y hy hf) (by decide)))))
  have x1_7 : w1.cell? ⟨w.heap.size, 7, none⟩ = some (.slice a7 x.fShape.length c7) := (World.cell?_of_block (a := ⟨w.heap.size, 7, none⟩) (hw1.block w.heap.size (by simp) (fun hf => absurd (HK.out 6 (by decide) _ hf) (Nat.lt_irrefl _)))).trans (by go_simp)
  have x1_8 : w1.cell? ⟨w.heap.size, 8, none⟩ = some (.slice a8 x.fReads.length c8) := (World.cell?_of_block (a := ⟨w.heap.size, 8, none⟩) (hw1.block w.heap.size (by simp) (fun hf => absurd (HK.out 6 (by decide) _ hf) (Nat.lt_irrefl _)))).trans (by go_simp)
  have SZ1 := Lib.hid (show (w.alloc (.cells #[.int .i64 x.fAt.fNode, .string x.fAt.fName, .int .i64 x.fValue, .int .i64 x.fOwner, .int .i64 x.fLiteral, .string x.fRule, .slice a6 x.fIds.length c6, .slice a7 x.fShape.length c7, .slice a8 x.fReads.length c8] 34)).heap.size ≤ w1.heap.size from hw1.size)
  clear hw1
  go_wp2_with fail
  refine (wmark_IntS _ (by have h := HSZ.out; omega) _ (by omega) (by omega) _ (HO7_1.out)).mono ?_
  rintro e w2 ⟨k2, rfl, hka2, hkb2, hw2⟩
  have hkz2 : 1 ≤ k2 ∧ k2 ≤ 4611686018427387904 := by have h := HSZ.out; omega
  have HW2 := Lib.hid (HW1.out.trans (hw2.sub (HG2.out 7 (by decide))))
  have HO8_2 := Lib.hid (HO8_1.out.kept (hw2.kept (fun y hy hf => absurd (HG3.out 8 (by decide) 7 (by decide) y hy hf) (by decide))))
  have x2_8 : w2.cell? ⟨w.heap.size, 8, none⟩ = some (.slice a8 x.fReads.length c8) := (World.cell?_of_block (a := ⟨w.heap.size, 8, none⟩) (hw2.block w.heap.size (Nat.lt_of_lt_of_le (by simp) (SZ1.out)) (fun hf => absurd (HK.out 7 (by decide) _ hf) (Nat.lt_irrefl _)))).trans x1_8
  have SZ2 := Lib.hid (Nat.le_trans SZ1.out hw2.size)
  clear hw2
  go_wp2_with fail
  refine (wmark_ReadingS _ (by have h := HSZ.out; omega) _ (by omega) (by omega) _ (HO8_2.out)).mono ?_
  rintro e w3 ⟨k3, rfl, hka3, hkb3, hw3⟩
  have hkz3 : 1 ≤ k3 ∧ k3 ≤ 4611686018427387904 := by have h := HSZ.out; omega
  have HW3 := Lib.hid (HW2.out.trans (hw3.sub (HG2.out 8 (by decide))))
  clear hw3
  go_wp2
  go_ret
  exact ⟨_, rfl, by omega, by have h := HSZ.out; omega, HW3.out⟩
end Go.Proofs.Ythgpompoionfoaa
