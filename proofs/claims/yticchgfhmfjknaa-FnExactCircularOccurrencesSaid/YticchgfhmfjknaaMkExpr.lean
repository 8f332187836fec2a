/-
  The marks of Expr.
-/
import Derived.Test.YticchgfhmfjknaaTExpr
import Derived.Test.YticchgfhmfjknaaMark
import Derived.WalkSpells
import Derived.WalkSmall
import Derived.WalkLawsBesides
import Derived.SliceStrings
import Derived.Deep.QuietTactic
import Derived.Deep.RegionWith
import Derived.BigQuiet
import Derived.Outline
import Derived.Laws.Rows
namespace Go.Proofs.Yticchgfhmfjknaa
open Go.ChangeShapes Go.WideShapes Go.ChangeAt Go.RowKit Go.Deep

/-- The contract of the marks on the arguments of x. -/
def WkX (x : DExpr) : Prop := ∀ (F : Nat → Prop) (a : Option Addr) (cap : Nat) (_ : lsz DExpr.sz x.fArgs ≤ 1048576) (k : Int) (_ : 1 ≤ k) (_ : k + 16 * (lsz DExpr.sz x.fArgs : Nat) ≤ 4611686018427387904) (w : World) (_ : Own w F (.sl 7 x.fArgs.length (ctE x.fArgs)) (.slice a x.fArgs.length cap)), Calls Try.prog 63 #[.slice a x.fArgs.length cap, .int .i64 k] w fun e w' => ∃ k' : Int, e = .returned (.int .i64 k') ∧ k ≤ k' ∧ k' ≤ k + 16 * (lsz DExpr.sz x.fArgs : Nat) ∧ WritesF F w w'

set_option maxHeartbeats 3200000 in
set_option maxRecDepth 100000 in
theorem wmark_ExprS_of {F : Nat → Prop} {a : Option Addr} {cap : Nat} (l : List DExpr) (HE : ∀ x ∈ l, WkX x) (hn : lsz DExpr.sz l ≤ 1048576) (k : Int) (hk0 : 1 ≤ k) (hk : k + 16 * (lsz DExpr.sz l : Nat) ≤ 4611686018427387904) (w : World) (ho : Own w F (.sl 7 l.length (fun k => DExpr.ct (l.getD k default))) (.slice a l.length cap)) :
    Calls Try.prog 63 #[.slice a l.length cap, .int .i64 k] w fun e w' => ∃ k' : Int, e = .returned (.int .i64 k') ∧ k ≤ k' ∧ k' ≤ k + 16 * (lsz DExpr.sz l : Nat) ∧ WritesF F w w' := by
  have HE := Lib.hid HE
  rcases mark_start (fun _ _ => none) ho with h0 | ⟨b, off, u, G, rfl, hO, hM⟩
  · have HL := Lib.hid h0
    clear ho hn
    generalize l.length = n at *
    obtain rfl : n = 0 := HL.out
    generalize lsz DExpr.sz l = Z at *
    go_enter Try.func63, Try.ntmps63
    go_wp2
    go_loop [1, 5] (fun q i => q = .int .i64 k ∧ i = .int .i64 0) (fun _ _ => 0)
    case atStart => exact ⟨rfl, rfl⟩
    case round =>
      obtain ⟨rfl, rfl⟩ := hrel
      go_wp2
      go_ret
      exact ⟨_, rfl, Int.le_refl _, by omega, WritesF.refl _ _⟩
  · have HO := Lib.hid hO
    have HMS := Lib.hid hM
    clear ho hO hM
    have hlen := lsz_pos DExpr.sz l
    go_enter Try.func63, Try.ntmps63
    go_wp2
    go_loopw [1, 5] (fun q i wr => ∃ (j : Nat) (z : Int), j ≤ l.length ∧ i = .int .i64 (j : Int) ∧ q = .int .i64 z ∧ k ≤ z ∧ z ≤ k + 16 * ((j + psz DExpr.sz l j : Nat) : Int) ∧ MarkSt F 7 l.length b off (fun k => DExpr.ct (l.getD k default)) u G (fun _ _ => none) w j 0 wr) (fun _ i _ => l.length - (intOf i).toNat)
    case atStart => exact ⟨0, k, Nat.zero_le _, rfl, rfl, Int.le_refl _, by omega, HMS.out⟩
    case round =>
      clear HMS
      obtain ⟨j, z, hj, rfl, rfl, hz0, hz1, hm⟩ := hrel
      have HM0 := Lib.hid hm
      clear hm
      by_cases hlt : j < l.length
      · skip
        have hsu := Lib.hid (psz_succ DExpr.sz l j hlt)
        have hle2 := Lib.hid (psz_le DExpr.sz l (j + 1))
        have hzb : 1 ≤ z ∧ z ≤ 4611686018527387904 := by have h1 := hsu.out; have h2 := hle2.out; omega
        obtain ⟨a6, c6, hu6, _⟩ := own_sl (n := 7) (len := (l.getD j default).fArgs.length) (f := (ctE (l.getD j default).fArgs)) (HM0.out.own j hlt 6 (by decide) (Or.inr ⟨rfl, Nat.zero_le _⟩))
        have HW6 := Lib.hid (fun (W : World) (h : MarkSt F 7 l.length b off (fun k => DExpr.ct (l.getD k default)) u G (fun _ _ => none) w j 6 W) => (show Own W (G j 6) (.sl 7 (l.getD j default).fArgs.length (ctE (l.getD j default).fArgs)) (.slice a6 (l.getD j default).fArgs.length c6) from by have h1 := h.own j hlt 6 (by decide) (Or.inr ⟨rfl, Nat.le_refl _⟩); rw [hu6] at h1; exact h1))
        have HU0 := Lib.hid (show DExpr.sz (l.getD j default) = (l.getD j default).fSymbol.size + (l.getD j default).fName.size + (lsz DExpr.sz) (l.getD j default).fArgs from DExpr.sz_eq _)
        have HEX := Lib.hid (HE.out _ (getD_mem hlt))
        generalize l.getD j default = x at *
        have d0_0 : wr.cell? ⟨b, off + j * 7, none⟩ = some (u j 0) := HM0.out.cell j hlt 0 (by decide) (Or.inr ⟨rfl, by decide⟩)
        generalize u j 0 = v0_0 at d0_0
        have z0_0 : wr.frozen? ⟨b, off + j * 7, none⟩ = false := HM0.out.frozen _
        have d0_1 : wr.cell? ⟨b, off + j * 7 + 1, none⟩ = some (u j 1) := HM0.out.cell j hlt 1 (by decide) (Or.inr ⟨rfl, by decide⟩)
        generalize u j 1 = v0_1 at d0_1
        have z0_1 : wr.frozen? ⟨b, off + j * 7 + 1, none⟩ = false := HM0.out.frozen _
        have d0_2 : wr.cell? ⟨b, off + j * 7 + 2, none⟩ = some (u j 2) := HM0.out.cell j hlt 2 (by decide) (Or.inr ⟨rfl, by decide⟩)
        generalize u j 2 = v0_2 at d0_2
        have z0_2 : wr.frozen? ⟨b, off + j * 7 + 2, none⟩ = false := HM0.out.frozen _
        have d0_3 : wr.cell? ⟨b, off + j * 7 + 3, none⟩ = some (u j 3) := HM0.out.cell j hlt 3 (by decide) (Or.inr ⟨rfl, by decide⟩)
        generalize u j 3 = v0_3 at d0_3
        have z0_3 : wr.frozen? ⟨b, off + j * 7 + 3, none⟩ = false := HM0.out.frozen _
        have d0_4 : wr.cell? ⟨b, off + j * 7 + 4, none⟩ = some (u j 4) := HM0.out.cell j hlt 4 (by decide) (Or.inr ⟨rfl, by decide⟩)
        generalize u j 4 = v0_4 at d0_4
        have z0_4 : wr.frozen? ⟨b, off + j * 7 + 4, none⟩ = false := HM0.out.frozen _
        have d0_5 : wr.cell? ⟨b, off + j * 7 + 5, none⟩ = some (u j 5) := HM0.out.cell j hlt 5 (by decide) (Or.inr ⟨rfl, by decide⟩)
        generalize u j 5 = v0_5 at d0_5
        have z0_5 : wr.frozen? ⟨b, off + j * 7 + 5, none⟩ = false := HM0.out.frozen _
        have d0_6 : wr.cell? ⟨b, off + j * 7 + 6, none⟩ = some (.slice a6 x.fArgs.length c6) := (HM0.out.cell j hlt 6 (by decide) (Or.inr ⟨rfl, by decide⟩)).trans (congrArg some hu6)
        have z0_6 : wr.frozen? ⟨b, off + j * 7 + 6, none⟩ = false := HM0.out.frozen _
        have HQ0 := Lib.hid (fun (v0 : Value) (v1 : Value) (v2 : Value) (v3 : Value) (w' : World) (hb : Below ((((wr.setCell ⟨b, off + j * 7, none⟩ v0).setCell ⟨b, off + j * 7 + 1, none⟩ v1).setCell ⟨b, off + j * 7 + 2, none⟩ v2).setCell ⟨b, off + j * 7 + 3, none⟩ v3).heap.size ((((wr.setCell ⟨b, off + j * 7, none⟩ v0).setCell ⟨b, off + j * 7 + 1, none⟩ v1).setCell ⟨b, off + j * 7 + 2, none⟩ v2).setCell ⟨b, off + j * 7 + 3, none⟩ v3) w') => (show MarkSt F 7 l.length b off (fun k => DExpr.ct (l.getD k default)) u G (fun _ _ => none) w j 4 w' from ((((HM0.out.set HO.out hlt (by decide) v0 (fun _ h => by cases h)).set HO.out hlt (by decide) v1 (fun _ h => by cases h)).set HO.out hlt (by decide) v2 (fun _ h => by cases h)).set HO.out hlt (by decide) v3 (fun _ h => by cases h)).below hb))
        go_wp2_with fail
        refine (markTextI _ (by omega) (by omega) _).mono ?_
        rintro e w1 ⟨rfl, hb1⟩
        have HM1 := Lib.hid (HQ0.out _ _ _ _ _ hb1)
        clear hb1 HM0 HQ0 d0_0 z0_0 d0_1 z0_1 d0_2 z0_2 d0_3 z0_3 d0_4 z0_4 d0_5 z0_5 d0_6 z0_6
        have d1_4 : w1.cell? ⟨b, off + j * 7 + 4, none⟩ = some (u j 4) := HM1.out.cell j hlt 4 (by decide) (Or.inr ⟨rfl, by decide⟩)
        generalize u j 4 = v1_4 at d1_4
        have z1_4 : w1.frozen? ⟨b, off + j * 7 + 4, none⟩ = false := HM1.out.frozen _
        have d1_5 : w1.cell? ⟨b, off + j * 7 + 5, none⟩ = some (u j 5) := HM1.out.cell j hlt 5 (by decide) (Or.inr ⟨rfl, by decide⟩)
        generalize u j 5 = v1_5 at d1_5
        have z1_5 : w1.frozen? ⟨b, off + j * 7 + 5, none⟩ = false := HM1.out.frozen _
        have d1_6 : w1.cell? ⟨b, off + j * 7 + 6, none⟩ = some (.slice a6 x.fArgs.length c6) := (HM1.out.cell j hlt 6 (by decide) (Or.inr ⟨rfl, by decide⟩)).trans (congrArg some hu6)
        have z1_6 : w1.frozen? ⟨b, off + j * 7 + 6, none⟩ = false := HM1.out.frozen _
        have HQ1 := Lib.hid (fun (v4 : Value) (w' : World) (hb : Below (w1.setCell ⟨b, off + j * 7 + 4, none⟩ v4).heap.size (w1.setCell ⟨b, off + j * 7 + 4, none⟩ v4) w') => (show MarkSt F 7 l.length b off (fun k => DExpr.ct (l.getD k default)) u G (fun _ _ => none) w j 5 w' from (HM1.out.set HO.out hlt (by decide) v4 (fun _ h => by cases h)).below hb))
        go_wp2_with fail
        refine (markTextI _ (by omega) (by omega) _).mono ?_
        rintro e w2 ⟨rfl, hb2⟩
        have HM2 := Lib.hid (HQ1.out _ _ hb2)
        clear hb2 HM1 HQ1 d1_4 z1_4 d1_5 z1_5 d1_6 z1_6
        have d2_5 : w2.cell? ⟨b, off + j * 7 + 5, none⟩ = some (u j 5) := HM2.out.cell j hlt 5 (by decide) (Or.inr ⟨rfl, by decide⟩)
        generalize u j 5 = v2_5 at d2_5
        have z2_5 : w2.frozen? ⟨b, off + j * 7 + 5, none⟩ = false := HM2.out.frozen _
        have d2_6 : w2.cell? ⟨b, off + j * 7 + 6, none⟩ = some (.slice a6 x.fArgs.length c6) := (HM2.out.cell j hlt 6 (by decide) (Or.inr ⟨rfl, by decide⟩)).trans (congrArg some hu6)
        have z2_6 : w2.frozen? ⟨b, off + j * 7 + 6, none⟩ = false := HM2.out.frozen _
        have HP2 := Lib.hid (fun (v5 : Value) => HW6.out (w2.setCell ⟨b, off + j * 7 + 5, none⟩ v5) (HM2.out.set HO.out hlt (by decide) v5 (fun _ h => by cases h)))
        have HQ2 := Lib.hid (fun (v5 : Value) (w' : World) (hw : WritesF (G j 6) (w2.setCell ⟨b, off + j * 7 + 5, none⟩ v5) w') => (show MarkSt F 7 l.length b off (fun k => DExpr.ct (l.getD k default)) u G (fun _ _ => none) w j 7 w' from (HM2.out.set HO.out hlt (by decide) v5 (fun _ h => by cases h)).call HO.out hlt (by decide) rfl hw))
        have hn2 := Lib.hid (show lsz DExpr.sz x.fArgs ≤ 1048576 from (by have h1 := hsu.out; have h2 := hle2.out; have h3_0 := HU0.out; omega))
        go_wp2_with fail
        refine (HEX.out _ _ _ hn2.out _ (by omega) (by have h1 := hsu.out; have h2 := hle2.out; have h3_0 := HU0.out; omega) _ (HP2.out _)).mono ?_
        rintro e w3 ⟨k3, rfl, hka3, hkb3, hw3⟩
        have HM3 := Lib.hid (HQ2.out _ _ hw3)
        have hkz3 : 1 ≤ k3 ∧ k3 ≤ 4611686018427387904 := by have h1 := hsu.out; have h2 := hle2.out; have h3_0 := HU0.out; omega
        clear hw3 HM2 HP2 HQ2 d2_5 z2_5 d2_6 z2_6
        have HNX := Lib.hid ((show MarkSt F 7 l.length b off (fun k => DExpr.ct (l.getD k default)) u G (fun _ _ => none) w (j + 1) 0 w3 from HM3.out.next rfl))
        go_wp2
        go_roundw
        case rel =>
          have h1 := hsu.out
          have h2 := hle2.out
          have h3_0 := HU0.out
          refine ⟨j + 1, _, by omega, by go_num, rfl, by omega, by rw [h1]; omega, HNX.out⟩
        case measure => simp [intOf]; omega
      · obtain rfl : j = l.length := by omega
        go_wp2
        go_ret
        exact ⟨_, rfl, hz0, by have h1 := psz_le DExpr.sz l l.length; omega, HM0.out.writes⟩

theorem wkX_each : ∀ x : DExpr, WkX x := DExpr.ind fun x ih => fun F a cap hn k h0 hk w ho => wmark_ExprS_of x.fArgs ih hn k h0 hk w (ho.congr fun j hj _ _ => by rw [ctE_at hj])

theorem wmark_ExprS {F : Nat → Prop} {a : Option Addr} {cap : Nat} (l : List DExpr) (hn : lsz DExpr.sz l ≤ 1048576) (k : Int) (hk0 : 1 ≤ k) (hk : k + 16 * (lsz DExpr.sz l : Nat) ≤ 4611686018427387904) (w : World) (ho : Own w F (.sl 7 l.length (ctE l)) (.slice a l.length cap)) :
    Calls Try.prog 63 #[.slice a l.length cap, .int .i64 k] w fun e w' => ∃ k' : Int, e = .returned (.int .i64 k') ∧ k ≤ k' ∧ k' ≤ k + 16 * (lsz DExpr.sz l : Nat) ∧ WritesF F w w' := wmark_ExprS_of l (fun x _ => wkX_each x) hn k hk0 hk w (ho.congr fun j hj _ _ => by rw [ctE_at hj])
end Go.Proofs.Yticchgfhmfjknaa
