/-
  The law FnSets: of every drawn operands an element was added exactly if it is then contained, and difference and intersection split a set. No condition.
-/
import Derived.Test.YtlgddglhnnagpaaDrawV
import Derived.Test.YtlgddglhnnagpaaBit
import Derived.SizedLaws
namespace Go.Proofs.Ytlgddglhnnagpaa.fnSets
open Go.ChangeShapes Go.WideShapes Go.ChangeAt Go.RowKit Go.WideMaps Go.WideElems
open Go.ChangeMaps (open_string)
open Go.Lib

theorem sets_or (x y : Int) : apl 6 (apl 8 x y) (apl 7 x y) = coe x 2 := by
  have e : apl 6 (apl 8 x y) (apl 7 x y) = bits .or .i64 (coe (apl 8 x y) 2) (coe (apl 7 x y) 2) := apl_6 _ _
  obtain ⟨_, _, h3, h4⟩ := set_op .andNot (Or.inr (Or.inr rfl)) (coe_set x).1 (coe_set x).2 (coe_set y).1 (coe_set y).2
  obtain ⟨_, _, k3, k4⟩ := set_op .and (Or.inr (Or.inl rfl)) (coe_set x).1 (coe_set x).2 (coe_set y).1 (coe_set y).2
  rw [e, apl_8, apl_7, coe_2 (bits .andNot .i64 _ _), and_4095 h3 h4, coe_2 (bits .and .i64 (coe x 2) (coe y 2)), and_4095 k3 k4]
  exact split_or (coe_set x).1 (coe_set x).2 (coe_set y).1 (coe_set y).2
theorem sets_and (x y : Int) : apl 7 (apl 8 x y) (apl 7 x y) = 0 := by
  have e : apl 7 (apl 8 x y) (apl 7 x y) = bits .and .i64 (coe (apl 8 x y) 2) (coe (apl 7 x y) 2) := apl_7 _ _
  obtain ⟨_, _, h3, h4⟩ := set_op .andNot (Or.inr (Or.inr rfl)) (coe_set x).1 (coe_set x).2 (coe_set y).1 (coe_set y).2
  obtain ⟨_, _, k3, k4⟩ := set_op .and (Or.inr (Or.inl rfl)) (coe_set x).1 (coe_set x).2 (coe_set y).1 (coe_set y).2
  rw [e, apl_8, apl_7, coe_2 (bits .andNot .i64 _ _), and_4095 h3 h4, coe_2 (bits .and .i64 (coe x 2) (coe y 2)), and_4095 k3 k4]
  exact split_and (coe_set x).1 (coe_set x).2 (coe_set y).1 (coe_set y).2
theorem sets_has (x m : Int) (h0 : 0 ≤ m) (h1 : m ≤ 11) : apl 11 (apl 12 x m) m = 1 := by
  have e1 : coe m 1 = m := sat_id (by omega) (by omega)
  have hw := withV_set (n := m) (coe_set x).1 (coe_set x).2
  have e2 : coe (withV (coe x 2) m) 2 = withV (coe x 2) m := by rw [coe_2 (withV _ _)]; exact and_4095 hw.1 hw.2
  rw [apl_11, apl_12, e1, e2, has_with (coe_set x).1 (coe_set x).2 (inR_yes h0 h1)]
  rfl

set_option maxRecDepth 100000 in
/-- The code's first byte, or a number that follows from its length. -/
theorem laws_at0 {B : Nat} {a : Option Addr} {len cap : Nat} (w : World) (hc : Code B w a len) :
    Calls Try.prog 35 #[.slice a len cap, .int .i64 0] w fun e w' => ∃ z : Int, e = .returned (.int .i64 z) ∧ 0 ≤ z ∧ z ≤ 255 ∧ ∃ n, w' = w.drewN n := by
  by_cases h0 : len = 0
  · subst h0
    go_enter Try.func35, Try.ntmps35
    go_wp2
    go_ret
    exact ⟨_, rfl, by omega, by omega, 0, rfl⟩
  · rcases hc with h | ⟨b, off, rfl, hb, hcell⟩
    · exact absurd h h0
    · obtain ⟨z, hz0, hz1, hz⟩ := hcell 0 (by omega)
      have hl : 0 < len := by omega
      rw [Nat.add_zero] at hz
      clear h0 hcell
      go_enter Try.func35, Try.ntmps35
      go_wp2
      go_ret
      exact ⟨z, rfl, hz0, hz1, 0, rfl⟩

set_option maxHeartbeats 3200000 in
set_option maxRecDepth 100000 in
theorem walk {a : Option Addr} {len cap : Nat} (w : World) (hc : Code w.heap.size w a len) :
    Calls Try.prog 6 #[.slice a len cap] w fun e w' => e = .returned (.bool true) ∧ Below w.heap.size w w' := by
  have HC := Lib.hid hc
  clear hc
  by_cases hbig : 1048576 < len
  · go_enter Try.func6, Try.ntmps6
    go_wp2_with fail
    refine (big_yes w hbig).mono ?_
    rintro e w' ⟨rfl, rfl⟩
    go_wp2
    go_ret
    exact ⟨rfl, Below.refl _ _⟩
  · have hsm : len ≤ 1048576 := by omega
    clear hbig
    go_enter Try.func6, Try.ntmps6
    go_wp2_with fail
    refine (big_no w hsm).mono ?_
    rintro e w' ⟨rfl, rfl⟩
    go_wp2_with fail
    refine (DrawApplyOp w (Nat.le_refl _) hsm HC.out).mono ?_
    rintro e w1 ⟨k0, x, y, rfl, hk0, hk1, hx0, hx1, hy0, hy1, hb1⟩
    have HB := Lib.hid hb1
    clear hb1
    clear hk0 hk1
    go_wp2_with fail
    refine (laws_at0 _ (HC.out.below HB.out)).mono ?_
    rintro e w' ⟨z, rfl, hz0, hz1, n2, rfl⟩
    have HB2 := Lib.hid (below_drewN HB.out n2)
    have hm : 0 ≤ z % 14 ∧ z % 14 < 14 := by omega
    obtain ⟨hm0, hm1⟩ := hm
    have A1 := Lib.hid (fun w => impl_ApplyOp 12 x (z % 14) w)
    have A2 := Lib.hid (fun w => impl_ApplyOp 11 (apl 12 x (z % 14)) (z % 14) w)
    have A3 := Lib.hid (fun w => spec_ApplyOp 12 x (z % 14) w)
    have A4 := Lib.hid (fun w => spec_ApplyOp 11 (apl 12 x (z % 14)) (z % 14) w)
    have B1 := Lib.hid (fun w => impl_ApplyOp 8 x y w)
    have B2 := Lib.hid (fun w => impl_ApplyOp 7 x y w)
    have b3 := fun w => impl_ApplyOp 6 (apl 8 x y) (apl 7 x y) w
    have b4 := fun w => impl_ApplyOp 7 (apl 8 x y) (apl 7 x y) w
    rw [sets_or] at b3
    rw [sets_and] at b4
    have B3 := Lib.hid b3
    have B4 := Lib.hid b4
    have B5 := Lib.hid (fun w => spec_Coerce x 2 w)
    clear b3 b4
    by_cases hm3 : z % 14 ≤ 11
    · rw [sets_has x (z % 14) hm0 hm3] at A2 A4
      generalize apl 12 x (z % 14) = wi at A1 A2 A3 A4
      generalize apl 8 x y = u at B1 B3 B4
      generalize apl 7 x y = v at B2 B3 B4
      generalize coe x 2 = cx at B3 B5
      go_wp2_with fail
      refine (A1.out _).mono ?_
      rintro e w2 ⟨rfl, hb2⟩
      have HB2 := Lib.hid (HB2.out.trans (hb2.mono HB2.out.size))
      clear hb2
      go_wp2_with fail
      refine (A2.out _).mono ?_
      rintro e w3 ⟨rfl, hb3⟩
      have HB3 := Lib.hid (HB2.out.trans (hb3.mono HB2.out.size))
      clear hb3
      go_wp2_with fail
      refine (A3.out _).mono ?_
      rintro e w' ⟨rfl, rfl⟩
      go_wp2_with fail
      refine (A4.out _).mono ?_
      rintro e w' ⟨rfl, rfl⟩
      go_wp2_with fail
      refine (A2.out _).mono ?_
      rintro e w4 ⟨rfl, hb4⟩
      have HB4 := Lib.hid (HB3.out.trans (hb4.mono HB3.out.size))
      clear hb4
      go_wp2_with fail
      refine (B1.out _).mono ?_
      rintro e w5 ⟨rfl, hb5⟩
      have HB5 := Lib.hid (HB4.out.trans (hb5.mono HB4.out.size))
      clear hb5
      go_wp2_with fail
      refine (B2.out _).mono ?_
      rintro e w6 ⟨rfl, hb6⟩
      have HB6 := Lib.hid (HB5.out.trans (hb6.mono HB5.out.size))
      clear hb6
      go_wp2_with fail
      refine (B3.out _).mono ?_
      rintro e w7 ⟨rfl, hb7⟩
      have HB7 := Lib.hid (HB6.out.trans (hb7.mono HB6.out.size))
      clear hb7
      go_wp2_with fail
      refine (B5.out _).mono ?_
      rintro e w' ⟨rfl, rfl⟩
      go_wp2_with fail
      refine (B4.out _).mono ?_
      rintro e w8 ⟨rfl, hb8⟩
      have HB8 := Lib.hid (HB7.out.trans (hb8.mono HB7.out.size))
      clear hb8
      go_wp2
      go_ret
      exact ⟨rfl, HB8.out⟩
    · have hm4 : 11 < z % 14 := by omega
      clear hm3
      generalize apl 12 x (z % 14) = wi at A1 A2 A3 A4
      generalize apl 11 wi (z % 14) = hs at A2 A4
      generalize apl 8 x y = u at B1 B3 B4
      generalize apl 7 x y = v at B2 B3 B4
      generalize coe x 2 = cx at B3 B5
      go_wp2_with fail
      refine (A1.out _).mono ?_
      rintro e w2 ⟨rfl, hb2⟩
      have HB2 := Lib.hid (HB2.out.trans (hb2.mono HB2.out.size))
      clear hb2
      go_wp2_with fail
      refine (A2.out _).mono ?_
      rintro e w3 ⟨rfl, hb3⟩
      have HB3 := Lib.hid (HB2.out.trans (hb3.mono HB2.out.size))
      clear hb3
      go_wp2_with fail
      refine (A3.out _).mono ?_
      rintro e w' ⟨rfl, rfl⟩
      go_wp2_with fail
      refine (A4.out _).mono ?_
      rintro e w' ⟨rfl, rfl⟩
      go_wp2_with fail
      refine (B1.out _).mono ?_
      rintro e w4 ⟨rfl, hb4⟩
      have HB4 := Lib.hid (HB3.out.trans (hb4.mono HB3.out.size))
      clear hb4
      go_wp2_with fail
      refine (B2.out _).mono ?_
      rintro e w5 ⟨rfl, hb5⟩
      have HB5 := Lib.hid (HB4.out.trans (hb5.mono HB4.out.size))
      clear hb5
      go_wp2_with fail
      refine (B3.out _).mono ?_
      rintro e w6 ⟨rfl, hb6⟩
      have HB6 := Lib.hid (HB5.out.trans (hb6.mono HB5.out.size))
      clear hb6
      go_wp2_with fail
      refine (B5.out _).mono ?_
      rintro e w' ⟨rfl, rfl⟩
      go_wp2_with fail
      refine (B4.out _).mono ?_
      rintro e w7 ⟨rfl, hb7⟩
      have HB7 := Lib.hid (HB6.out.trans (hb7.mono HB6.out.size))
      clear hb7
      go_wp2
      go_ret
      exact ⟨rfl, HB7.out⟩


set_option maxRecDepth 100000 in
theorem lifted (os : Os) (started : os.Started) (H : Type) (enc : TypeId × Value → H) :
    ReturnsInHanded {} Try.checked os 6 .any (Rows.fnSetsSpec.pre6 enc Try.prog Try.f6 Rows.fnSetsRow.domain false) (Rows.fnSetsSpec.post enc Try.prog Try.f6 false true false false) := by
  refine returnsInHanded_of_change_sized (C := Try.checked) own started (by kernel_rfl) Try.func6
    (ChangeSpec.witness6 (enc := enc) (C := Try.checked) false ⟨#[], #[.slice none 0 0], []⟩ 8 (by kernel_rfl) (by kernel_rfl) (by kernel_rfl) (by kernel_rfl)) ?_
  intro W base args ds gs before hval0 hW _ hsz0 _
  have hval : ∀ (j : Nat) t v, Try.f6.params[j]? = some t → args[j]? = some v → Value.okWide Try.prog W .any base t v := hval0
  obtain ⟨p, q, hA0, hV, hps, hfz, hnd⟩ := id hW
  have hA : DataW.TrodAll enc Try.prog W 0 (fun _ => true) true Try.f6.params.toList args.toList ds p := hA0
  have hsz : (DataW.weightsEach Try.prog (Try.f6.params.toList ++ Rows.fnSetsSpec.plain.varTypes Try.prog) (ds ++ gs)).all (· ≤ reachBytes) = true := hsz0
  rw [Try.params6] at hA hval hsz
  obtain ⟨v0, vs0, d0, ds0, p0, q0, hargs, rfl, rfl, h0, r0⟩ := trodAll_cons hA
  obtain ⟨rfl, rfl, rfl⟩ := trodAll_nil r0
  obtain rfl : args = #[v0] := by cases args; simp_all
  obtain ⟨a0, len0, cap0, rfl⟩ := okWide_slice Try.underlying22 (hval 0 22 v0 rfl rfl)
  have c0 := code_of_trod Try.underlying22 Try.underlying5 (by kernel_rfl) h0
  refine (walk W c0.2).mono fun e W' ⟨he, hg⟩ => ?_
  subst he
  exact ⟨_, rfl, law_post laidOut (by kernel_rfl) rfl Try.underlying4 rfl rfl hW hg⟩

theorem said : Rows.FnSetsSaid :=
  OpenClaim.holds_of_wide 6 Try.f6 rfl rfl rfl rfl rfl rfl rfl ⟨rfl, rfl, rfl, rfl, rfl⟩ rfl rfl rfl rfl rfl (by kernel_rfl) Try.func6 (by kernel_rfl)
    (of_decide_eq_true (by kernel_rfl)) (by unfold Func.isWrapper; first | (rw [if_pos (by decide +kernel)]; kernel_rfl) | (rw [if_neg (by decide +kernel)]; exact ⟨rfl, rfl⟩))
    (fun os started H enc _ => lifted os started H enc)

#print axioms said
end Go.Proofs.Ytlgddglhnnagpaa.fnSets
