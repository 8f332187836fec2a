/-
  The law FnExactJoin: for every list of strings and every separator the program's Join returns the string that the model's returns, and leaves its arguments as they were. No condition.
-/
import Derived.Test.YtljoeigkjbeeeabJoinImpl
import Derived.Test.YtljoeigkjbeeeabStrsEq
import Derived.Test.YtljoeigkjbeeeabStrsSz
import Derived.Test.YtljoeigkjbeeeabStrsTo
import Derived.SizedLaws
namespace Go.Proofs.Ytljoeigkjbeeeab.fnExactJoin
open Go.ChangeShapes Go.WideShapes Go.ChangeAt Go.RowKit Go.WideMaps Go.WideElems
open Go.ChangeMaps (open_string)
open Go.Lib

set_option maxHeartbeats 1600000 in
set_option maxRecDepth 100000 in
theorem walk {a : Option Addr} {cap : Nat} (ss : List ByteArray) (b : ByteArray) (hl : ss.length ≤ 9223372036854775807) (hb : b.size ≤ 9223372036854775807) (w : World) (hs : Strs w.heap.size w a ss) :
    Calls Try.prog 3 #[.slice a ss.length cap, .string b] w fun e w' => e = .returned (.bool true) ∧ Below w.heap.size w w' := by
  have HS := Lib.hid hs
  clear hs
  by_cases hbig : 1048576 < b.size
  · go_enter Try.func3, Try.ntmps3
    go_wp2_with fail
    go_ret
    exact ⟨rfl, Below.refl _ _⟩
  · by_cases hfit : (ss.length : Int) + sumSize ss ≤ 1048576
    · have e1 : szR 1048576 ss = 1048576 - ss.length - sumSize ss := by unfold szR; rw [if_pos hfit]
      have hz := szStringS (cap := cap) ss 1048576 (by decide) (by decide) hl w HS.out
      rw [e1] at hz
      have HZ := Lib.hid hz
      clear hz e1
      go_enter Try.func3, Try.ntmps3
      go_wp2_with fail
      refine HZ.out.mono ?_
      rintro e w' ⟨rfl, rfl⟩
      go_wp2_with fail
      refine (toStringS ss (by omega) w (Nat.le_refl _) HS.out).mono ?_
      rintro e w1 ⟨g1, rfl, hg1, ho1, hb1⟩
      have HO1 := Lib.hid ho1
      have HB1 := Lib.hid hb1
      clear ho1 hb1
      go_wp2_with fail
      refine (spec_Join ss b (by omega) (by omega) (by omega) w1 (Nat.le_refl _) (HO1.out.strs (by omega))).mono ?_
      rintro e w2 ⟨rfl, hb2⟩
      have HB2 := Lib.hid (HB1.out.trans (hb2.mono HB1.out.size))
      clear hb2
      go_wp2_with fail
      refine (toStringS ss (by omega) w2 HB2.out.size (HS.out.below HB2.out)).mono ?_
      rintro e w3 ⟨g3, rfl, hg3, ho3, hb3⟩
      have HO3 := Lib.hid ho3
      have HB3 := Lib.hid (HB2.out.trans (hb3.mono HB2.out.size))
      clear ho3 hb3
      go_wp2_with fail
      refine (impl_Join ss b (by omega) (by omega) (by omega) w3 HO3.out).mono ?_
      rintro e w4 ⟨rfl, hb4⟩
      have HO4 := Lib.hid (HO3.out.later hb4)
      have HB4 := Lib.hid (HB3.out.trans (hb4.mono HB3.out.size))
      clear hb4
      go_wp2_with fail
      refine (toStringS ss (by omega) w4 HB4.out.size (HS.out.below HB4.out)).mono ?_
      rintro e w5 ⟨g5, rfl, hg5, ho5, hb5⟩
      have HO5 := Lib.hid ho5
      have HQ5 := Lib.hid (HO4.out.later hb5)
      have HB5 := Lib.hid (HB4.out.trans (hb5.mono HB4.out.size))
      clear ho5 hb5
      go_wp2_with fail
      refine (eqStringS ss (by omega) w5 (HQ5.out.strs (by omega)) (HO5.out.strs (by omega))).mono ?_
      rintro e w6 ⟨rfl, hb6⟩
      have HB6 := Lib.hid (HB5.out.trans (hb6.mono HB5.out.size))
      clear hb6
      go_wp2
      go_ret
      exact ⟨rfl, HB6.out⟩
    · have e1 : szR 1048576 ss = -1 := by unfold szR; rw [if_neg hfit]
      have hz := szStringS (cap := cap) ss 1048576 (by decide) (by decide) hl w HS.out
      rw [e1] at hz
      have HZ := Lib.hid hz
      clear hz e1
      go_enter Try.func3, Try.ntmps3
      go_wp2_with fail
      refine HZ.out.mono ?_
      rintro e w' ⟨rfl, rfl⟩
      go_wp2
      go_ret
      exact ⟨rfl, Below.refl _ _⟩


set_option maxRecDepth 100000 in
theorem lifted (os : Os) (started : os.Started) (H : Type) (enc : TypeId × Value → H) :
    ReturnsInHanded {} Try.checked os 3 .any (Rows.fnExactJoinSpec.pre6 enc Try.prog Try.f3 Rows.fnExactJoinRow.domain false) (Rows.fnExactJoinSpec.post enc Try.prog Try.f3 false true false false) := by
  refine returnsInHanded_of_change_sized (C := Try.checked) own started (by kernel_rfl) Try.func3
    (ChangeSpec.witness6 (enc := enc) (C := Try.checked) false ⟨#[], #[.slice none 0 0, .string ⟨#[]⟩], []⟩ 8 (by kernel_rfl) (by kernel_rfl) (by kernel_rfl) (by kernel_rfl)) ?_
  intro W base args ds gs before hval0 hW _ hsz0 _
  have hval : ∀ (j : Nat) t v, Try.f3.params[j]? = some t → args[j]? = some v → Value.okWide Try.prog W .any base t v := hval0
  obtain ⟨p, q, hA0, hV, hps, hfz, hnd⟩ := id hW
  have hA : DataW.TrodAll enc Try.prog W 0 (fun _ => true) true Try.f3.params.toList args.toList ds p := hA0
  have hsz : (DataW.weightsEach Try.prog (Try.f3.params.toList ++ Rows.fnExactJoinSpec.plain.varTypes Try.prog) (ds ++ gs)).all (· ≤ reachBytes) = true := hsz0
  rw [Try.params3] at hA hval hsz
  obtain ⟨v0, vs0, d0, ds0, p0, q0, hargs, rfl, rfl, h0, r0⟩ := trodAll_cons hA
  obtain ⟨v1, vs1, d1, ds1, p1, q1, rfl, rfl, rfl, h1, r1⟩ := trodAll_cons r0
  obtain ⟨rfl, rfl, rfl⟩ := trodAll_nil r1
  obtain rfl : args = #[v0, v1] := by cases args; simp_all
  obtain ⟨a0, len0, cap0, rfl⟩ := okWide_slice Try.underlying22 (hval 0 22 v0 rfl rfl)
  obtain ⟨l0, ss, rfl, c0⟩ := strs_of_trod Try.underlying22 Try.underlying9 (by kernel_rfl) h0
  unfold maxLen at l0
  obtain ⟨b, rfl, rfl, rfl, b1⟩ := open_string Try.underlying9 (hval 1 9 v1 rfl rfl) h1
  unfold maxLen at b1
  refine (walk ss b (by omega) (by omega) W c0).mono fun e W' ⟨he, hg⟩ => ?_
  subst he
  exact ⟨_, rfl, law_post laidOut (by kernel_rfl) rfl Try.underlying4 rfl rfl hW hg⟩

theorem said : Rows.FnExactJoinSaid :=
  OpenClaim.holds_of_wide 3 Try.f3 rfl rfl rfl rfl rfl rfl rfl ⟨rfl, rfl, rfl, rfl, rfl⟩ rfl rfl rfl rfl rfl (by kernel_rfl) Try.func3 (by kernel_rfl)
    (of_decide_eq_true (by kernel_rfl)) (by unfold Func.isWrapper; first | (rw [if_pos (by decide +kernel)]; kernel_rfl) | (rw [if_neg (by decide +kernel)]; exact ⟨rfl, rfl⟩))
    (fun os started H enc _ => lifted os started H enc)

#print axioms said
end Go.Proofs.Ytljoeigkjbeeeab.fnExactJoin
