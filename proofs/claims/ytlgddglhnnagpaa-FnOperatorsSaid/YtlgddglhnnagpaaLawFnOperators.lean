/-
  The law FnOperators: of every drawn operator and operands the operator answers as the model, whether the operands are coerced first or not, with a value of its result type; the symmetric ones are symmetric. No condition.
-/
import Derived.Test.YtlgddglhnnagpaaDrawV
import Derived.Test.YtlgddglhnnagpaaBit
import Derived.SizedLaws
namespace Go.Proofs.Ytlgddglhnnagpaa.fnOperators
open Go.ChangeShapes Go.WideShapes Go.ChangeAt Go.RowKit Go.WideMaps Go.WideElems
open Go.ChangeMaps (open_string)
open Go.Lib

theorem oO_pos {k : Int} (h : 1 ≤ k) (h' : k ≤ 12) : 0 < oO k := by
  unfold oO
  rw [if_pos ⟨h, h'⟩]
  split
  · decide
  · split <;> decide

set_option maxHeartbeats 3200000 in
set_option maxRecDepth 100000 in
theorem walk {a : Option Addr} {len cap : Nat} (w : World) (hc : Code w.heap.size w a len) :
    Calls Try.prog 5 #[.slice a len cap] w fun e w' => e = .returned (.bool true) ∧ Below w.heap.size w w' := by
  have HC := Lib.hid hc
  clear hc
  by_cases hbig : 1048576 < len
  · go_enter Try.func5, Try.ntmps5
    go_wp2_with fail
    refine (big_yes w hbig).mono ?_
    rintro e w' ⟨rfl, rfl⟩
    go_wp2
    go_ret
    exact ⟨rfl, Below.refl _ _⟩
  · have hsm : len ≤ 1048576 := by omega
    clear hbig
    go_enter Try.func5, Try.ntmps5
    go_wp2_with fail
    refine (big_no w hsm).mono ?_
    rintro e w' ⟨rfl, rfl⟩
    go_wp2_with fail
    refine (DrawApplyOp w (Nat.le_refl _) hsm HC.out).mono ?_
    rintro e w1 ⟨k, x, y, rfl, hk0, hk1, hx0, hx1, hy0, hy1, hb1⟩
    have HB := Lib.hid hb1
    clear hb1
    have A1 := Lib.hid (fun w => impl_ApplyOp k x y w)
    have A2 := Lib.hid (fun w => spec_ApplyOp k x y w)
    have a3 := fun w => impl_ApplyOp k (coe x (oL k)) (coe y (oR k)) w
    rw [apl_coe] at a3
    have A3 := Lib.hid a3
    have C1 := Lib.hid (fun w => impl_Coerce x (oL k) w)
    have C2 := Lib.hid (fun w => impl_Coerce y (oR k) w)
    have O := Lib.hid (fun w => impl_OperandTypes k w)
    clear a3
    rcases (by omega : (k < 1 ∨ 12 < k) ∨ (k = 1 ∨ k = 3 ∨ k = 4 ∨ k = 5 ∨ k = 6 ∨ k = 7 ∨ k = 10) ∨ (k = 2 ∨ k = 8 ∨ k = 9 ∨ k = 11 ∨ k = 12)) with hk | hk | hk
    · rw [apl_no hk] at A1 A2 A3
      rw [oO_no hk] at O
      clear hk
      generalize coe x (oL k) = cx at A3 C1
      generalize coe y (oR k) = cy at A3 C2
      generalize oL k = l at C1 O
      generalize oR k = r at C2 O
      go_wp2_with fail
      refine (A1.out _).mono ?_
      rintro e w2 ⟨rfl, hb2⟩
      have HB2 := Lib.hid (HB.out.trans (hb2.mono HB.out.size))
      clear hb2
      go_wp2_with fail
      refine (O.out _).mono ?_
      rintro e w3 ⟨rfl, hb3⟩
      have HB3 := Lib.hid (HB2.out.trans (hb3.mono HB2.out.size))
      clear hb3
      go_wp2_with fail
      refine (A2.out _).mono ?_
      rintro e w' ⟨rfl, rfl⟩
      go_wp2_with fail
      refine (C1.out _).mono ?_
      rintro e w' ⟨rfl, rfl⟩
      go_wp2_with fail
      refine (C2.out _).mono ?_
      rintro e w' ⟨rfl, rfl⟩
      go_wp2_with fail
      refine (A3.out _).mono ?_
      rintro e w4 ⟨rfl, hb4⟩
      have HB4 := Lib.hid (HB3.out.trans (hb4.mono HB3.out.size))
      clear hb4
      go_wp2
      go_ret
      exact ⟨rfl, HB4.out⟩
    · have a4 := fun w => impl_ApplyOp k y x w
      rw [apl_sym hk] at a4
      have A4 := Lib.hid a4
      have t4 := fun w => impl_IsOfType (apl k x y) (oO k) w
      rw [apl_isOf k x y (by omega) (by omega)] at t4
      have T4 := Lib.hid t4
      have ho : 0 < oO k := oO_pos (by omega) (by omega)
      clear a4 t4
      generalize coe x (oL k) = cx at A3 C1
      generalize coe y (oR k) = cy at A3 C2
      generalize oL k = l at C1 O
      generalize oR k = r at C2 O
      generalize oO k = o at O T4 ho
      generalize apl k x y = v at A1 A2 A3 A4 T4
      rcases hk with rfl | rfl | rfl | rfl | rfl | rfl | rfl
      all_goals
        go_wp2_with fail
        refine (A1.out _).mono ?_
        rintro e w2 ⟨rfl, hb2⟩
        have HB2 := Lib.hid (HB.out.trans (hb2.mono HB.out.size))
        clear hb2
        go_wp2_with fail
        refine (O.out _).mono ?_
        rintro e w3 ⟨rfl, hb3⟩
        have HB3 := Lib.hid (HB2.out.trans (hb3.mono HB2.out.size))
        clear hb3
        go_wp2_with fail
        refine (A2.out _).mono ?_
        rintro e w' ⟨rfl, rfl⟩
        go_wp2_with fail
        refine (C1.out _).mono ?_
        rintro e w' ⟨rfl, rfl⟩
        go_wp2_with fail
        refine (C2.out _).mono ?_
        rintro e w' ⟨rfl, rfl⟩
        go_wp2_with fail
        refine (A3.out _).mono ?_
        rintro e w4 ⟨rfl, hb4⟩
        have HB4 := Lib.hid (HB3.out.trans (hb4.mono HB3.out.size))
        clear hb4
        go_wp2_with fail
        refine (T4.out _).mono ?_
        rintro e w' ⟨rfl, rfl⟩
        go_wp2_with fail
        refine (A4.out _).mono ?_
        rintro e w5 ⟨rfl, hb5⟩
        have HB5 := Lib.hid (HB4.out.trans (hb5.mono HB4.out.size))
        clear hb5
        go_wp2
        go_ret
        exact ⟨rfl, HB5.out⟩
    · have t4 := fun w => impl_IsOfType (apl k x y) (oO k) w
      rw [apl_isOf k x y (by omega) (by omega)] at t4
      have T4 := Lib.hid t4
      have ho : 0 < oO k := oO_pos (by omega) (by omega)
      clear t4
      generalize coe x (oL k) = cx at A3 C1
      generalize coe y (oR k) = cy at A3 C2
      generalize oL k = l at C1 O
      generalize oR k = r at C2 O
      generalize oO k = o at O T4 ho
      generalize apl k x y = v at A1 A2 A3 T4
      rcases hk with rfl | rfl | rfl | rfl | rfl
      all_goals
        go_wp2_with fail
        refine (A1.out _).mono ?_
        rintro e w2 ⟨rfl, hb2⟩
        have HB2 := Lib.hid (HB.out.trans (hb2.mono HB.out.size))
        clear hb2
        go_wp2_with fail
        refine (O.out _).mono ?_
        rintro e w3 ⟨rfl, hb3⟩
        have HB3 := Lib.hid (HB2.out.trans (hb3.mono HB2.out.size))
        clear hb3
        go_wp2_with fail
        refine (A2.out _).mono ?_
        rintro e w' ⟨rfl, rfl⟩
        go_wp2_with fail
        refine (C1.out _).mono ?_
        rintro e w' ⟨rfl, rfl⟩
        go_wp2_with fail
        refine (C2.out _).mono ?_
        rintro e w' ⟨rfl, rfl⟩
        go_wp2_with fail
        refine (A3.out _).mono ?_
        rintro e w4 ⟨rfl, hb4⟩
        have HB4 := Lib.hid (HB3.out.trans (hb4.mono HB3.out.size))
        clear hb4
        go_wp2_with fail
        refine (T4.out _).mono ?_
        rintro e w' ⟨rfl, rfl⟩
        go_wp2
        go_ret
        exact ⟨rfl, HB4.out⟩


set_option maxRecDepth 100000 in
theorem lifted (os : Os) (started : os.Started) (H : Type) (enc : TypeId × Value → H) :
    ReturnsInHanded {} Try.checked os 5 .any (Rows.fnOperatorsSpec.pre6 enc Try.prog Try.f5 Rows.fnOperatorsRow.domain false) (Rows.fnOperatorsSpec.post enc Try.prog Try.f5 false true false false) := by
  refine returnsInHanded_of_change_sized (C := Try.checked) own started (by kernel_rfl) Try.func5
    (ChangeSpec.witness6 (enc := enc) (C := Try.checked) false ⟨#[], #[.slice none 0 0], []⟩ 8 (by kernel_rfl) (by kernel_rfl) (by kernel_rfl) (by kernel_rfl)) ?_
  intro W base args ds gs before hval0 hW _ hsz0 _
  have hval : ∀ (j : Nat) t v, Try.f5.params[j]? = some t → args[j]? = some v → Value.okWide Try.prog W .any base t v := hval0
  obtain ⟨p, q, hA0, hV, hps, hfz, hnd⟩ := id hW
  have hA : DataW.TrodAll enc Try.prog W 0 (fun _ => true) true Try.f5.params.toList args.toList ds p := hA0
  have hsz : (DataW.weightsEach Try.prog (Try.f5.params.toList ++ Rows.fnOperatorsSpec.plain.varTypes Try.prog) (ds ++ gs)).all (· ≤ reachBytes) = true := hsz0
  rw [Try.params5] at hA hval hsz
  obtain ⟨v0, vs0, d0, ds0, p0, q0, hargs, rfl, rfl, h0, r0⟩ := trodAll_cons hA
  obtain ⟨rfl, rfl, rfl⟩ := trodAll_nil r0
  obtain rfl : args = #[v0] := by cases args; simp_all
  obtain ⟨a0, len0, cap0, rfl⟩ := okWide_slice Try.underlying22 (hval 0 22 v0 rfl rfl)
  have c0 := code_of_trod Try.underlying22 Try.underlying5 (by kernel_rfl) h0
  refine (walk W c0.2).mono fun e W' ⟨he, hg⟩ => ?_
  subst he
  exact ⟨_, rfl, law_post laidOut (by kernel_rfl) rfl Try.underlying4 rfl rfl hW hg⟩

theorem said : Rows.FnOperatorsSaid :=
  OpenClaim.holds_of_wide 5 Try.f5 rfl rfl rfl rfl rfl rfl rfl ⟨rfl, rfl, rfl, rfl, rfl⟩ rfl rfl rfl rfl rfl (by kernel_rfl) Try.func5 (by kernel_rfl)
    (of_decide_eq_true (by kernel_rfl)) (by unfold Func.isWrapper; first | (rw [if_pos (by decide +kernel)]; kernel_rfl) | (rw [if_neg (by decide +kernel)]; exact ⟨rfl, rfl⟩))
    (fun os started H enc _ => lifted os started H enc)

#print axioms said
end Go.Proofs.Ytlgddglhnnagpaa.fnOperators
