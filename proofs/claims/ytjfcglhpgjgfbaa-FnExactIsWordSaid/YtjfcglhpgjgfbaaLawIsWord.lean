/-
  The law FnExactIsWord: for every token and every string the program's IsWord answers as the model's. No condition.
-/
import Derived.Test.YtjfcglhpgjgfbaaTok
import Derived.Lib.SmallJoins
import Derived.SizedLaws
namespace Go.Proofs.Ytjfcglhpgjgfbaa.fnExactIsWord
open Go.ChangeShapes Go.WideShapes Go.ChangeAt Go.RowKit Go.WideMaps Go.WideElems
open Go.ChangeMaps (open_string)
open Go.Lib Go.Joins

set_option maxHeartbeats 1600000 in
set_option maxRecDepth 100000 in
theorem walk (k n p : Int) (t s : ByteArray) (ht : t.size ≤ 9223372036854775807) (hs : s.size ≤ 9223372036854775807) (w : World) :
    Calls Try.prog 3 #[.agg #[.int .i64 k, .int .i64 n, .int .i64 p, .string t], .string s] w fun e w' => e = .returned (.bool true) ∧ Below w.heap.size w w' := by
  by_cases hbig : 1048576 < s.size
  · go_enter Try.func3, Try.ntmps3
    go_wp2_with fail
    go_ret
    exact ⟨rfl, (Below.refl _ _).alloc (Nat.le_refl _) _⟩
  · by_cases hfit : (t.size : Int) ≤ 1048576
    · have hs2 : s.size ≤ 1048576 := by omega
      clear hbig hs
      have hz := fun w => laws_szToken k n p t 1048576 (by decide) (by decide) ht w
      rw [if_pos hfit] at hz
      have HZ := Lib.hid hz
      clear hz
      have HB0 := Lib.hid ((Below.refl w.heap.size w).alloc (Nat.le_refl _) (.cells #[.int .i64 k, .int .i64 n, .int .i64 p, .string t] 23))
      have BS0 := Lib.hid (show w.heap.size < (w.alloc (.cells #[.int .i64 k, .int .i64 n, .int .i64 p, .string t] 23)).heap.size by simp)
      have BX0_0 := Lib.hid (show (w.alloc (.cells #[.int .i64 k, .int .i64 n, .int .i64 p, .string t] 23)).cell? ⟨w.heap.size, 0, none⟩ = some (.int .i64 k) by rw [World.cell?_alloc_new]; rfl)
      have BX0_1 := Lib.hid (show (w.alloc (.cells #[.int .i64 k, .int .i64 n, .int .i64 p, .string t] 23)).cell? ⟨w.heap.size, 1, none⟩ = some (.int .i64 n) by rw [World.cell?_alloc_new]; rfl)
      have BX0_2 := Lib.hid (show (w.alloc (.cells #[.int .i64 k, .int .i64 n, .int .i64 p, .string t] 23)).cell? ⟨w.heap.size, 2, none⟩ = some (.int .i64 p) by rw [World.cell?_alloc_new]; rfl)
      have BX0_3 := Lib.hid (show (w.alloc (.cells #[.int .i64 k, .int .i64 n, .int .i64 p, .string t] 23)).cell? ⟨w.heap.size, 3, none⟩ = some (.string t) by rw [World.cell?_alloc_new]; rfl)
      go_enter Try.func3, Try.ntmps3
      go_wp2_with fail
      refine (HZ.out _).mono ?_
      rintro e w1 ⟨rfl, hb1⟩
      have bs1 : w.heap.size < w1.heap.size := Nat.lt_of_lt_of_le BS0.out hb1.size
      have bx1_0 : w1.cell? ⟨w.heap.size, 0, none⟩ = some (.int .i64 k) := (hb1.cell (p := ⟨w.heap.size, 0, none⟩) BS0.out).trans BX0_0.out
      have bx1_1 : w1.cell? ⟨w.heap.size, 1, none⟩ = some (.int .i64 n) := (hb1.cell (p := ⟨w.heap.size, 1, none⟩) BS0.out).trans BX0_1.out
      have bx1_2 : w1.cell? ⟨w.heap.size, 2, none⟩ = some (.int .i64 p) := (hb1.cell (p := ⟨w.heap.size, 2, none⟩) BS0.out).trans BX0_2.out
      have bx1_3 : w1.cell? ⟨w.heap.size, 3, none⟩ = some (.string t) := (hb1.cell (p := ⟨w.heap.size, 3, none⟩) BS0.out).trans BX0_3.out
      have HB1 := Lib.hid (HB0.out.trans (hb1.mono HB0.out.size))
      clear hb1
      go_wp2_with fail
      refine (laws_toToken k n p t _).mono ?_
      rintro e w2 ⟨rfl, hb2⟩
      have bs2 : w.heap.size < w2.heap.size := Nat.lt_of_lt_of_le bs1 hb2.size
      have bx2_0 : w2.cell? ⟨w.heap.size, 0, none⟩ = some (.int .i64 k) := (hb2.cell (p := ⟨w.heap.size, 0, none⟩) bs1).trans bx1_0
      have bx2_1 : w2.cell? ⟨w.heap.size, 1, none⟩ = some (.int .i64 n) := (hb2.cell (p := ⟨w.heap.size, 1, none⟩) bs1).trans bx1_1
      have bx2_2 : w2.cell? ⟨w.heap.size, 2, none⟩ = some (.int .i64 p) := (hb2.cell (p := ⟨w.heap.size, 2, none⟩) bs1).trans bx1_2
      have bx2_3 : w2.cell? ⟨w.heap.size, 3, none⟩ = some (.string t) := (hb2.cell (p := ⟨w.heap.size, 3, none⟩) bs1).trans bx1_3
      clear bs1 bx1_0 bx1_1 bx1_2 bx1_3
      have HB2 := Lib.hid (HB1.out.trans (hb2.mono HB1.out.size))
      clear hb2
      go_wp2_with fail
      refine (spec_IsWord k n p t s _).mono ?_
      rintro e w3 ⟨rfl, hb3⟩
      have bs3 : w.heap.size < w3.heap.size := Nat.lt_of_lt_of_le bs2 hb3.size
      have bx3_0 : w3.cell? ⟨w.heap.size, 0, none⟩ = some (.int .i64 k) := (hb3.cell (p := ⟨w.heap.size, 0, none⟩) bs2).trans bx2_0
      have bx3_1 : w3.cell? ⟨w.heap.size, 1, none⟩ = some (.int .i64 n) := (hb3.cell (p := ⟨w.heap.size, 1, none⟩) bs2).trans bx2_1
      have bx3_2 : w3.cell? ⟨w.heap.size, 2, none⟩ = some (.int .i64 p) := (hb3.cell (p := ⟨w.heap.size, 2, none⟩) bs2).trans bx2_2
      have bx3_3 : w3.cell? ⟨w.heap.size, 3, none⟩ = some (.string t) := (hb3.cell (p := ⟨w.heap.size, 3, none⟩) bs2).trans bx2_3
      clear bs2 bx2_0 bx2_1 bx2_2 bx2_3
      have HB3 := Lib.hid (HB2.out.trans (hb3.mono HB2.out.size))
      clear hb3
      go_wp2_with fail
      refine (laws_toToken k n p t _).mono ?_
      rintro e w4 ⟨rfl, hb4⟩
      have bs4 : w.heap.size < w4.heap.size := Nat.lt_of_lt_of_le bs3 hb4.size
      have bx4_0 : w4.cell? ⟨w.heap.size, 0, none⟩ = some (.int .i64 k) := (hb4.cell (p := ⟨w.heap.size, 0, none⟩) bs3).trans bx3_0
      have bx4_1 : w4.cell? ⟨w.heap.size, 1, none⟩ = some (.int .i64 n) := (hb4.cell (p := ⟨w.heap.size, 1, none⟩) bs3).trans bx3_1
      have bx4_2 : w4.cell? ⟨w.heap.size, 2, none⟩ = some (.int .i64 p) := (hb4.cell (p := ⟨w.heap.size, 2, none⟩) bs3).trans bx3_2
      have bx4_3 : w4.cell? ⟨w.heap.size, 3, none⟩ = some (.string t) := (hb4.cell (p := ⟨w.heap.size, 3, none⟩) bs3).trans bx3_3
      clear bs3 bx3_0 bx3_1 bx3_2 bx3_3
      have HB4 := Lib.hid (HB3.out.trans (hb4.mono HB3.out.size))
      clear hb4
      go_wp2_with fail
      refine (impl_IsWord k n p t s _).mono ?_
      rintro e w5 ⟨rfl, hb5⟩
      have bs5 : w.heap.size < w5.heap.size := Nat.lt_of_lt_of_le bs4 hb5.size
      have bx5_0 : w5.cell? ⟨w.heap.size, 0, none⟩ = some (.int .i64 k) := (hb5.cell (p := ⟨w.heap.size, 0, none⟩) bs4).trans bx4_0
      have bx5_1 : w5.cell? ⟨w.heap.size, 1, none⟩ = some (.int .i64 n) := (hb5.cell (p := ⟨w.heap.size, 1, none⟩) bs4).trans bx4_1
      have bx5_2 : w5.cell? ⟨w.heap.size, 2, none⟩ = some (.int .i64 p) := (hb5.cell (p := ⟨w.heap.size, 2, none⟩) bs4).trans bx4_2
      have bx5_3 : w5.cell? ⟨w.heap.size, 3, none⟩ = some (.string t) := (hb5.cell (p := ⟨w.heap.size, 3, none⟩) bs4).trans bx4_3
      clear bs4 bx4_0 bx4_1 bx4_2 bx4_3
      have HB5 := Lib.hid (HB4.out.trans (hb5.mono HB4.out.size))
      clear hb5
      go_wp2
      go_ret
      exact ⟨rfl, HB5.out⟩
    · have hs2 : s.size ≤ 1048576 := by omega
      clear hbig hs
      have hz := fun w => laws_szToken k n p t 1048576 (by decide) (by decide) ht w
      rw [if_neg hfit] at hz
      have HZ := Lib.hid hz
      clear hz
      have HB0 := Lib.hid ((Below.refl w.heap.size w).alloc (Nat.le_refl _) (.cells #[.int .i64 k, .int .i64 n, .int .i64 p, .string t] 23))
      have BS0 := Lib.hid (show w.heap.size < (w.alloc (.cells #[.int .i64 k, .int .i64 n, .int .i64 p, .string t] 23)).heap.size by simp)
      have BX0_0 := Lib.hid (show (w.alloc (.cells #[.int .i64 k, .int .i64 n, .int .i64 p, .string t] 23)).cell? ⟨w.heap.size, 0, none⟩ = some (.int .i64 k) by rw [World.cell?_alloc_new]; rfl)
      have BX0_1 := Lib.hid (show (w.alloc (.cells #[.int .i64 k, .int .i64 n, .int .i64 p, .string t] 23)).cell? ⟨w.heap.size, 1, none⟩ = some (.int .i64 n) by rw [World.cell?_alloc_new]; rfl)
      have BX0_2 := Lib.hid (show (w.alloc (.cells #[.int .i64 k, .int .i64 n, .int .i64 p, .string t] 23)).cell? ⟨w.heap.size, 2, none⟩ = some (.int .i64 p) by rw [World.cell?_alloc_new]; rfl)
      have BX0_3 := Lib.hid (show (w.alloc (.cells #[.int .i64 k, .int .i64 n, .int .i64 p, .string t] 23)).cell? ⟨w.heap.size, 3, none⟩ = some (.string t) by rw [World.cell?_alloc_new]; rfl)
      go_enter Try.func3, Try.ntmps3
      go_wp2_with fail
      refine (HZ.out _).mono ?_
      rintro e w1 ⟨rfl, hb1⟩
      have bs1 : w.heap.size < w1.heap.size := Nat.lt_of_lt_of_le BS0.out hb1.size
      have bx1_0 : w1.cell? ⟨w.heap.size, 0, none⟩ = some (.int .i64 k) := (hb1.cell (p := ⟨w.heap.size, 0, none⟩) BS0.out).trans BX0_0.out
      have bx1_1 : w1.cell? ⟨w.heap.size, 1, none⟩ = some (.int .i64 n) := (hb1.cell (p := ⟨w.heap.size, 1, none⟩) BS0.out).trans BX0_1.out
      have bx1_2 : w1.cell? ⟨w.heap.size, 2, none⟩ = some (.int .i64 p) := (hb1.cell (p := ⟨w.heap.size, 2, none⟩) BS0.out).trans BX0_2.out
      have bx1_3 : w1.cell? ⟨w.heap.size, 3, none⟩ = some (.string t) := (hb1.cell (p := ⟨w.heap.size, 3, none⟩) BS0.out).trans BX0_3.out
      have HB1 := Lib.hid (HB0.out.trans (hb1.mono HB0.out.size))
      clear hb1
      go_wp2
      go_ret
      exact ⟨rfl, HB1.out⟩


set_option maxRecDepth 100000 in
theorem lifted (os : Os) (started : os.Started) (H : Type) (enc : TypeId × Value → H) :
    ReturnsInHanded {} Try.checked os 3 .any (Rows.fnExactIsWordSpec.pre6 enc Try.prog Try.f3 Rows.fnExactIsWordRow.domain false) (Rows.fnExactIsWordSpec.post enc Try.prog Try.f3 false true false false) := by
  refine returnsInHanded_of_change_sized (C := Try.checked) own started (by kernel_rfl) Try.func3
    (ChangeSpec.witness6 (enc := enc) (C := Try.checked) false ⟨#[], #[.agg #[.int .i64 0, .int .i64 0, .int .i64 0, .string ⟨#[]⟩], .string ⟨#[]⟩], []⟩ 8 (by kernel_rfl) (by kernel_rfl) (by kernel_rfl) (by kernel_rfl)) ?_
  intro W base args ds gs before hval0 hW _ hsz0 _
  have hval : ∀ (j : Nat) t v, Try.f3.params[j]? = some t → args[j]? = some v → Value.okWide Try.prog W .any base t v := hval0
  obtain ⟨p, q, hA0, hV, hps, hfz, hnd⟩ := id hW
  have hA : DataW.TrodAll enc Try.prog W 0 (fun _ => true) true Try.f3.params.toList args.toList ds p := hA0
  have hsz : (DataW.weightsEach Try.prog (Try.f3.params.toList ++ Rows.fnExactIsWordSpec.plain.varTypes Try.prog) (ds ++ gs)).all (· ≤ reachBytes) = true := hsz0
  rw [Try.params3] at hA hval hsz
  obtain ⟨v0, vs0, d0, ds0, p0, q0, hargs, rfl, rfl, h0, r0⟩ := trodAll_cons hA
  obtain ⟨v1, vs1, d1, ds1, p1, q1, rfl, rfl, rfl, h1, r1⟩ := trodAll_cons r0
  obtain ⟨rfl, rfl, rfl⟩ := trodAll_nil r1
  obtain rfl : args = #[v0, v1] := by cases args; simp_all
  obtain ⟨c0_0, c0_1, c0_2, c0_3, y0_0, y0_1, y0_2, y0_3, m0, rfl, rfl, rfl, hy0_0, hy0_1, hy0_2, hy0_3⟩ := open_agg4 Try.underlying23 (by kernel_rfl) (by kernel_rfl) (hval 0 23 v0 rfl rfl) h0
  obtain ⟨k, e0_0, hx0_0, wf0_0⟩ := DataW.trod_int Try.underlying3 hy0_0
  simp only [List.cons.injEq, and_true] at e0_0
  subst e0_0
  have b0_0 := bounds_i64 wf0_0
  obtain ⟨n, e0_1, hx0_1, wf0_1⟩ := DataW.trod_int Try.underlying3 hy0_1
  simp only [List.cons.injEq, and_true] at e0_1
  subst e0_1
  have b0_1 := bounds_i64 wf0_1
  obtain ⟨p, e0_2, hx0_2, wf0_2⟩ := DataW.trod_int Try.underlying3 hy0_2
  simp only [List.cons.injEq, and_true] at e0_2
  subst e0_2
  have b0_2 := bounds_i64 wf0_2
  obtain ⟨t, e0_3, hx0_3, wf0_3⟩ := DataW.trod_string Try.underlying9 hy0_3
  simp only [List.cons.injEq, and_true] at e0_3
  subst e0_3
  have b0_3 := wf0_3
  unfold maxLen at b0_3
  obtain ⟨s, rfl, rfl, rfl, b1⟩ := open_string Try.underlying9 (hval 1 9 v1 rfl rfl) h1
  unfold maxLen at b1
  refine (walk k n p t s b0_3 b1 W).mono fun e W' ⟨he, hg⟩ => ?_
  subst he
  exact ⟨_, rfl, law_post laidOut (by kernel_rfl) rfl Try.underlying4 rfl rfl hW hg⟩

theorem said : Rows.FnExactIsWordSaid :=
  OpenClaim.holds_of_wide 3 Try.f3 rfl rfl rfl rfl rfl rfl rfl ⟨rfl, rfl, rfl, rfl, rfl⟩ rfl rfl rfl rfl rfl (by kernel_rfl) Try.func3 (by kernel_rfl)
    (of_decide_eq_true (by kernel_rfl)) (by unfold Func.isWrapper; first | (rw [if_pos (by decide +kernel)]; kernel_rfl) | (rw [if_neg (by decide +kernel)]; exact ⟨rfl, rfl⟩))
    (fun os started H enc _ => lifted os started H enc)

#print axioms said
end Go.Proofs.Ytjfcglhpgjgfbaa.fnExactIsWord
