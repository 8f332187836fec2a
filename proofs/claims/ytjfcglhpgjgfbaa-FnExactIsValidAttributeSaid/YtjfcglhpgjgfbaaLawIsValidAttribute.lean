/-
  The law FnExactIsValidAttribute: for every attribute the program's IsValidAttribute answers as the model's. No condition.
-/
import Derived.Test.YtjfcglhpgjgfbaaAttr
import Derived.Lib.SmallJoins
import Derived.SizedLaws
namespace Go.Proofs.Ytjfcglhpgjgfbaa.fnExactIsValidAttribute
open Go.ChangeShapes Go.WideShapes Go.ChangeAt Go.RowKit Go.WideMaps Go.WideElems
open Go.ChangeMaps (open_string)
open Go.Lib Go.Joins

set_option maxHeartbeats 1600000 in
set_option maxRecDepth 100000 in
theorem walk (nm : ByteArray) (ty md : Int) (c : Bool) (ht : nm.size ≤ 9223372036854775807) (w : World) :
    Calls Try.prog 4 #[.agg #[.string nm, .int .i64 ty, .int .i64 md, .bool c]] w fun e w' => e = .returned (.bool true) ∧ Below w.heap.size w w' := by
  by_cases hfit : (nm.size : Int) ≤ 1048576
  · skip
    have hz := fun w => laws_szAttribute nm ty md c 1048576 (by decide) (by decide) ht w
    rw [if_pos hfit] at hz
    have HZ := Lib.hid hz
    clear hz
    have HB0 := Lib.hid ((Below.refl w.heap.size w).alloc (Nat.le_refl _) (.cells #[.string nm, .int .i64 ty, .int .i64 md, .bool c] 30))
    have BS0 := Lib.hid (show w.heap.size < (w.alloc (.cells #[.string nm, .int .i64 ty, .int .i64 md, .bool c] 30)).heap.size by simp)
    have BX0_0 := Lib.hid (show (w.alloc (.cells #[.string nm, .int .i64 ty, .int .i64 md, .bool c] 30)).cell? ⟨w.heap.size, 0, none⟩ = some (.string nm) by rw [World.cell?_alloc_new]; rfl)
    have BX0_1 := Lib.hid (show (w.alloc (.cells #[.string nm, .int .i64 ty, .int .i64 md, .bool c] 30)).cell? ⟨w.heap.size, 1, none⟩ = some (.int .i64 ty) by rw [World.cell?_alloc_new]; rfl)
    have BX0_2 := Lib.hid (show (w.alloc (.cells #[.string nm, .int .i64 ty, .int .i64 md, .bool c] 30)).cell? ⟨w.heap.size, 2, none⟩ = some (.int .i64 md) by rw [World.cell?_alloc_new]; rfl)
    have BX0_3 := Lib.hid (show (w.alloc (.cells #[.string nm, .int .i64 ty, .int .i64 md, .bool c] 30)).cell? ⟨w.heap.size, 3, none⟩ = some (.bool c) by rw [World.cell?_alloc_new]; rfl)
    go_enter Try.func4, Try.ntmps4
    go_wp2_with fail
    refine (HZ.out _).mono ?_
    rintro e w1 ⟨rfl, hb1⟩
    have bs1 : w.heap.size < w1.heap.size := Nat.lt_of_lt_of_le BS0.out hb1.size
    have bx1_0 : w1.cell? ⟨w.heap.size, 0, none⟩ = some _ := (hb1.cell (p := ⟨w.heap.size, 0, none⟩) BS0.out).trans BX0_0.out
    have bx1_1 : w1.cell? ⟨w.heap.size, 1, none⟩ = some _ := (hb1.cell (p := ⟨w.heap.size, 1, none⟩) BS0.out).trans BX0_1.out
    have bx1_2 : w1.cell? ⟨w.heap.size, 2, none⟩ = some _ := (hb1.cell (p := ⟨w.heap.size, 2, none⟩) BS0.out).trans BX0_2.out
    have bx1_3 : w1.cell? ⟨w.heap.size, 3, none⟩ = some _ := (hb1.cell (p := ⟨w.heap.size, 3, none⟩) BS0.out).trans BX0_3.out
    have HB1 := Lib.hid (HB0.out.trans (hb1.mono HB0.out.size))
    clear hb1
    go_wp2_with fail
    refine (laws_toAttribute nm ty md c _).mono ?_
    rintro e w2 ⟨rfl, hb2⟩
    have bs2 : w.heap.size < w2.heap.size := Nat.lt_of_lt_of_le bs1 hb2.size
    have bx2_0 : w2.cell? ⟨w.heap.size, 0, none⟩ = some _ := (hb2.cell (p := ⟨w.heap.size, 0, none⟩) bs1).trans bx1_0
    have bx2_1 : w2.cell? ⟨w.heap.size, 1, none⟩ = some _ := (hb2.cell (p := ⟨w.heap.size, 1, none⟩) bs1).trans bx1_1
    have bx2_2 : w2.cell? ⟨w.heap.size, 2, none⟩ = some _ := (hb2.cell (p := ⟨w.heap.size, 2, none⟩) bs1).trans bx1_2
    have bx2_3 : w2.cell? ⟨w.heap.size, 3, none⟩ = some _ := (hb2.cell (p := ⟨w.heap.size, 3, none⟩) bs1).trans bx1_3
    clear bs1 bx1_0 bx1_1 bx1_2 bx1_3
    have HB2 := Lib.hid (HB1.out.trans (hb2.mono HB1.out.size))
    clear hb2
    go_wp2_with fail
    refine (spec_IsValidAttribute nm ty md c (by omega) _).mono ?_
    rintro e w3 ⟨rfl, hb3⟩
    have bs3 : w.heap.size < w3.heap.size := Nat.lt_of_lt_of_le bs2 hb3.size
    have bx3_0 : w3.cell? ⟨w.heap.size, 0, none⟩ = some _ := (hb3.cell (p := ⟨w.heap.size, 0, none⟩) bs2).trans bx2_0
    have bx3_1 : w3.cell? ⟨w.heap.size, 1, none⟩ = some _ := (hb3.cell (p := ⟨w.heap.size, 1, none⟩) bs2).trans bx2_1
    have bx3_2 : w3.cell? ⟨w.heap.size, 2, none⟩ = some _ := (hb3.cell (p := ⟨w.heap.size, 2, none⟩) bs2).trans bx2_2
    have bx3_3 : w3.cell? ⟨w.heap.size, 3, none⟩ = some _ := (hb3.cell (p := ⟨w.heap.size, 3, none⟩) bs2).trans bx2_3
    clear bs2 bx2_0 bx2_1 bx2_2 bx2_3
    have HB3 := Lib.hid (HB2.out.trans (hb3.mono HB2.out.size))
    clear hb3
    go_wp2_with fail
    refine (laws_toAttribute nm ty md c _).mono ?_
    rintro e w4 ⟨rfl, hb4⟩
    have bs4 : w.heap.size < w4.heap.size := Nat.lt_of_lt_of_le bs3 hb4.size
    have bx4_0 : w4.cell? ⟨w.heap.size, 0, none⟩ = some _ := (hb4.cell (p := ⟨w.heap.size, 0, none⟩) bs3).trans bx3_0
    have bx4_1 : w4.cell? ⟨w.heap.size, 1, none⟩ = some _ := (hb4.cell (p := ⟨w.heap.size, 1, none⟩) bs3).trans bx3_1
    have bx4_2 : w4.cell? ⟨w.heap.size, 2, none⟩ = some _ := (hb4.cell (p := ⟨w.heap.size, 2, none⟩) bs3).trans bx3_2
    have bx4_3 : w4.cell? ⟨w.heap.size, 3, none⟩ = some _ := (hb4.cell (p := ⟨w.heap.size, 3, none⟩) bs3).trans bx3_3
    clear bs3 bx3_0 bx3_1 bx3_2 bx3_3
    have HB4 := Lib.hid (HB3.out.trans (hb4.mono HB3.out.size))
    clear hb4
    go_wp2_with fail
    refine (impl_IsValidAttribute nm ty md c (by omega) _).mono ?_
    rintro e w5 ⟨rfl, hb5⟩
    have bs5 : w.heap.size < w5.heap.size := Nat.lt_of_lt_of_le bs4 hb5.size
    have bx5_0 : w5.cell? ⟨w.heap.size, 0, none⟩ = some _ := (hb5.cell (p := ⟨w.heap.size, 0, none⟩) bs4).trans bx4_0
    have bx5_1 : w5.cell? ⟨w.heap.size, 1, none⟩ = some _ := (hb5.cell (p := ⟨w.heap.size, 1, none⟩) bs4).trans bx4_1
    have bx5_2 : w5.cell? ⟨w.heap.size, 2, none⟩ = some _ := (hb5.cell (p := ⟨w.heap.size, 2, none⟩) bs4).trans bx4_2
    have bx5_3 : w5.cell? ⟨w.heap.size, 3, none⟩ = some _ := (hb5.cell (p := ⟨w.heap.size, 3, none⟩) bs4).trans bx4_3
    clear bs4 bx4_0 bx4_1 bx4_2 bx4_3
    have HB5 := Lib.hid (HB4.out.trans (hb5.mono HB4.out.size))
    clear hb5
    go_wp2
    go_ret
    exact ⟨rfl, HB5.out⟩
  · skip
    have hz := fun w => laws_szAttribute nm ty md c 1048576 (by decide) (by decide) ht w
    rw [if_neg hfit] at hz
    have HZ := Lib.hid hz
    clear hz
    have HB0 := Lib.hid ((Below.refl w.heap.size w).alloc (Nat.le_refl _) (.cells #[.string nm, .int .i64 ty, .int .i64 md, .bool c] 30))
    have BS0 := Lib.hid (show w.heap.size < (w.alloc (.cells #[.string nm, .int .i64 ty, .int .i64 md, .bool c] 30)).heap.size by simp)
    have BX0_0 := Lib.hid (show (w.alloc (.cells #[.string nm, .int .i64 ty, .int .i64 md, .bool c] 30)).cell? ⟨w.heap.size, 0, none⟩ = some (.string nm) by rw [World.cell?_alloc_new]; rfl)
    have BX0_1 := Lib.hid (show (w.alloc (.cells #[.string nm, .int .i64 ty, .int .i64 md, .bool c] 30)).cell? ⟨w.heap.size, 1, none⟩ = some (.int .i64 ty) by rw [World.cell?_alloc_new]; rfl)
    have BX0_2 := Lib.hid (show (w.alloc (.cells #[.string nm, .int .i64 ty, .int .i64 md, .bool c] 30)).cell? ⟨w.heap.size, 2, none⟩ = some (.int .i64 md) by rw [World.cell?_alloc_new]; rfl)
    have BX0_3 := Lib.hid (show (w.alloc (.cells #[.string nm, .int .i64 ty, .int .i64 md, .bool c] 30)).cell? ⟨w.heap.size, 3, none⟩ = some (.bool c) by rw [World.cell?_alloc_new]; rfl)
    go_enter Try.func4, Try.ntmps4
    go_wp2_with fail
    refine (HZ.out _).mono ?_
    rintro e w1 ⟨rfl, hb1⟩
    have bs1 : w.heap.size < w1.heap.size := Nat.lt_of_lt_of_le BS0.out hb1.size
    have bx1_0 : w1.cell? ⟨w.heap.size, 0, none⟩ = some _ := (hb1.cell (p := ⟨w.heap.size, 0, none⟩) BS0.out).trans BX0_0.out
    have bx1_1 : w1.cell? ⟨w.heap.size, 1, none⟩ = some _ := (hb1.cell (p := ⟨w.heap.size, 1, none⟩) BS0.out).trans BX0_1.out
    have bx1_2 : w1.cell? ⟨w.heap.size, 2, none⟩ = some _ := (hb1.cell (p := ⟨w.heap.size, 2, none⟩) BS0.out).trans BX0_2.out
    have bx1_3 : w1.cell? ⟨w.heap.size, 3, none⟩ = some _ := (hb1.cell (p := ⟨w.heap.size, 3, none⟩) BS0.out).trans BX0_3.out
    have HB1 := Lib.hid (HB0.out.trans (hb1.mono HB0.out.size))
    clear hb1
    go_wp2
    go_ret
    exact ⟨rfl, HB1.out⟩


set_option maxRecDepth 100000 in
theorem lifted (os : Os) (started : os.Started) (H : Type) (enc : TypeId × Value → H) :
    ReturnsInHanded {} Try.checked os 4 .any (Rows.fnExactIsValidAttributeSpec.pre6 enc Try.prog Try.f4 Rows.fnExactIsValidAttributeRow.domain false) (Rows.fnExactIsValidAttributeSpec.post enc Try.prog Try.f4 false true false false) := by
  refine returnsInHanded_of_change_sized (C := Try.checked) own started (by kernel_rfl) Try.func4
    (ChangeSpec.witness6 (enc := enc) (C := Try.checked) false ⟨#[], #[.agg #[.string ⟨#[]⟩, .int .i64 0, .int .i64 0, .bool false]], []⟩ 8 (by kernel_rfl) (by kernel_rfl) (by kernel_rfl) (by kernel_rfl)) ?_
  intro W base args ds gs before hval0 hW _ hsz0 _
  have hval : ∀ (j : Nat) t v, Try.f4.params[j]? = some t → args[j]? = some v → Value.okWide Try.prog W .any base t v := hval0
  obtain ⟨p, q, hA0, hV, hps, hfz, hnd⟩ := id hW
  have hA : DataW.TrodAll enc Try.prog W 0 (fun _ => true) true Try.f4.params.toList args.toList ds p := hA0
  have hsz : (DataW.weightsEach Try.prog (Try.f4.params.toList ++ Rows.fnExactIsValidAttributeSpec.plain.varTypes Try.prog) (ds ++ gs)).all (· ≤ reachBytes) = true := hsz0
  rw [Try.params4] at hA hval hsz
  obtain ⟨v0, vs0, d0, ds0, p0, q0, hargs, rfl, rfl, h0, r0⟩ := trodAll_cons hA
  obtain ⟨rfl, rfl, rfl⟩ := trodAll_nil r0
  obtain rfl : args = #[v0] := by cases args; simp_all
  obtain ⟨c0_0, c0_1, c0_2, c0_3, y0_0, y0_1, y0_2, y0_3, m0, rfl, rfl, rfl, hy0_0, hy0_1, hy0_2, hy0_3⟩ := open_agg4 Try.underlying30 (by kernel_rfl) (by kernel_rfl) (hval 0 30 v0 rfl rfl) h0
  obtain ⟨nm, e0_0, hx0_0, wf0_0⟩ := DataW.trod_string Try.underlying9 hy0_0
  simp only [List.cons.injEq, and_true] at e0_0
  subst e0_0
  have b0_0 := wf0_0
  unfold maxLen at b0_0
  obtain ⟨ty, e0_1, hx0_1, wf0_1⟩ := DataW.trod_int Try.underlying3 hy0_1
  simp only [List.cons.injEq, and_true] at e0_1
  subst e0_1
  have b0_1 := bounds_i64 wf0_1
  obtain ⟨md, e0_2, hx0_2, wf0_2⟩ := DataW.trod_int Try.underlying3 hy0_2
  simp only [List.cons.injEq, and_true] at e0_2
  subst e0_2
  have b0_2 := bounds_i64 wf0_2
  obtain ⟨c, e0_3, hx0_3⟩ := DataW.trod_bool Try.underlying4 hy0_3
  simp only [List.cons.injEq, and_true] at e0_3
  subst e0_3
  refine (walk nm ty md c b0_0 W).mono fun e W' ⟨he, hg⟩ => ?_
  subst he
  exact ⟨_, rfl, law_post laidOut (by kernel_rfl) rfl Try.underlying4 rfl rfl hW hg⟩

theorem said : Rows.FnExactIsValidAttributeSaid :=
  OpenClaim.holds_of_wide 4 Try.f4 rfl rfl rfl rfl rfl rfl rfl ⟨rfl, rfl, rfl, rfl, rfl⟩ rfl rfl rfl rfl rfl (by kernel_rfl) Try.func4 (by kernel_rfl)
    (of_decide_eq_true (by kernel_rfl)) (by unfold Func.isWrapper; first | (rw [if_pos (by decide +kernel)]; kernel_rfl) | (rw [if_neg (by decide +kernel)]; exact ⟨rfl, rfl⟩))
    (fun os started H enc _ => lifted os started H enc)

#print axioms said
end Go.Proofs.Ytjfcglhpgjgfbaa.fnExactIsValidAttribute
