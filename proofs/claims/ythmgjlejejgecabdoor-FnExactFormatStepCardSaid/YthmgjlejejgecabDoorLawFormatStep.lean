/-
  The law FnExactFormatStep: for every step the program's FormatStep returns what the model's returns. Its one condition is the card's: the library's tables hold what their initialisers lay (tied to the text).
-/
import Derived.Test.YthmgjlejejgecabDoorFmtStep
import Derived.Test.YthmgjlejejgecabDoorCards
import Derived.Test.YthmgjlejejgecabDoorTie
namespace Go.Proofs.YthmgjlejejgecabDoor.fnExactFormatStep
open Go.ChangeShapes Go.WideShapes Go.ChangeAt Go.RowKit Go.WideMaps Go.WideElems
open Go.ChangeMaps (open_string)
open Go.Lib

set_option maxHeartbeats 1600000 in
set_option maxRecDepth 100000 in
theorem walk (k p v : Int) (s : ByteArray) (h_k : -9223372036854775808 ≤ k ∧ k ≤ 9223372036854775807) (h_p : -9223372036854775808 ≤ p ∧ p ≤ 9223372036854775807) (h_v : -9223372036854775808 ≤ v ∧ v ≤ 9223372036854775807) (h_s : s.size ≤ 9223372036854775807) (w : World) (ht : Pow w) :
    Calls Tryd.prog 3 #[.agg #[.int .i64 k, .int .i64 p, .int .i64 v, .string s]] w fun e w' => e = .returned (.bool true) ∧ Below w.heap.size w w' := by
  have HT := Lib.hid ht
  have hz := fun w' => laws_szStep (⟨k, p, v, s⟩ : DStep) 1048576 (by decide) (by decide) ⟨h_k, h_p, h_v, h_s⟩ w'
  have HB0 := Lib.hid ((Below.refl w.heap.size w).alloc (Nat.le_refl _) (.cells #[.int .i64 k, .int .i64 p, .int .i64 v, .string s] 23))
  by_cases hfit : ((s.size : Nat) : Int) ≤ 1048576
  · rw [szR_le (show ((DStep.sz (⟨k, p, v, s⟩ : DStep) : Nat) : Int) ≤ 1048576 from hfit)] at hz
    have HZ := Lib.hid hz
    obtain ⟨l, hnl, hll⟩ := bytes_list s
    have hl : l.length ≤ 1048576 := by omega
    have HTO := Lib.hid (fun w' => laws_toStep (⟨k, p, v, s⟩ : DStep) w')
    have HS := Lib.hid (fun w' => spec_FormatStep k p v l h_p.1 h_p.2 h_v.1 h_v.2 hl w')
    have HI := Lib.hid (fun w' (hp : Pow w') => impl_FormatStep k p v l h_p.1 h_p.2 h_v.1 h_v.2 hl w' hp)
    have hnn : 0 ≤ 1048576 - ((DStep.sz (⟨k, p, v, s⟩ : DStep) : Nat) : Int) := Int.sub_nonneg_of_le hfit
    rw [← hnl] at HS HI
    generalize ((⟨(fmtStep k p v l).toArray⟩ : ByteArray)) = u at HS HI
    have HNN := Lib.hid hnn
    generalize DStep.sz (⟨k, p, v, s⟩ : DStep) = q at HZ HNN
    clear hz hnl hll hl hfit h_s hnn
    have hq := HNN.out
    go_enter Tryd.func3, Tryd.ntmps3
    go_wp2_with fail
    refine (HZ.out _).mono ?_
    rintro e w1 ⟨rfl, hb1⟩
    have x1_0 : w1.cell? ⟨w.heap.size, 0, none⟩ = some (.int .i64 k) := (hb1.cell (p := ⟨w.heap.size, 0, none⟩) (by simp)).trans (by go_simp)
    have x1_1 : w1.cell? ⟨w.heap.size, 1, none⟩ = some (.int .i64 p) := (hb1.cell (p := ⟨w.heap.size, 1, none⟩) (by simp)).trans (by go_simp)
    have x1_2 : w1.cell? ⟨w.heap.size, 2, none⟩ = some (.int .i64 v) := (hb1.cell (p := ⟨w.heap.size, 2, none⟩) (by simp)).trans (by go_simp)
    have x1_3 : w1.cell? ⟨w.heap.size, 3, none⟩ = some (.string s) := (hb1.cell (p := ⟨w.heap.size, 3, none⟩) (by simp)).trans (by go_simp)
    have hs1 : w.heap.size < w1.heap.size := Nat.lt_of_lt_of_le (by simp) hb1.size
    have HB1 := Lib.hid (HB0.out.trans (hb1.mono HB0.out.size))
    clear hb1
    go_wp2_with fail
    refine (HTO.out _).mono ?_
    rintro e w2 ⟨rfl, hb2⟩
    have x2_0 : w2.cell? ⟨w.heap.size, 0, none⟩ = some (.int .i64 k) := (hb2.cell (p := ⟨w.heap.size, 0, none⟩) hs1).trans x1_0
    have x2_1 : w2.cell? ⟨w.heap.size, 1, none⟩ = some (.int .i64 p) := (hb2.cell (p := ⟨w.heap.size, 1, none⟩) hs1).trans x1_1
    have x2_2 : w2.cell? ⟨w.heap.size, 2, none⟩ = some (.int .i64 v) := (hb2.cell (p := ⟨w.heap.size, 2, none⟩) hs1).trans x1_2
    have x2_3 : w2.cell? ⟨w.heap.size, 3, none⟩ = some (.string s) := (hb2.cell (p := ⟨w.heap.size, 3, none⟩) hs1).trans x1_3
    have HB2 := Lib.hid (HB1.out.trans (hb2.mono HB1.out.size))
    have hs2 : w.heap.size < w2.heap.size := Nat.lt_of_lt_of_le hs1 hb2.size
    clear hb2 x1_0 x1_1 x1_2 x1_3 hs1
    go_wp2_with fail
    refine (HS.out _).mono ?_
    rintro e w3 ⟨rfl, hb3⟩
    have x3_0 : w3.cell? ⟨w.heap.size, 0, none⟩ = some (.int .i64 k) := (hb3.cell (p := ⟨w.heap.size, 0, none⟩) hs2).trans x2_0
    have x3_1 : w3.cell? ⟨w.heap.size, 1, none⟩ = some (.int .i64 p) := (hb3.cell (p := ⟨w.heap.size, 1, none⟩) hs2).trans x2_1
    have x3_2 : w3.cell? ⟨w.heap.size, 2, none⟩ = some (.int .i64 v) := (hb3.cell (p := ⟨w.heap.size, 2, none⟩) hs2).trans x2_2
    have x3_3 : w3.cell? ⟨w.heap.size, 3, none⟩ = some (.string s) := (hb3.cell (p := ⟨w.heap.size, 3, none⟩) hs2).trans x2_3
    have HB3 := Lib.hid (HB2.out.trans (hb3.mono HB2.out.size))
    have hs3 : w.heap.size < w3.heap.size := Nat.lt_of_lt_of_le hs2 hb3.size
    clear hb3 x2_0 x2_1 x2_2 x2_3 hs2
    go_wp2_with fail
    refine (HTO.out _).mono ?_
    rintro e w4 ⟨rfl, hb4⟩
    have HB4 := Lib.hid (HB3.out.trans (hb4.mono HB3.out.size))
    clear hb4 x3_0 x3_1 x3_2 x3_3 hs3
    go_wp2_with fail
    refine (HI.out _ (HT.out.below HB4.out)).mono ?_
    rintro e w5 ⟨rfl, hb5⟩
    have HB5 := Lib.hid (HB4.out.trans (hb5.mono HB4.out.size))
    clear hb5
    go_wp2
    go_ret
    exact ⟨rfl, HB5.out⟩
  · rw [szR_gt (show (1048576 : Int) < ((DStep.sz (⟨k, p, v, s⟩ : DStep) : Nat) : Int) from by show (1048576 : Int) < ((s.size : Nat) : Int); omega)] at hz
    have HZ := Lib.hid hz
    clear hz
    go_enter Tryd.func3, Tryd.ntmps3
    go_wp2_with fail
    refine (HZ.out _).mono ?_
    rintro e w1 ⟨rfl, hb1⟩
    go_wp2
    go_ret
    exact ⟨rfl, HB0.out.trans (hb1.mono HB0.out.size)⟩

theorem pow_laid {W : World} (h : laidMetH Tryd.prog Rows.fnExactFormatStepRow.laid W) : Pow W := by
  rw [MakeChecks.laidMetH_plain _ _ _ (by kernel_rfl)] at h
  exact pow_of (laidMet.tail (laidMet.tail h))



/-- The door's own heap meets the condition. -/
theorem door_met (os : Os) (args : Array Value) : laidMetH Tryd.prog Rows.fnExactFormatStepRow.laid ((World.doorLaid Tryd.prog 400 os).forCall (fun _ _ => 0) ⟨#[], args, []⟩).memory :=
  laidMetH_of_parts3 (fuel := 8) (laidMet_of_run' 8 (by kernel_rfl) (by kernel_rfl)) (by kernel_rfl) (by kernel_rfl)

set_option maxRecDepth 100000 in
theorem lifted (os : Os) (started : os.Started) (H : Type) (enc : TypeId × Value → H) :
    ReturnsInHanded {} Tryd.checked os 3 .any (fun w args => (Rows.fnExactFormatStepSpec.pre enc Tryd.prog Tryd.f3 [] false w args ∧ laidMetH Tryd.prog Rows.fnExactFormatStepRow.laid w) ∧ sizedMet enc Tryd.prog Tryd.f3 (OpenSpec.ofChange Rows.fnExactFormatStepSpec) false w args)
      (Rows.fnExactFormatStepSpec.post enc Tryd.prog Tryd.f3 false true false false) := by
  refine returnsInHanded_of_change_and (C := Tryd.checked) (X := fun w _ => laidMetH Tryd.prog Rows.fnExactFormatStepRow.laid w) (fun _ _ _ hh h => h.of_heap hh) own started (by kernel_rfl) Tryd.func3
    (ChangeSpec.witness_shaped (enc := enc) (C := Tryd.checked) (os := os) (X := fun w _ => laidMetH Tryd.prog Rows.fnExactFormatStepRow.laid w) false (World.doorLaid Tryd.prog 400 os) #[.agg #[.int .i64 0, .int .i64 0, .int .i64 0, .string ⟨#[]⟩]] 8 rfl (World.shaped_of_RefB (by kernel_rfl) (by kernel_rfl)) (by kernel_rfl) (by kernel_rfl) (by kernel_rfl) (door_met os _)) ?_
  intro W base args ds gs before hval0 hW _ hsz0 hL _
  have hval : ∀ (j : Nat) t v, Tryd.f3.params[j]? = some t → args[j]? = some v → Value.okWide Tryd.prog W .any base t v := hval0
  obtain ⟨p, q, hA0, hV, hps, hfz, hnd⟩ := id hW
  have hA : DataW.TrodAll enc Tryd.prog W 0 (fun _ => true) true Tryd.f3.params.toList args.toList ds p := hA0
  have hsz : (DataW.weightsEach Tryd.prog (Tryd.f3.params.toList ++ Rows.fnExactFormatStepSpec.plain.varTypes Tryd.prog) (ds ++ gs)).all (· ≤ reachBytes) = true := hsz0
  rw [Tryd.params3] at hA hval hsz
  obtain ⟨v0, vs0, d0, ds0, p0, q0, hargs, rfl, rfl, h0, r0⟩ := trodAll_cons hA
  obtain ⟨rfl, rfl, rfl⟩ := trodAll_nil r0
  obtain rfl : args = #[v0] := by cases args; simp_all
  obtain ⟨⟨k, p, v, s⟩, rfl, hok⟩ := arg_step (hval 0 23 v0 rfl rfl) h0
  obtain ⟨h_k, h_p, h_v, h_s⟩ := id hok
  refine (walk k p v s h_k h_p h_v h_s W (pow_laid hL)).mono fun e W' ⟨he, hg⟩ => ?_
  subst he
  exact ⟨_, rfl, law_post laidOut (by kernel_rfl) rfl Tryd.underlying4 rfl rfl hW hg⟩

theorem said : Rows.FnExactFormatStepSaid :=
  OpenClaim.holds_of_wide 3 Tryd.f3 rfl rfl rfl rfl rfl rfl rfl ⟨rfl, rfl, rfl, rfl, rfl⟩ rfl rfl rfl rfl rfl (by kernel_rfl) Tryd.func3 (by kernel_rfl)
    (of_decide_eq_true (by kernel_rfl)) (by unfold Func.isWrapper; first | (rw [if_pos (by decide +kernel)]; kernel_rfl) | (rw [if_neg (by decide +kernel)]; exact ⟨rfl, rfl⟩))
    (fun os started H enc _ => lifted os started H enc)

/-- No parameter wants a stand-in; the program's own looks are as the card says. -/
theorem plain (f : FuncId) (fn : Func) (hf : Tryd.pinned.checked.prog.funcNamed "loop.example/g00512/laws.FnExactFormatStep" = some f) (hfn : Tryd.pinned.checked.prog.funcs[f]? = some fn) :
    false = Tryd.pinned.checked.prog.looks [] ∧ ∀ (j : Nat) t, fn.params[j]? = some t → Tryd.pinned.checked.prog.wantsStandIn t = false := by
  obtain rfl : f = 3 := Option.some.inj ((show Tryd.prog.funcNamed "loop.example/g00512/laws.FnExactFormatStep" = some 3 by kernel_rfl).symm.trans hf) |>.symm
  obtain rfl : fn = Tryd.f3 := (Option.some.inj (Tryd.func3.symm.trans hfn)).symm
  refine ⟨by kernel_rfl, fun j t ht => ?_⟩
  rw [Tryd.params3] at ht
  have hm := Array.mem_of_getElem? ht
  simp only [List.mem_toArray, List.mem_cons, List.not_mem_nil, or_false] at hm
  rcases hm with rfl
  exact (show Tryd.prog.wantsStandIn 23 = false by kernel_rfl)

theorem card : Rows.FnExactFormatStepCardSaid :=
  Claim7.holds_tied_plain_at .later [] _ _ _ _ said (fun _ h => by cases h) (by kernel_rfl) (fun _ h => by cases h) fnExactFormatStep_row_tie rfl ⟨rfl, rfl⟩ (by kernel_rfl) rfl plain (by kernel_rfl)
#print axioms card
end Go.Proofs.YthmgjlejejgecabDoor.fnExactFormatStep
