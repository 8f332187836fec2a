/-
  The law FnNames: of every drawn list the sorted names are strictly ascending with the same elements, and of every drawn string a valid name is not reserved. No condition.
-/
import Derived.Test.YtlgddglhnnagpaaNamesL
import Derived.Test.YtlgddglhnnagpaaNam
import Derived.Test.YtlgddglhnnagpaaWith
import Derived.Test.YtlgddglhnnagpaaSort
import Derived.SizedLaws
namespace Go.Proofs.Ytlgddglhnnagpaa.fnNames
open Go.ChangeShapes Go.WideShapes Go.ChangeAt Go.RowKit Go.WideMaps Go.WideElems
open Go.ChangeMaps (open_string)
open Go.Lib

theorem sum_nine : ∀ {L : List ByteArray}, (∀ s ∈ L, s.size ≤ 9) → sumSize L ≤ 9 * L.length
  | [], _ => Nat.le_refl _
  | x :: r, h => by
    have h1 := sum_nine (L := r) fun s hs => h s (List.mem_cons_of_mem _ hs)
    have h2 := h x List.mem_cons_self
    unfold sumSize at *
    rw [List.map_cons, List.sum_cons, List.length_cons]
    omega
theorem valid_free {s : ByteArray} (h : validName s = true) : memB s resWords = false := by
  unfold validName at h
  rw [Bool.and_eq_true] at h
  simpa using h.2

set_option maxHeartbeats 3200000 in
set_option maxRecDepth 100000 in
theorem walk {a : Option Addr} {len cap : Nat} (w : World) (hc : Code w.heap.size w a len) :
    Calls Try.prog 3 #[.slice a len cap] w fun e w' => e = .returned (.bool true) ∧ Below w.heap.size w w' := by
  have HC := Lib.hid hc
  clear hc
  by_cases hbig : 1048576 < len
  · go_enter Try.func3, Try.ntmps3
    go_wp2_with fail
    refine (big_yes w hbig).mono ?_
    rintro e w' ⟨rfl, rfl⟩
    go_wp2
    go_ret
    exact ⟨rfl, Below.refl _ _⟩
  · have hsm : len ≤ 1048576 := by omega
    clear hbig
    go_enter Try.func3, Try.ntmps3
    go_wp2_with fail
    refine (big_no w hsm).mono ?_
    rintro e w' ⟨rfl, rfl⟩
    go_wp2_with fail
    refine (DrawSortNames w (Nat.le_refl _) hsm HC.out).mono ?_
    rintro e w1 ⟨g1, cap1, ss, rfl, hg1, ho1, hl5, hs9, hb1⟩
    have Fp1 := Lib.hid ho1
    have HB1 := Lib.hid hb1
    have hz1 := Lib.hid (Nat.le_trans (sum_nine hs9) (Nat.mul_le_mul_left 9 hl5))
    have hzL := Lib.hid (Nat.le_trans (sum_nine (L := srt ss) fun s hs => hs9 s (mem_srt.1 hs)) (Nat.mul_le_mul_left 9 (Nat.le_trans (srt_length_le ss) hl5)))
    have hL5 : (srt ss).length ≤ 5 := Nat.le_trans (srt_length_le ss) hl5
    have HASC := Lib.hid (srt_asc ss)
    have HSS := Lib.hid (srt_srt ss)
    have HND := Lib.hid (nodB_yes (srt_nodup ss))
    have HMEM := Lib.hid (fun x => @mem_srt ss x)
    have HWO := Lib.hid (wo_self (rs := ss) (ss := srt ss) fun x hx => mem_srt.1 hx)
    have HSN := Lib.hid (fun b off cap w hs => @impl_SortNames w.heap.size b off cap ss (by omega) w hs)
    clear ho1 hb1 hs9 hg1
    generalize srt ss = L at hzL hL5 HASC HSS HND HMEM HWO HSN
    go_wp2_with fail
    refine (HSN.out _ _ _ _ (Fp1.out.strs (by have := hz1.out; omega))).mono ?_
    rintro e w2 ⟨g2, cap2, rfl, hg2, ho2, hb2⟩
    have lt1_2 : g1 < g2 := Nat.lt_of_lt_of_le Fp1.out.lt hg2
    have lw2 : w.heap.size ≤ g2 := Nat.le_trans HB1.out.size hg2
    have Fp2 := Lib.hid (Fp1.out.later hb2)
    have HB2 := Lib.hid (HB1.out.trans (hb2.mono HB1.out.size))
    have Fo2 := Lib.hid ho2
    clear ho2 hb2 hg2
    go_wp2_with fail
    refine (laws_rising L (by omega) HASC.out _ (Fo2.out.strs (by have := hzL.out; omega))).mono ?_
    rintro e w3 ⟨rfl, hb3⟩
    have Fp3 := Lib.hid (Fp2.out.later hb3)
    have Fo3 := Lib.hid (Fo2.out.later hb3)
    have HB3 := Lib.hid (HB2.out.trans (hb3.mono HB2.out.size))
    clear hb3
    have hsn4 := fun b off cap w hs => @impl_SortNames w.heap.size b off cap L (by omega) w hs
    rw [HSS.out] at hsn4
    have HSN4 := Lib.hid hsn4
    clear hsn4
    go_wp2_with fail
    refine (HSN4.out _ _ _ _ (Fo3.out.strs (by have := hzL.out; omega))).mono ?_
    rintro e w4 ⟨g4, cap4, rfl, hg4, ho4, hb4⟩
    have lt1_4 : g1 < g4 := Nat.lt_of_lt_of_le Fp3.out.lt hg4
    have lt2_4 : g2 < g4 := Nat.lt_of_lt_of_le Fo3.out.lt hg4
    have lw4 : w.heap.size ≤ g4 := Nat.le_trans HB3.out.size hg4
    have Fp4 := Lib.hid (Fp3.out.later hb4)
    have Fo4 := Lib.hid (Fo3.out.later hb4)
    have HB4 := Lib.hid (HB3.out.trans (hb4.mono HB3.out.size))
    have Ft4 := Lib.hid ho4
    clear ho4 hb4 hg4
    go_wp2_with fail
    refine (laws_sameTexts L (by omega) _ (Ft4.out.strs (by have := hzL.out; omega)) (Fo4.out.strs (by have := hzL.out; omega))).mono ?_
    rintro e w5 ⟨rfl, hb5⟩
    have Fp5 := Lib.hid (Fp4.out.later hb5)
    have Fo5 := Lib.hid (Fo4.out.later hb5)
    have Ft5 := Lib.hid (Ft4.out.later hb5)
    have HB5 := Lib.hid (HB4.out.trans (hb5.mono HB4.out.size))
    clear hb5
    have had6 := fun b off cap w hs => @impl_AllDistinct w.heap.size b off cap L (by omega) w hs
    rw [HND.out] at had6
    have HAD6 := Lib.hid had6
    clear had6
    go_wp2_with fail
    refine (HAD6.out _ _ _ _ (Fo5.out.strs (by have := hzL.out; omega))).mono ?_
    rintro e w6 ⟨rfl, hb6⟩
    have Fp6 := Lib.hid (Fp5.out.later hb6)
    have Fo6 := Lib.hid (Fo5.out.later hb6)
    have Ft6 := Lib.hid (Ft5.out.later hb6)
    have HB6 := Lib.hid (HB5.out.trans (hb6.mono HB5.out.size))
    clear hb6
    go_wp2
    go_loopw [5] (fun i wr => ∃ k : Nat, k ≤ ss.length ∧ i = .int .i64 (k : Int) ∧ wr = w6) (fun i _ => ss.length - (RowKit.intOf i).toNat)
    case atStart => exact ⟨0, Nat.zero_le _, rfl, rfl⟩
    case round =>
      obtain ⟨k, hk, rfl, rfl⟩ := hrel
      by_cases hlt : k < ss.length
      · obtain ⟨b, off, eb, hbB, hsz, hc1⟩ := (Fp6.out.strs (by have := hz1.out; omega)).at k hlt
        injection eb with eb
        injection eb with e1 e2
        subst e1
        subst e2
        rw [Nat.zero_add] at hc1
        have hix : 0 ≤ Lib.idxOfS L (ss.getD k ByteArray.empty) := (Lib.idxOfS_nonneg_iff _ _).2 ((HMEM.out _).2 (by rw [List.getD_eq_getElem?_getD, List.getElem?_eq_getElem hlt]; exact List.getElem_mem hlt))
        generalize ss.getD k ByteArray.empty = x at hsz hc1 hix
        have HIX := Lib.hid (fun a cap w hs => @impl_IndexOf w.heap.size a cap L x (by omega) w hs)
        generalize Lib.idxOfS L x = z at hix HIX
        go_wp2_with fail
        refine (HIX.out _ _ _ (Fo6.out.strs (by have := hzL.out; omega))).mono ?_
        rintro e w' ⟨rfl, rfl⟩
        go_wp2
        go_roundw
        case rel => exact ⟨k + 1, by omega, by go_num, by trivial⟩
        case measure => simp [RowKit.intOf]; omega
      · obtain rfl : k = ss.length := by omega
        go_wp2_with fail
        refine (DrawIsValidName _ HB6.out.size hsm (HC.out.below HB6.out)).mono ?_
        rintro e w7 ⟨s, rfl, hs9, hb7⟩
        have Fp7 := Lib.hid (Fp6.out.later hb7)
        have Fo7 := Lib.hid (Fo6.out.later hb7)
        have Ft7 := Lib.hid (Ft6.out.later hb7)
        have HB7 := Lib.hid (HB6.out.trans (hb7.mono HB6.out.size))
        clear hb7
        have HV := Lib.hid (fun w => impl_IsValidName s (by omega) w)
        have HV2 := Lib.hid (fun w => spec_IsValidName s (by omega) w)
        cases hv : validName s
        · rw [hv] at HV HV2
          clear hv
          go_wp2_with fail
          refine (HV.out _).mono ?_
          rintro e w8 ⟨rfl, hb8⟩
          have Fp8 := Lib.hid (Fp7.out.later hb8)
          have Fo8 := Lib.hid (Fo7.out.later hb8)
          have Ft8 := Lib.hid (Ft7.out.later hb8)
          have HB8 := Lib.hid (HB7.out.trans (hb8.mono HB7.out.size))
          clear hb8
          go_wp2_with fail
          refine (HV2.out _).mono ?_
          rintro e w9 ⟨rfl, hb9⟩
          have Fp9 := Lib.hid (Fp8.out.later hb9)
          have Fo9 := Lib.hid (Fo8.out.later hb9)
          have Ft9 := Lib.hid (Ft8.out.later hb9)
          have HB9 := Lib.hid (HB8.out.trans (hb9.mono HB8.out.size))
          clear hb9
          go_wp2_with fail
          refine (HV.out _).mono ?_
          rintro e w10 ⟨rfl, hb10⟩
          have Fp10 := Lib.hid (Fp9.out.later hb10)
          have Fo10 := Lib.hid (Fo9.out.later hb10)
          have Ft10 := Lib.hid (Ft9.out.later hb10)
          have HB10 := Lib.hid (HB9.out.trans (hb10.mono HB9.out.size))
          clear hb10
          have hw11 := fun a cap a2 cap2 w hs hs2 => @impl_Without w.heap.size a a2 cap cap2 L ss (by omega) (by omega) (by have := hzL.out; omega) (by have := hz1.out; omega) w (Nat.le_refl _) hs hs2
          rw [HWO.out] at hw11
          have HW11 := Lib.hid hw11
          clear hw11
          go_wp2_with fail
          refine (HW11.out _ _ _ _ _ (Fo10.out.strs (by have := hzL.out; omega)) (Fp10.out.strs (by have := hz1.out; omega))).mono ?_
          rintro e w11 ⟨v, rfl, hv, hb11⟩
          rcases hv with ⟨rfl, _⟩ | ⟨g9, cap9, rfl, _, _⟩
          all_goals
            go_wp2
            go_ret
            exact ⟨rfl, HB10.out.trans (hb11.mono HB10.out.size)⟩
        · rw [hv] at HV HV2
          have hr := fun w => impl_IsReserved s (by omega) w
          rw [valid_free hv] at hr
          have HR := Lib.hid hr
          clear hr
          clear hv
          go_wp2_with fail
          refine (HV.out _).mono ?_
          rintro e w8 ⟨rfl, hb8⟩
          have Fp8 := Lib.hid (Fp7.out.later hb8)
          have Fo8 := Lib.hid (Fo7.out.later hb8)
          have Ft8 := Lib.hid (Ft7.out.later hb8)
          have HB8 := Lib.hid (HB7.out.trans (hb8.mono HB7.out.size))
          clear hb8
          go_wp2_with fail
          refine (HV2.out _).mono ?_
          rintro e w9 ⟨rfl, hb9⟩
          have Fp9 := Lib.hid (Fp8.out.later hb9)
          have Fo9 := Lib.hid (Fo8.out.later hb9)
          have Ft9 := Lib.hid (Ft8.out.later hb9)
          have HB9 := Lib.hid (HB8.out.trans (hb9.mono HB8.out.size))
          clear hb9
          go_wp2_with fail
          refine (HV.out _).mono ?_
          rintro e w10 ⟨rfl, hb10⟩
          have Fp10 := Lib.hid (Fp9.out.later hb10)
          have Fo10 := Lib.hid (Fo9.out.later hb10)
          have Ft10 := Lib.hid (Ft9.out.later hb10)
          have HB10 := Lib.hid (HB9.out.trans (hb10.mono HB9.out.size))
          clear hb10
          go_wp2_with fail
          refine (HR.out _).mono ?_
          rintro e w11 ⟨rfl, hb11⟩
          have Fp11 := Lib.hid (Fp10.out.later hb11)
          have Fo11 := Lib.hid (Fo10.out.later hb11)
          have Ft11 := Lib.hid (Ft10.out.later hb11)
          have HB11 := Lib.hid (HB10.out.trans (hb11.mono HB10.out.size))
          clear hb11
          have hw12 := fun a cap a2 cap2 w hs hs2 => @impl_Without w.heap.size a a2 cap cap2 L ss (by omega) (by omega) (by have := hzL.out; omega) (by have := hz1.out; omega) w (Nat.le_refl _) hs hs2
          rw [HWO.out] at hw12
          have HW12 := Lib.hid hw12
          clear hw12
          go_wp2_with fail
          refine (HW12.out _ _ _ _ _ (Fo11.out.strs (by have := hzL.out; omega)) (Fp11.out.strs (by have := hz1.out; omega))).mono ?_
          rintro e w12 ⟨v, rfl, hv, hb12⟩
          rcases hv with ⟨rfl, _⟩ | ⟨g9, cap9, rfl, _, _⟩
          all_goals
            go_wp2
            go_ret
            exact ⟨rfl, HB11.out.trans (hb12.mono HB11.out.size)⟩


set_option maxRecDepth 100000 in
theorem lifted (os : Os) (started : os.Started) (H : Type) (enc : TypeId × Value → H) :
    ReturnsInHanded {} Try.checked os 3 .any (Rows.fnNamesSpec.pre6 enc Try.prog Try.f3 Rows.fnNamesRow.domain false) (Rows.fnNamesSpec.post enc Try.prog Try.f3 false true false false) := by
  refine returnsInHanded_of_change_sized (C := Try.checked) own started (by kernel_rfl) Try.func3
    (ChangeSpec.witness6 (enc := enc) (C := Try.checked) false ⟨#[], #[.slice none 0 0], []⟩ 8 (by kernel_rfl) (by kernel_rfl) (by kernel_rfl) (by kernel_rfl)) ?_
  intro W base args ds gs before hval0 hW _ hsz0 _
  have hval : ∀ (j : Nat) t v, Try.f3.params[j]? = some t → args[j]? = some v → Value.okWide Try.prog W .any base t v := hval0
  obtain ⟨p, q, hA0, hV, hps, hfz, hnd⟩ := id hW
  have hA : DataW.TrodAll enc Try.prog W 0 (fun _ => true) true Try.f3.params.toList args.toList ds p := hA0
  have hsz : (DataW.weightsEach Try.prog (Try.f3.params.toList ++ Rows.fnNamesSpec.plain.varTypes Try.prog) (ds ++ gs)).all (· ≤ reachBytes) = true := hsz0
  rw [Try.params3] at hA hval hsz
  obtain ⟨v0, vs0, d0, ds0, p0, q0, hargs, rfl, rfl, h0, r0⟩ := trodAll_cons hA
  obtain ⟨rfl, rfl, rfl⟩ := trodAll_nil r0
  obtain rfl : args = #[v0] := by cases args; simp_all
  obtain ⟨a0, len0, cap0, rfl⟩ := okWide_slice Try.underlying22 (hval 0 22 v0 rfl rfl)
  have c0 := code_of_trod Try.underlying22 Try.underlying5 (by kernel_rfl) h0
  refine (walk W c0.2).mono fun e W' ⟨he, hg⟩ => ?_
  subst he
  exact ⟨_, rfl, law_post laidOut (by kernel_rfl) rfl Try.underlying4 rfl rfl hW hg⟩

theorem said : Rows.FnNamesSaid :=
  OpenClaim.holds_of_wide 3 Try.f3 rfl rfl rfl rfl rfl rfl rfl ⟨rfl, rfl, rfl, rfl, rfl⟩ rfl rfl rfl rfl rfl (by kernel_rfl) Try.func3 (by kernel_rfl)
    (of_decide_eq_true (by kernel_rfl)) (by unfold Func.isWrapper; first | (rw [if_pos (by decide +kernel)]; kernel_rfl) | (rw [if_neg (by decide +kernel)]; exact ⟨rfl, rfl⟩))
    (fun os started H enc _ => lifted os started H enc)

#print axioms said
end Go.Proofs.Ytlgddglhnnagpaa.fnNames
