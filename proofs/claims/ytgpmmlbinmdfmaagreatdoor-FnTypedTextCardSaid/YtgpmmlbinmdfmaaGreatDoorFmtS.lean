/-
  Chapter 3 in the model: FormatTyped.
-/
import Derived.Test.YtgpmmlbinmdfmaaGreatDoorFmtT
namespace Go.Proofs.YtgpmmlbinmdfmaaGreatDoor
open Go.ChangeShapes Go.WideShapes Go.ChangeAt Go.RowKit
open Go.Lib Num

theorem hasB_at (x : Int) (k : Nat) (hk : k ≤ 11) : hasB x (k : Int) = (bits .and .i64 (x / 2 ^ k) 1 == 1) := by
  rw [hasB_yes (inR_yes (by omega) (by omega)), Int.toNat_natCast]

set_option maxHeartbeats 1600000 in
set_option maxRecDepth 100000 in
theorem spec_FormatSet (x : Int) (ht : isOf x 2 = true) (w : World) :
    Calls Tryz.prog 9 #[.int .i64 x, .int .i64 2] w fun e w' => e = .returned (.string ⟨(123 :: setB x ++ [125]).toArray⟩) ∧ Below w.heap.size w w' := by
  have hI := fun w => spec_IsOfType x 2 w
  rw [ht] at hI
  have HI := Lib.hid hI
  clear hI ht
  obtain ⟨i0, hi, hz0, hz1, hz2⟩ := info_parts info_string
  have HO0 := Lib.hid (show (w.alloc (.cells #[] 9)).ownsRow w.heap.size 9 1 (.slice (some ⟨w.heap.size, 0, none⟩) 0 0) (elems x 0).length ((elems x 0).map Value.string) from World.ownsRow_made w #[] 0 (Nat.le_refl _) (Nat.zero_le _) rfl)
  go_enter Tryz.func9, Tryz.ntmps9
  go_wp2_with fail
  refine (HI.out _).mono ?_
  rintro e w' ⟨rfl, rfl⟩
  go_wp2
  go_loopw [5, 6] (fun v i wr => ∃ k : Nat, k ≤ 12 ∧ i = .int .i64 (k : Int) ∧ wr.ownsRow w.heap.size 9 1 v (elems x k).length ((elems x k).map Value.string) ∧ v ≠ .slice none 0 0 ∧ Below w.heap.size w wr) (fun _ i _ => 12 - (RowKit.intOf i).toNat)
  case atStart => exact ⟨0, Nat.zero_le _, rfl, HO0.out, by simp, (Below.refl _ w).alloc (Nat.le_refl _) _⟩
  case round =>
    clear HO0
    obtain ⟨k, hk, rfl, hown, hne, hbl⟩ := hrel
    have HO := Lib.hid hown
    have HNE := Lib.hid hne
    have HB := Lib.hid hbl
    have hl := elems_length x k
    have hsz : w.heap.size ≤ wr.heap.size := hbl.size
    clear hown hbl hne
    generalize hL : (elems x k).length = L at hl
    have HL := Lib.hid hL
    clear hL
    by_cases hlt : k < 12
    · have hat := hasB_at x k (by omega)
      have hk11 : (k : Int) ≤ 11 := by omega
      cases hh : hasB x (k : Int)
      · have hst := Lib.hid (elems_no hh)
        have t1 : (bits .and .i64 (x / 2 ^ k) 1 == 1) = false := by rw [← hat, hh]
        clear hh hat
        go_wp2
        go_roundw
        case rel => exact ⟨k + 1, by omega, by go_num, by rw [hst.out]; exact HO.out, HNE.out, HB.out⟩
        case measure => simp [RowKit.intOf]; omega
      · have hst := Lib.hid (elems_yes hh)
        have t1 : (bits .and .i64 (x / 2 ^ k) 1 == 1) = true := by rw [← hat, hh]
        clear hh hat
        go_wp2_with fail
        refine (spec_FormatInt (k : Int) (by omega) (by omega) _).mono ?_
        rintro e w2 ⟨rfl, hb2⟩
        have HO2 := Lib.hid (HO.out.kept (row := none) ⟨hb2.os, hb2.tape, hb2.output, hb2.size, fun k hk _ => hb2.block k hk⟩ (by
          cases hv : (Value.ownBlock u5) with
          | none => exact Or.inl rfl
          | some j => exact Or.inr (by simp)))
        have HB2 := Lib.hid (HB.out.trans (hb2.mono HB.out.size))
        have hsz2 : w.heap.size ≤ w2.heap.size := HB2.out.size
        clear hb2 t1
        change Hid (elems x (k + 1) = elems x k ++ [num k]) at hst
        go_wp2_with (at_builtin; refine wpList_append_own _ rfl (.tmp 38) (.tmp 41) 35 rfl w.heap.size 9 i0 (.string ⟨#[]⟩) 1 16 Tryz.underlying35 hi hz0 hz1 hz2 rfl (by decide) _ _ _ rfl (HO2.out.alloc _) ⟨w2.heap.size, 0, none⟩ 1 1 [.string (num k)] rfl rfl (cell_one_new _ _ _) (by intro u hu; simp at hu; subst hu; rfl) (by unfold maxLen; have := HL.out; omega) (by have := HL.out; omega) (by simp; omega) ?_; intro v' w3 hown' hgrow hnil)
        have R1 := own_one hown' rfl
        rw [← hst.out] at R1
        have R2 : v' ≠ .slice none 0 0 := fun h => absurd (hnil.1 h).2 (by decide)
        have R3 : Below w.heap.size w w3 := (HB2.out.alloc HB2.out.size _).grown hgrow (by simp; omega) (fun g hg => (HO2.out.lt g hg).1)
        have R1' := Lib.hid R1
        have R2' := Lib.hid R2
        clear hown' hgrow hnil R1 R2
        go_wp2
        go_roundw
        case rel => exact ⟨k + 1, by omega, by go_num, R1'.out, R2'.out, R3⟩
        case measure => simp [RowKit.intOf]; omega
    · obtain rfl : k = 12 := by omega
      rcases own_split HO.out with ⟨h, _⟩ | ⟨g, cap', hv, hg, ho2⟩
      · exact absurd h HNE.out
      · subst hv
        have hJ := spec_Join (cap := cap') (elems x 12) ⟨#[32]⟩ (by decide) (by have := HL.out; omega) (by have := elems_sum x; omega) wr (Nat.le_refl _) (ho2.strs (by have := elems_sum x; omega))
        have hJ2 : Calls Tryz.prog 21 #[.slice (some ⟨g, 0, none⟩) (elems x 12).length cap', .string ⟨#[32]⟩] wr fun e w' => e = .returned (.string ⟨(setB x).toArray⟩) ∧ Below wr.heap.size wr w' := hJ
        have HJ := Lib.hid hJ2
        have hs := setB_short x
        clear hJ hJ2
        generalize hu : setB x = u at HJ hs
        have HU := Lib.hid hu
        clear hu
        have hadd1 := fun w' => run_string_add_lists (P := Tryz.prog) w' [123] u (by simp) (by omega)
        have hadd2 := fun w' => run_string_add_lists (P := Tryz.prog) w' ([123] ++ u) [125] (by simp; omega) (by simp)
        go_wp2_with fail
        refine HJ.out.mono ?_
        rintro e w2 ⟨rfl, hb2⟩
        go_wp2
        go_ret
        exact ⟨by rw [HU.out]; exact congrArg (fun b => Ending.returned (Value.string b)) (mk_app (123 :: u) [125]), HB.out.trans (hb2.mono HB.out.size)⟩

set_option maxHeartbeats 1600000 in
set_option maxRecDepth 100000 in
theorem spec_FormatTyped (x k : Int) (w : World) :
    Calls Tryz.prog 9 #[.int .i64 x, .int .i64 k] w fun e w' => e = .returned (.string ⟨(ftyp x k).toArray⟩) ∧ Below w.heap.size w w' := by
  have HI := Lib.hid (fun w => spec_IsOfType x k w)
  cases ht : isOf x k
  · rw [ht] at HI
    rw [ftyp_no ht]
    clear ht
    go_enter Tryz.func9, Tryz.ntmps9
    go_wp2_with fail
    refine (HI.out _).mono ?_
    rintro e w' ⟨rfl, rfl⟩
    go_wp2
    go_ret
    exact ⟨rfl, Below.refl _ _⟩
  · have hr := isOf_range ht
    rw [ht] at HI
    rcases (by have := isOf_kind ht; omega : k = 1 ∨ k = 2 ∨ k = 3 ∨ k = 4) with rfl | rfl | rfl | rfl
    · rw [ftyp_1 ht]
      have HF := Lib.hid (fun w => spec_FormatInt x (by omega) (by omega) w)
      clear ht
      generalize itoa x = u at HF ⊢
      go_enter Tryz.func9, Tryz.ntmps9
      go_wp2_with fail
      refine (HI.out _).mono ?_
      rintro e w' ⟨rfl, rfl⟩
      go_wp2_with fail
      refine (HF.out _).mono ?_
      rintro e w2 ⟨rfl, hb2⟩
      go_wp2
      go_ret
      exact ⟨rfl, hb2⟩
    · rw [ftyp_2 ht]
      exact spec_FormatSet x ht w
    · rw [ftyp_3 ht]
      have h01 := isOf_truth ht
      clear ht hr
      rcases h01 with rfl | rfl
      all_goals
        go_enter Tryz.func9, Tryz.ntmps9
        go_wp2_with fail
        refine (HI.out _).mono ?_
        rintro e w' ⟨rfl, rfl⟩
        go_wp2
        go_ret
        exact ⟨rfl, Below.refl _ _⟩
    · rw [ftyp_4 ht]
      by_cases h : x = 0
      · subst h
        rw [if_pos rfl]
        clear ht hr
        go_enter Tryz.func9, Tryz.ntmps9
        go_wp2_with fail
        refine (HI.out _).mono ?_
        rintro e w' ⟨rfl, rfl⟩
        go_wp2
        go_ret
        exact ⟨rfl, Below.refl _ _⟩
      · rw [if_neg h]
        have e0 : (x == 0) = false := beq_eq_false_iff_ne.2 h
        have HF := Lib.hid (fun w => spec_FormatInt x (by omega) (by omega) w)
        have hl := itoa_short x hr.1 hr.2
        clear h ht hr
        generalize itoa x = u at HF hl ⊢
        have hadd1 := fun w' => run_string_add_lists (P := Tryz.prog) w' [35] u (by simp) (by omega)
        go_enter Tryz.func9, Tryz.ntmps9
        go_wp2_with fail
        refine (HI.out _).mono ?_
        rintro e w' ⟨rfl, rfl⟩
        go_wp2_with fail
        refine (HF.out _).mono ?_
        rintro e w2 ⟨rfl, hb2⟩
        go_wp2
        go_ret
        exact ⟨rfl, hb2⟩
end Go.Proofs.YtgpmmlbinmdfmaaGreatDoor
