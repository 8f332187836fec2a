/-
  Chapter 8: IsValidAttribute, in the model and in the program; the laws' own helpers on an attribute.
-/
import Derived.Test.YteeehpldkhceoaaNam
import Derived.Test.YteeehpldkhceoaaV0
namespace Go.Proofs.Yteeehpldkhceoaa
open Go.ChangeShapes Go.WideShapes Go.ChangeAt Go.RowKit

/-- The type, the mode and the mark of an attribute fit. -/
def kindB (ty md : Int) (c : Bool) : Bool := inR ty 1 4 && inR md 1 3 && (if md = 3 then ty == 2 && !c else !c || ty == 2)
def attrB (nm : ByteArray) (ty md : Int) (c : Bool) : Bool := validName nm && kindB ty md c
theorem kind_ty {ty md : Int} {c : Bool} (h : inR ty 1 4 = false) : kindB ty md c = false := by unfold kindB; rw [h]; rfl
theorem kind_md {ty md : Int} {c : Bool} (h : inR md 1 3 = false) : kindB ty md c = false := by unfold kindB; rw [h, Bool.and_false]; rfl
theorem kind_12 {ty md : Int} {c : Bool} (h : inR ty 1 4 = true) (hm : md = 1 ∨ md = 2) : kindB ty md c = (!c || ty == 2) := by
  unfold kindB
  rw [h, if_neg (by omega), inR_yes (by omega) (by omega)]; rfl
theorem kind_3 {ty : Int} {c : Bool} (h : inR ty 1 4 = true) : kindB ty 3 c = (ty == 2 && !c) := by
  unfold kindB
  rw [h, if_pos rfl]; rfl
theorem attr_no {nm : ByteArray} {ty md : Int} {c : Bool} (h : validName nm = false) : attrB nm ty md c = false := by unfold attrB; rw [h]; rfl
theorem attr_yes {nm : ByteArray} {ty md : Int} {c : Bool} (h : validName nm = true) : attrB nm ty md c = kindB ty md c := by unfold attrB; rw [h]; rfl

theorem impl_isType (n : Int) (w : World) :
    Calls Try.prog 45 #[.int .i64 n] w fun e w' => e = .returned (.bool (inR n 1 4)) ∧ w = w' := by
  rcases (by omega : n < 1 ∨ (1 ≤ n ∧ 4 < n) ∨ (1 ≤ n ∧ n ≤ 4)) with h | ⟨h, h'⟩ | ⟨h, h'⟩
  · go_enter Try.func45, Try.ntmps45
    go_wp2
    go_ret
    exact ⟨ret_b (by rw [inR_no (Or.inl h)]), rfl⟩
  · go_enter Try.func45, Try.ntmps45
    go_wp2
    go_ret
    exact ⟨ret_b (by rw [inR_no (Or.inr h'), decide_eq_false (by omega)]), rfl⟩
  · go_enter Try.func45, Try.ntmps45
    go_wp2
    go_ret
    exact ⟨ret_b (by rw [inR_yes h h']), rfl⟩

set_option maxHeartbeats 800000 in
set_option maxRecDepth 100000 in
theorem impl_isValidKind (nm : ByteArray) (ty md : Int) (c : Bool) (w : World) :
    Calls Try.prog 37 #[.agg #[.string nm, .int .i64 ty, .int .i64 md, .bool c]] w fun e w' => e = .returned (.bool (kindB ty md c)) ∧ Below w.heap.size w w' := by
  have HB0 := Lib.hid ((Below.refl w.heap.size w).alloc (Nat.le_refl _) (.cells #[.string nm, .int .i64 ty, .int .i64 md, .bool c] 36))
  have BS0 := Lib.hid (show w.heap.size < (w.alloc (.cells #[.string nm, .int .i64 ty, .int .i64 md, .bool c] 36)).heap.size by simp)
  have BX0_0 := Lib.hid (show (w.alloc (.cells #[.string nm, .int .i64 ty, .int .i64 md, .bool c] 36)).cell? ⟨w.heap.size, 0, none⟩ = some (.string nm) by rw [World.cell?_alloc_new]; rfl)
  have BX0_1 := Lib.hid (show (w.alloc (.cells #[.string nm, .int .i64 ty, .int .i64 md, .bool c] 36)).cell? ⟨w.heap.size, 1, none⟩ = some (.int .i64 ty) by rw [World.cell?_alloc_new]; rfl)
  have BX0_2 := Lib.hid (show (w.alloc (.cells #[.string nm, .int .i64 ty, .int .i64 md, .bool c] 36)).cell? ⟨w.heap.size, 2, none⟩ = some (.int .i64 md) by rw [World.cell?_alloc_new]; rfl)
  have BX0_3 := Lib.hid (show (w.alloc (.cells #[.string nm, .int .i64 ty, .int .i64 md, .bool c] 36)).cell? ⟨w.heap.size, 3, none⟩ = some (.bool c) by rw [World.cell?_alloc_new]; rfl)
  have hT := fun w => impl_isType ty w
  rcases (by omega : (md < 1 ∨ 3 < md) ∨ (md = 1 ∨ md = 2) ∨ md = 3) with hm | hm | hm
  · have fin := Lib.hid (kind_md (ty := ty) (c := c) (inR_no hm))
    have e1 : (md == 1) = false := beq_eq_false_iff_ne.2 (by omega)
    have e2 : (md == 2) = false := beq_eq_false_iff_ne.2 (by omega)
    have e3 : (md == 3) = false := beq_eq_false_iff_ne.2 (by omega)
    clear hT hm
    go_enter Try.func37, Try.ntmps37
    go_wp2
    go_ret
    exact ⟨ret_b fin.out.symm, HB0.out⟩
  · cases ht : inR ty 1 4
    · rw [ht] at hT
      have fin := Lib.hid (kind_ty (md := md) (c := c) ht)
      have HT := Lib.hid hT
      clear hT ht
      rcases hm with rfl | rfl
      all_goals
        go_enter Try.func37, Try.ntmps37
        go_wp2_with fail
        refine (HT.out _).mono ?_
        rintro e w' ⟨rfl, rfl⟩
        go_wp2
        go_ret
        exact ⟨ret_b fin.out.symm, HB0.out⟩
    · rw [ht] at hT
      have fin := Lib.hid (kind_12 (c := c) ht hm)
      have HT := Lib.hid hT
      clear hT ht
      by_cases h2 : ty = 2
      · subst h2
        rcases hm with rfl | rfl
        all_goals
          cases c
          all_goals
            go_enter Try.func37, Try.ntmps37
            go_wp2_with fail
            refine (HT.out _).mono ?_
            rintro e w' ⟨rfl, rfl⟩
            go_wp2
            go_ret
            exact ⟨ret_b fin.out.symm, HB0.out⟩
      · have t2 : (ty == 2) = false := beq_eq_false_iff_ne.2 h2
        clear h2
        rcases hm with rfl | rfl
        all_goals
          cases c
          all_goals
            rw [t2] at fin
            go_enter Try.func37, Try.ntmps37
            go_wp2_with fail
            refine (HT.out _).mono ?_
            rintro e w' ⟨rfl, rfl⟩
            go_wp2
            go_ret
            exact ⟨ret_b fin.out.symm, HB0.out⟩
  · subst hm
    by_cases h2 : ty = 2
    · subst h2
      have fin := Lib.hid (kind_3 (ty := 2) (c := c) rfl)
      rw [show inR 2 1 4 = true from rfl] at hT
      have HT := Lib.hid hT
      clear hT
      cases c
      · go_enter Try.func37, Try.ntmps37
        go_wp2_with fail
        refine (HT.out _).mono ?_
        rintro e w' ⟨rfl, rfl⟩
        go_wp2
        go_ret
        exact ⟨ret_b fin.out.symm, HB0.out⟩
      · go_enter Try.func37, Try.ntmps37
        go_wp2
        go_ret
        exact ⟨ret_b fin.out.symm, HB0.out⟩
    · have fin : Hid (kindB ty 3 c = false) := by
        show _ = _
        cases ht : inR ty 1 4
        · exact kind_ty ht
        · rw [kind_3 ht, beq_eq_false_iff_ne.2 h2]; rfl
      have t2 : (ty == 2) = false := beq_eq_false_iff_ne.2 h2
      have t3 : (ty != 2) = true := bne_iff_ne.2 h2
      clear hT h2
      go_enter Try.func37, Try.ntmps37
      go_wp2
      go_ret
      exact ⟨ret_b fin.out.symm, HB0.out⟩

set_option maxHeartbeats 800000 in
set_option maxRecDepth 100000 in
theorem impl_IsValidAttribute (nm : ByteArray) (ty md : Int) (c : Bool) (hz : nm.size ≤ 1048576) (w : World) :
    Calls Try.prog 24 #[.agg #[.string nm, .int .i64 ty, .int .i64 md, .bool c]] w fun e w' => e = .returned (.bool (attrB nm ty md c)) ∧ Below w.heap.size w w' := by
  have HB0 := Lib.hid ((Below.refl w.heap.size w).alloc (Nat.le_refl _) (.cells #[.string nm, .int .i64 ty, .int .i64 md, .bool c] 36))
  have BS0 := Lib.hid (show w.heap.size < (w.alloc (.cells #[.string nm, .int .i64 ty, .int .i64 md, .bool c] 36)).heap.size by simp)
  have BX0_0 := Lib.hid (show (w.alloc (.cells #[.string nm, .int .i64 ty, .int .i64 md, .bool c] 36)).cell? ⟨w.heap.size, 0, none⟩ = some (.string nm) by rw [World.cell?_alloc_new]; rfl)
  have BX0_1 := Lib.hid (show (w.alloc (.cells #[.string nm, .int .i64 ty, .int .i64 md, .bool c] 36)).cell? ⟨w.heap.size, 1, none⟩ = some (.int .i64 ty) by rw [World.cell?_alloc_new]; rfl)
  have BX0_2 := Lib.hid (show (w.alloc (.cells #[.string nm, .int .i64 ty, .int .i64 md, .bool c] 36)).cell? ⟨w.heap.size, 2, none⟩ = some (.int .i64 md) by rw [World.cell?_alloc_new]; rfl)
  have BX0_3 := Lib.hid (show (w.alloc (.cells #[.string nm, .int .i64 ty, .int .i64 md, .bool c] 36)).cell? ⟨w.heap.size, 3, none⟩ = some (.bool c) by rw [World.cell?_alloc_new]; rfl)
  have hN := fun w => impl_IsValidName nm hz w
  cases hv : validName nm
  · rw [hv] at hN
    have fin := Lib.hid (attr_no (ty := ty) (md := md) (c := c) hv)
    have HN := Lib.hid hN
    clear hN hv
    go_enter Try.func24, Try.ntmps24
    go_wp2_with fail
    refine (HN.out _).mono ?_
    rintro e w1 ⟨rfl, hb1⟩
    have bs1 : w.heap.size < w1.heap.size := Nat.lt_of_lt_of_le BS0.out hb1.size
    have bx1_0 : w1.cell? ⟨w.heap.size, 0, none⟩ = some _ := (hb1.cell (p := ⟨w.heap.size, 0, none⟩) BS0.out).trans BX0_0.out
    have bx1_1 : w1.cell? ⟨w.heap.size, 1, none⟩ = some _ := (hb1.cell (p := ⟨w.heap.size, 1, none⟩) BS0.out).trans BX0_1.out
    have bx1_2 : w1.cell? ⟨w.heap.size, 2, none⟩ = some _ := (hb1.cell (p := ⟨w.heap.size, 2, none⟩) BS0.out).trans BX0_2.out
    have bx1_3 : w1.cell? ⟨w.heap.size, 3, none⟩ = some _ := (hb1.cell (p := ⟨w.heap.size, 3, none⟩) BS0.out).trans BX0_3.out
    have HB1 := Lib.hid (HB0.out.trans (hb1.mono HB0.out.size))
    clear hb1
    go_wp2
    go_ret
    exact ⟨ret_b fin.out.symm, HB1.out⟩
  · rw [hv] at hN
    have fin := Lib.hid (attr_yes (ty := ty) (md := md) (c := c) hv)
    have HN := Lib.hid hN
    clear hN hv
    go_enter Try.func24, Try.ntmps24
    go_wp2_with fail
    refine (HN.out _).mono ?_
    rintro e w1 ⟨rfl, hb1⟩
    have bs1 : w.heap.size < w1.heap.size := Nat.lt_of_lt_of_le BS0.out hb1.size
    have bx1_0 : w1.cell? ⟨w.heap.size, 0, none⟩ = some _ := (hb1.cell (p := ⟨w.heap.size, 0, none⟩) BS0.out).trans BX0_0.out
    have bx1_1 : w1.cell? ⟨w.heap.size, 1, none⟩ = some _ := (hb1.cell (p := ⟨w.heap.size, 1, none⟩) BS0.out).trans BX0_1.out
    have bx1_2 : w1.cell? ⟨w.heap.size, 2, none⟩ = some _ := (hb1.cell (p := ⟨w.heap.size, 2, none⟩) BS0.out).trans BX0_2.out
    have bx1_3 : w1.cell? ⟨w.heap.size, 3, none⟩ = some _ := (hb1.cell (p := ⟨w.heap.size, 3, none⟩) BS0.out).trans BX0_3.out
    have HB1 := Lib.hid (HB0.out.trans (hb1.mono HB0.out.size))
    clear hb1
    go_wp2_with fail
    refine (impl_isValidKind nm ty md c _).mono ?_
    rintro e w2 ⟨rfl, hb2⟩
    have bs2 : w.heap.size < w2.heap.size := Nat.lt_of_lt_of_le bs1 hb2.size
    have bx2_0 : w2.cell? ⟨w.heap.size, 0, none⟩ = some _ := (hb2.cell (p := ⟨w.heap.size, 0, none⟩) bs1).trans bx1_0
    have bx2_1 : w2.cell? ⟨w.heap.size, 1, none⟩ = some _ := (hb2.cell (p := ⟨w.heap.size, 1, none⟩) bs1).trans bx1_1
    have bx2_2 : w2.cell? ⟨w.heap.size, 2, none⟩ = some _ := (hb2.cell (p := ⟨w.heap.size, 2, none⟩) bs1).trans bx1_2
    have bx2_3 : w2.cell? ⟨w.heap.size, 3, none⟩ = some _ := (hb2.cell (p := ⟨w.heap.size, 3, none⟩) bs1).trans bx1_3
    clear bs1 bx1_0 bx1_1 bx1_2 bx1_3
    have HB2 := Lib.hid (HB1.out.trans (hb2.mono HB1.out.size))
    clear hb2
    go_wp2
    go_ret
    exact ⟨ret_b fin.out.symm, HB2.out⟩

set_option maxHeartbeats 800000 in
set_option maxRecDepth 100000 in
theorem spec_IsValidAttribute (nm : ByteArray) (ty md : Int) (c : Bool) (hz : nm.size ≤ 1048576) (w : World) :
    Calls Try.prog 19 #[.agg #[.string nm, .int .i64 ty, .int .i64 md, .bool c]] w fun e w' => e = .returned (.bool (attrB nm ty md c)) ∧ Below w.heap.size w w' := by
  have HB0 := Lib.hid ((Below.refl w.heap.size w).alloc (Nat.le_refl _) (.cells #[.string nm, .int .i64 ty, .int .i64 md, .bool c] 36))
  have BS0 := Lib.hid (show w.heap.size < (w.alloc (.cells #[.string nm, .int .i64 ty, .int .i64 md, .bool c] 36)).heap.size by simp)
  have BX0_0 := Lib.hid (show (w.alloc (.cells #[.string nm, .int .i64 ty, .int .i64 md, .bool c] 36)).cell? ⟨w.heap.size, 0, none⟩ = some (.string nm) by rw [World.cell?_alloc_new]; rfl)
  have BX0_1 := Lib.hid (show (w.alloc (.cells #[.string nm, .int .i64 ty, .int .i64 md, .bool c] 36)).cell? ⟨w.heap.size, 1, none⟩ = some (.int .i64 ty) by rw [World.cell?_alloc_new]; rfl)
  have BX0_2 := Lib.hid (show (w.alloc (.cells #[.string nm, .int .i64 ty, .int .i64 md, .bool c] 36)).cell? ⟨w.heap.size, 2, none⟩ = some (.int .i64 md) by rw [World.cell?_alloc_new]; rfl)
  have BX0_3 := Lib.hid (show (w.alloc (.cells #[.string nm, .int .i64 ty, .int .i64 md, .bool c] 36)).cell? ⟨w.heap.size, 3, none⟩ = some (.bool c) by rw [World.cell?_alloc_new]; rfl)
  have hN := fun w => spec_IsValidName nm hz w
  have hT := fun w => spec_l1In ty 1 4 w
  have hM := fun w => spec_l1In md 1 3 w
  cases hv : validName nm
  · rw [hv] at hN
    have fin := Lib.hid (attr_no (ty := ty) (md := md) (c := c) hv)
    have HN := Lib.hid hN
    clear hN hv hT hM
    go_enter Try.func19, Try.ntmps19
    go_wp2_with fail
    refine (HN.out _).mono ?_
    rintro e w1 ⟨rfl, hb1⟩
    have bs1 : w.heap.size < w1.heap.size := Nat.lt_of_lt_of_le BS0.out hb1.size
    have bx1_0 : w1.cell? ⟨w.heap.size, 0, none⟩ = some _ := (hb1.cell (p := ⟨w.heap.size, 0, none⟩) BS0.out).trans BX0_0.out
    have bx1_1 : w1.cell? ⟨w.heap.size, 1, none⟩ = some _ := (hb1.cell (p := ⟨w.heap.size, 1, none⟩) BS0.out).trans BX0_1.out
    have bx1_2 : w1.cell? ⟨w.heap.size, 2, none⟩ = some _ := (hb1.cell (p := ⟨w.heap.size, 2, none⟩) BS0.out).trans BX0_2.out
    have bx1_3 : w1.cell? ⟨w.heap.size, 3, none⟩ = some _ := (hb1.cell (p := ⟨w.heap.size, 3, none⟩) BS0.out).trans BX0_3.out
    have HB1 := Lib.hid (HB0.out.trans (hb1.mono HB0.out.size))
    clear hb1
    go_wp2
    go_ret
    exact ⟨ret_b fin.out.symm, HB1.out⟩
  · rw [hv] at hN
    rw [attr_yes hv]
    have HN := Lib.hid hN
    clear hN hv
    cases ht : inR ty 1 4
    · rw [ht] at hT
      have fin := Lib.hid (kind_ty (md := md) (c := c) ht)
      have HT := Lib.hid hT
      clear hT ht hM
      go_enter Try.func19, Try.ntmps19
      go_wp2_with fail
      refine (HN.out _).mono ?_
      rintro e w1 ⟨rfl, hb1⟩
      have bs1 : w.heap.size < w1.heap.size := Nat.lt_of_lt_of_le BS0.out hb1.size
      have bx1_0 : w1.cell? ⟨w.heap.size, 0, none⟩ = some _ := (hb1.cell (p := ⟨w.heap.size, 0, none⟩) BS0.out).trans BX0_0.out
      have bx1_1 : w1.cell? ⟨w.heap.size, 1, none⟩ = some _ := (hb1.cell (p := ⟨w.heap.size, 1, none⟩) BS0.out).trans BX0_1.out
      have bx1_2 : w1.cell? ⟨w.heap.size, 2, none⟩ = some _ := (hb1.cell (p := ⟨w.heap.size, 2, none⟩) BS0.out).trans BX0_2.out
      have bx1_3 : w1.cell? ⟨w.heap.size, 3, none⟩ = some _ := (hb1.cell (p := ⟨w.heap.size, 3, none⟩) BS0.out).trans BX0_3.out
      have HB1 := Lib.hid (HB0.out.trans (hb1.mono HB0.out.size))
      clear hb1
      go_wp2_with fail
      refine (HT.out _).mono ?_
      rintro e w' ⟨rfl, rfl⟩
      go_wp2
      go_ret
      exact ⟨ret_b fin.out.symm, HB1.out⟩
    · cases hm : inR md 1 3
      · rw [ht] at hT
        rw [hm] at hM
        have fin := Lib.hid (kind_md (ty := ty) (c := c) hm)
        have HT := Lib.hid hT
        have HM := Lib.hid hM
        clear hT ht hM hm
        go_enter Try.func19, Try.ntmps19
        go_wp2_with fail
        refine (HN.out _).mono ?_
        rintro e w1 ⟨rfl, hb1⟩
        have bs1 : w.heap.size < w1.heap.size := Nat.lt_of_lt_of_le BS0.out hb1.size
        have bx1_0 : w1.cell? ⟨w.heap.size, 0, none⟩ = some _ := (hb1.cell (p := ⟨w.heap.size, 0, none⟩) BS0.out).trans BX0_0.out
        have bx1_1 : w1.cell? ⟨w.heap.size, 1, none⟩ = some _ := (hb1.cell (p := ⟨w.heap.size, 1, none⟩) BS0.out).trans BX0_1.out
        have bx1_2 : w1.cell? ⟨w.heap.size, 2, none⟩ = some _ := (hb1.cell (p := ⟨w.heap.size, 2, none⟩) BS0.out).trans BX0_2.out
        have bx1_3 : w1.cell? ⟨w.heap.size, 3, none⟩ = some _ := (hb1.cell (p := ⟨w.heap.size, 3, none⟩) BS0.out).trans BX0_3.out
        have HB1 := Lib.hid (HB0.out.trans (hb1.mono HB0.out.size))
        clear hb1
        go_wp2_with fail
        refine (HT.out _).mono ?_
        rintro e w' ⟨rfl, rfl⟩
        go_wp2_with fail
        refine (HM.out _).mono ?_
        rintro e w' ⟨rfl, rfl⟩
        go_wp2
        go_ret
        exact ⟨ret_b fin.out.symm, HB1.out⟩
      · have hr := inR_iff.1 hm
        rw [hm] at hM
        rcases (by omega : (md = 1 ∨ md = 2) ∨ md = 3) with h12 | rfl
        · have fin := Lib.hid (kind_12 (c := c) ht h12)
          rw [ht] at hT
          have HT := Lib.hid hT
          have HM := Lib.hid hM
          clear hT ht hM hm hr
          by_cases h2 : ty = 2
          · subst h2
            rcases h12 with rfl | rfl
            all_goals
              cases c
              all_goals
                go_enter Try.func19, Try.ntmps19
                go_wp2_with fail
                refine (HN.out _).mono ?_
                rintro e w1 ⟨rfl, hb1⟩
                have bs1 : w.heap.size < w1.heap.size := Nat.lt_of_lt_of_le BS0.out hb1.size
                have bx1_0 : w1.cell? ⟨w.heap.size, 0, none⟩ = some _ := (hb1.cell (p := ⟨w.heap.size, 0, none⟩) BS0.out).trans BX0_0.out
                have bx1_1 : w1.cell? ⟨w.heap.size, 1, none⟩ = some _ := (hb1.cell (p := ⟨w.heap.size, 1, none⟩) BS0.out).trans BX0_1.out
                have bx1_2 : w1.cell? ⟨w.heap.size, 2, none⟩ = some _ := (hb1.cell (p := ⟨w.heap.size, 2, none⟩) BS0.out).trans BX0_2.out
                have bx1_3 : w1.cell? ⟨w.heap.size, 3, none⟩ = some _ := (hb1.cell (p := ⟨w.heap.size, 3, none⟩) BS0.out).trans BX0_3.out
                have HB1 := Lib.hid (HB0.out.trans (hb1.mono HB0.out.size))
                clear hb1
                go_wp2_with fail
                refine (HT.out _).mono ?_
                rintro e w' ⟨rfl, rfl⟩
                go_wp2_with fail
                refine (HM.out _).mono ?_
                rintro e w' ⟨rfl, rfl⟩
                go_wp2
                go_ret
                exact ⟨ret_b fin.out.symm, HB1.out⟩
          · have t2 : (ty == 2) = false := beq_eq_false_iff_ne.2 h2
            clear h2
            rw [t2] at fin
            rcases h12 with rfl | rfl
            all_goals
              cases c
              all_goals
                go_enter Try.func19, Try.ntmps19
                go_wp2_with fail
                refine (HN.out _).mono ?_
                rintro e w1 ⟨rfl, hb1⟩
                have bs1 : w.heap.size < w1.heap.size := Nat.lt_of_lt_of_le BS0.out hb1.size
                have bx1_0 : w1.cell? ⟨w.heap.size, 0, none⟩ = some _ := (hb1.cell (p := ⟨w.heap.size, 0, none⟩) BS0.out).trans BX0_0.out
                have bx1_1 : w1.cell? ⟨w.heap.size, 1, none⟩ = some _ := (hb1.cell (p := ⟨w.heap.size, 1, none⟩) BS0.out).trans BX0_1.out
                have bx1_2 : w1.cell? ⟨w.heap.size, 2, none⟩ = some _ := (hb1.cell (p := ⟨w.heap.size, 2, none⟩) BS0.out).trans BX0_2.out
                have bx1_3 : w1.cell? ⟨w.heap.size, 3, none⟩ = some _ := (hb1.cell (p := ⟨w.heap.size, 3, none⟩) BS0.out).trans BX0_3.out
                have HB1 := Lib.hid (HB0.out.trans (hb1.mono HB0.out.size))
                clear hb1
                go_wp2_with fail
                refine (HT.out _).mono ?_
                rintro e w' ⟨rfl, rfl⟩
                go_wp2_with fail
                refine (HM.out _).mono ?_
                rintro e w' ⟨rfl, rfl⟩
                go_wp2
                go_ret
                exact ⟨ret_b fin.out.symm, HB1.out⟩
        · have fin := Lib.hid (kind_3 (c := c) ht)
          rw [ht] at hT
          have HT := Lib.hid hT
          have HM := Lib.hid hM
          clear hT ht hM hm hr
          by_cases h2 : ty = 2
          · subst h2
            cases c
            all_goals
              go_enter Try.func19, Try.ntmps19
              go_wp2_with fail
              refine (HN.out _).mono ?_
              rintro e w1 ⟨rfl, hb1⟩
              have bs1 : w.heap.size < w1.heap.size := Nat.lt_of_lt_of_le BS0.out hb1.size
              have bx1_0 : w1.cell? ⟨w.heap.size, 0, none⟩ = some _ := (hb1.cell (p := ⟨w.heap.size, 0, none⟩) BS0.out).trans BX0_0.out
              have bx1_1 : w1.cell? ⟨w.heap.size, 1, none⟩ = some _ := (hb1.cell (p := ⟨w.heap.size, 1, none⟩) BS0.out).trans BX0_1.out
              have bx1_2 : w1.cell? ⟨w.heap.size, 2, none⟩ = some _ := (hb1.cell (p := ⟨w.heap.size, 2, none⟩) BS0.out).trans BX0_2.out
              have bx1_3 : w1.cell? ⟨w.heap.size, 3, none⟩ = some _ := (hb1.cell (p := ⟨w.heap.size, 3, none⟩) BS0.out).trans BX0_3.out
              have HB1 := Lib.hid (HB0.out.trans (hb1.mono HB0.out.size))
              clear hb1
              go_wp2_with fail
              refine (HT.out _).mono ?_
              rintro e w' ⟨rfl, rfl⟩
              go_wp2_with fail
              refine (HM.out _).mono ?_
              rintro e w' ⟨rfl, rfl⟩
              go_wp2
              go_ret
              exact ⟨ret_b fin.out.symm, HB1.out⟩
          · have t2 : (ty == 2) = false := beq_eq_false_iff_ne.2 h2
            have t3 : (ty != 2) = true := bne_iff_ne.2 h2
            rw [t2] at fin
            clear h2
            go_enter Try.func19, Try.ntmps19
            go_wp2_with fail
            refine (HN.out _).mono ?_
            rintro e w1 ⟨rfl, hb1⟩
            have bs1 : w.heap.size < w1.heap.size := Nat.lt_of_lt_of_le BS0.out hb1.size
            have bx1_0 : w1.cell? ⟨w.heap.size, 0, none⟩ = some _ := (hb1.cell (p := ⟨w.heap.size, 0, none⟩) BS0.out).trans BX0_0.out
            have bx1_1 : w1.cell? ⟨w.heap.size, 1, none⟩ = some _ := (hb1.cell (p := ⟨w.heap.size, 1, none⟩) BS0.out).trans BX0_1.out
            have bx1_2 : w1.cell? ⟨w.heap.size, 2, none⟩ = some _ := (hb1.cell (p := ⟨w.heap.size, 2, none⟩) BS0.out).trans BX0_2.out
            have bx1_3 : w1.cell? ⟨w.heap.size, 3, none⟩ = some _ := (hb1.cell (p := ⟨w.heap.size, 3, none⟩) BS0.out).trans BX0_3.out
            have HB1 := Lib.hid (HB0.out.trans (hb1.mono HB0.out.size))
            clear hb1
            go_wp2_with fail
            refine (HT.out _).mono ?_
            rintro e w' ⟨rfl, rfl⟩
            go_wp2_with fail
            refine (HM.out _).mono ?_
            rintro e w' ⟨rfl, rfl⟩
            go_wp2
            go_ret
            exact ⟨ret_b fin.out.symm, HB1.out⟩
end Go.Proofs.Yteeehpldkhceoaa
