/-
  SameSource, in the model and in the program.
-/
import Derived.Test.YtjhgifpnpkcaoaaGreatTEntry
import Derived.Test.YtjhgifpnpkcaoaaGreatIntsEq
import Derived.Lib.Strings
namespace Go.Proofs.YtjhgifpnpkcaoaaGreat
open Go.ChangeShapes Go.WideShapes Go.ChangeAt Go.RowKit Go.Deep

theorem toList_inj' {x y : ByteArray} (h : x.toList = y.toList) : x = y := by
  rw [Lib.toList_data, Lib.toList_data] at h
  cases x; cases y
  simp only at h
  rw [ByteArray.mk.injEq]
  exact Array.toList_inj.1 h
theorem ne_str {x y : ByteArray} (h : x ≠ y) : (x.toList == y.toList) = false := beq_eq_false_iff_ne.2 (fun e => h (toList_inj' e))
/-- Whether two entries have the same instance and the same source. -/
noncomputable def sameSrc (a b : DEntry) : Bool := by
  classical exact decide (a.fAt.fNode = b.fAt.fNode ∧ a.fAt.fName = b.fAt.fName ∧ a.fOwner = b.fOwner ∧ a.fLiteral = b.fLiteral ∧ a.fRule = b.fRule ∧ a.fIds = b.fIds ∧ a.fShape = b.fShape)
theorem sameSrc_no {a b : DEntry} (h : ¬ (a.fAt.fNode = b.fAt.fNode ∧ a.fAt.fName = b.fAt.fName ∧ a.fOwner = b.fOwner ∧ a.fLiteral = b.fLiteral ∧ a.fRule = b.fRule ∧ a.fIds = b.fIds ∧ a.fShape = b.fShape)) : sameSrc a b = false := by
  classical
  unfold sameSrc
  exact decide_eq_false h
theorem sameSrc_last {a b : DEntry} (h1 : a.fAt.fNode = b.fAt.fNode) (h2 : a.fAt.fName = b.fAt.fName) (h3 : a.fOwner = b.fOwner) (h4 : a.fLiteral = b.fLiteral) (h5 : a.fRule = b.fRule) (h6 : a.fIds = b.fIds) : sameSrc a b = decide (a.fShape = b.fShape) := by
  classical
  unfold sameSrc
  by_cases h : a.fShape = b.fShape
  · rw [decide_eq_true h]; exact decide_eq_true ⟨h1, h2, h3, h4, h5, h6, h⟩
  · rw [decide_eq_false h]; exact decide_eq_false (fun e => h e.2.2.2.2.2.2)

set_option maxHeartbeats 1600000 in
set_option maxRecDepth 100000 in
theorem spec_SameSource {lo hi : Nat} {a6x a7x a8x a6y a7y a8y : Option Addr} {c0_0 c0_1 c0_2 c1_0 c1_1 c1_2 : Nat} (x : DEntry) (_ : x.ok) (hx : x.sz ≤ 1048576) (y : DEntry) (_ : y.ok) (hy : y.sz ≤ 1048576) (w : World) (hhi : hi ≤ w.heap.size)
    (hs6 : Sl lo hi w 1 x.fIds.length (fun k => ictI (x.fIds.getD k default)) a6x) (hs7 : Sl lo hi w 1 x.fShape.length (fun k => ictI (x.fShape.getD k default)) a7x) (_ : Sl lo hi w 4 x.fReads.length (fun k => DReading.ct (x.fReads.getD k default)) a8x) (ht6 : Sl lo hi w 1 y.fIds.length (fun k => ictI (y.fIds.getD k default)) a6y) (ht7 : Sl lo hi w 1 y.fShape.length (fun k => ictI (y.fShape.getD k default)) a7y) (_ : Sl lo hi w 4 y.fReads.length (fun k => DReading.ct (y.fReads.getD k default)) a8y) :
    Calls Tryz.prog 60 #[.agg #[.int .i64 x.fAt.fNode, .string x.fAt.fName, .int .i64 x.fValue, .int .i64 x.fOwner, .int .i64 x.fLiteral, .string x.fRule, .slice a6x x.fIds.length c0_0, .slice a7x x.fShape.length c0_1, .slice a8x x.fReads.length c0_2], .agg #[.int .i64 y.fAt.fNode, .string y.fAt.fName, .int .i64 y.fValue, .int .i64 y.fOwner, .int .i64 y.fLiteral, .string y.fRule, .slice a6y y.fIds.length c1_0, .slice a7y y.fShape.length c1_1, .slice a8y y.fReads.length c1_2]] w fun e w' => e = .returned (.bool (sameSrc x y)) ∧ Below w.heap.size w w' := by
  have hl1 : x.fIds.length ≤ 1048576 := by unfold DEntry.sz at hx; have := lsz_zero x.fIds; omega
  have hl2 : x.fShape.length ≤ 1048576 := by unfold DEntry.sz at hx; have := lsz_zero x.fShape; omega
  have hl3 : y.fIds.length ≤ 1048576 := by unfold DEntry.sz at hy; have := lsz_zero y.fIds; omega
  have hl4 : y.fShape.length ≤ 1048576 := by unfold DEntry.sz at hy; have := lsz_zero y.fShape; omega
  have HB := Lib.hid (((Below.refl w.heap.size w).alloc (Nat.le_refl _) (.cells #[.int .i64 x.fAt.fNode, .string x.fAt.fName, .int .i64 x.fValue, .int .i64 x.fOwner, .int .i64 x.fLiteral, .string x.fRule, .slice a6x x.fIds.length c0_0, .slice a7x x.fShape.length c0_1, .slice a8x x.fReads.length c0_2] 132)).alloc (by simp) (.cells #[.int .i64 y.fAt.fNode, .string y.fAt.fName, .int .i64 y.fValue, .int .i64 y.fOwner, .int .i64 y.fLiteral, .string y.fRule, .slice a6y y.fIds.length c1_0, .slice a7y y.fShape.length c1_1, .slice a8y y.fReads.length c1_2] 132))
  have HI := Lib.hid (fun (W : World) (hb : Below w.heap.size w W) => spec_l1Ints (cap := c0_0) (cap2 := c1_0) x.fIds y.fIds hl1 hl3 W (hs6.later hb hhi) (ht6.later hb hhi))
  have HH := Lib.hid (fun (W : World) (hb : Below w.heap.size w W) => spec_l1Ints (cap := c0_1) (cap2 := c1_1) x.fShape y.fShape hl2 hl4 W (hs7.later hb hhi) (ht7.later hb hhi))
  have hno := @sameSrc_no x y
  have hlast := @sameSrc_last x y
  clear hs6 hs7 ht6 ht7 hx hy
  generalize x.fAt.fNode = n1 at *
  generalize y.fAt.fNode = n2 at *
  generalize x.fAt.fName = s1 at *
  generalize y.fAt.fName = s2 at *
  generalize x.fOwner = o1 at *
  generalize y.fOwner = o2 at *
  generalize x.fLiteral = l1 at *
  generalize y.fLiteral = l2 at *
  generalize x.fRule = r1 at *
  generalize y.fRule = r2 at *
  generalize x.fIds = i1 at *
  generalize y.fIds = i2 at *
  generalize x.fShape = p1 at *
  generalize y.fShape = p2 at *
  generalize x.fValue = v1 at *
  generalize y.fValue = v2 at *
  generalize x.fReads.length = q1 at *
  generalize y.fReads.length = q2 at *
  generalize sameSrc x y = res at *
  by_cases h0 : n1 = n2
  · subst h0
    by_cases h1 : s1 = s2
    · subst h1
      by_cases h2 : o1 = o2
      · subst h2
        by_cases h3 : l1 = l2
        · subst h3
          by_cases h4 : r1 = r2
          · subst h4
            by_cases h5 : i1 = i2
            · have fin := Lib.hid (hlast rfl rfl rfl rfl rfl h5)
              have hI : ∀ (W : World), Below w.heap.size w W → Calls Tryz.prog 59 #[.slice a6x i1.length c0_0, .slice a6y i2.length c1_0] W fun e w' => e = .returned (.bool true) ∧ ∃ q, w' = W.drewN q := fun W hb => by have h := HI.out W hb; rw [decide_eq_true h5] at h; exact h
              have HI2 := Lib.hid hI
              clear hI hno hlast h5 HI
              generalize decide (p1 = p2) = rr at *
              go_enter Tryz.func60, Tryz.ntmps60
              go_wp2_with fail
              refine (HI2.out _ (by repeat (first | (with_reducible exact HB.out) | (with_reducible refine below_drewN ?_ _)) : Below w.heap.size w _)).mono ?_
              rintro e w1 ⟨rfl, q, rfl⟩
              go_wp2_with fail
              refine (HH.out _ (by repeat (first | (with_reducible exact HB.out) | (with_reducible refine below_drewN ?_ _)) : Below w.heap.size w _)).mono ?_
              rintro e w1 ⟨rfl, q', rfl⟩
              go_wp2
              go_ret
              exact ⟨ret_b fin.out.symm, (by repeat (first | (with_reducible exact HB.out) | (with_reducible refine below_drewN ?_ _)) : Below w.heap.size w _)⟩
            · have fin := Lib.hid (hno (fun e => h5 e.2.2.2.2.2.1))
              have hI : ∀ (W : World), Below w.heap.size w W → Calls Tryz.prog 59 #[.slice a6x i1.length c0_0, .slice a6y i2.length c1_0] W fun e w' => e = .returned (.bool false) ∧ ∃ q, w' = W.drewN q := fun W hb => by have h := HI.out W hb; rw [decide_eq_false h5] at h; exact h
              have HI2 := Lib.hid hI
              clear hI hno hlast h5 HI HH
              go_enter Tryz.func60, Tryz.ntmps60
              go_wp2_with fail
              refine (HI2.out _ (by repeat (first | (with_reducible exact HB.out) | (with_reducible refine below_drewN ?_ _)) : Below w.heap.size w _)).mono ?_
              rintro e w1 ⟨rfl, q, rfl⟩
              go_wp2
              go_ret
              exact ⟨ret_b fin.out.symm, (by repeat (first | (with_reducible exact HB.out) | (with_reducible refine below_drewN ?_ _)) : Below w.heap.size w _)⟩
          · have fin := Lib.hid (hno (fun e => h4 e.2.2.2.2.1))
            have e4 : (r1.toList == r2.toList) = false := ne_str h4
            clear h4 hno hlast HI HH
            go_enter Tryz.func60, Tryz.ntmps60
            go_wp2
            go_ret
            exact ⟨ret_b fin.out.symm, HB.out⟩
        · have fin := Lib.hid (hno (fun e => h3 e.2.2.2.1))
          have e3 : (l1 == l2) = false := beq_eq_false_iff_ne.2 h3
          clear h3 hno hlast HI HH
          go_enter Tryz.func60, Tryz.ntmps60
          go_wp2
          go_ret
          exact ⟨ret_b fin.out.symm, HB.out⟩
      · have fin := Lib.hid (hno (fun e => h2 e.2.2.1))
        have e2 : (o1 == o2) = false := beq_eq_false_iff_ne.2 h2
        clear h2 hno hlast HI HH
        go_enter Tryz.func60, Tryz.ntmps60
        go_wp2
        go_ret
        exact ⟨ret_b fin.out.symm, HB.out⟩
    · have fin := Lib.hid (hno (fun e => h1 e.2.1))
      have e1 : (s1.toList == s2.toList) = false := ne_str h1
      clear h1 hno hlast HI HH
      go_enter Tryz.func60, Tryz.ntmps60
      go_wp2
      go_ret
      exact ⟨ret_b fin.out.symm, HB.out⟩
  · have fin := Lib.hid (hno (fun e => h0 e.1))
    have e0 : (n1 == n2) = false := beq_eq_false_iff_ne.2 h0
    clear h0 hno hlast HI HH
    go_enter Tryz.func60, Tryz.ntmps60
    go_wp2
    go_ret
    exact ⟨ret_b fin.out.symm, HB.out⟩

set_option maxHeartbeats 1600000 in
set_option maxRecDepth 100000 in
theorem impl_SameSource {lo hi : Nat} {a6x a7x a8x a6y a7y a8y : Option Addr} {c0_0 c0_1 c0_2 c1_0 c1_1 c1_2 : Nat} (x : DEntry) (_ : x.ok) (hx : x.sz ≤ 1048576) (y : DEntry) (_ : y.ok) (hy : y.sz ≤ 1048576) (w : World) (hhi : hi ≤ w.heap.size)
    (hs6 : Sl lo hi w 1 x.fIds.length (fun k => ictI (x.fIds.getD k default)) a6x) (hs7 : Sl lo hi w 1 x.fShape.length (fun k => ictI (x.fShape.getD k default)) a7x) (_ : Sl lo hi w 4 x.fReads.length (fun k => DReading.ct (x.fReads.getD k default)) a8x) (ht6 : Sl lo hi w 1 y.fIds.length (fun k => ictI (y.fIds.getD k default)) a6y) (ht7 : Sl lo hi w 1 y.fShape.length (fun k => ictI (y.fShape.getD k default)) a7y) (_ : Sl lo hi w 4 y.fReads.length (fun k => DReading.ct (y.fReads.getD k default)) a8y) :
    Calls Tryz.prog 96 #[.agg #[.int .i64 x.fAt.fNode, .string x.fAt.fName, .int .i64 x.fValue, .int .i64 x.fOwner, .int .i64 x.fLiteral, .string x.fRule, .slice a6x x.fIds.length c0_0, .slice a7x x.fShape.length c0_1, .slice a8x x.fReads.length c0_2], .agg #[.int .i64 y.fAt.fNode, .string y.fAt.fName, .int .i64 y.fValue, .int .i64 y.fOwner, .int .i64 y.fLiteral, .string y.fRule, .slice a6y y.fIds.length c1_0, .slice a7y y.fShape.length c1_1, .slice a8y y.fReads.length c1_2]] w fun e w' => e = .returned (.bool (sameSrc x y)) ∧ Below w.heap.size w w' := by
  have hl1 : x.fIds.length ≤ 1048576 := by unfold DEntry.sz at hx; have := lsz_zero x.fIds; omega
  have hl2 : x.fShape.length ≤ 1048576 := by unfold DEntry.sz at hx; have := lsz_zero x.fShape; omega
  have hl3 : y.fIds.length ≤ 1048576 := by unfold DEntry.sz at hy; have := lsz_zero y.fIds; omega
  have hl4 : y.fShape.length ≤ 1048576 := by unfold DEntry.sz at hy; have := lsz_zero y.fShape; omega
  have HB := Lib.hid (((Below.refl w.heap.size w).alloc (Nat.le_refl _) (.cells #[.int .i64 x.fAt.fNode, .string x.fAt.fName, .int .i64 x.fValue, .int .i64 x.fOwner, .int .i64 x.fLiteral, .string x.fRule, .slice a6x x.fIds.length c0_0, .slice a7x x.fShape.length c0_1, .slice a8x x.fReads.length c0_2] 132)).alloc (by simp) (.cells #[.int .i64 y.fAt.fNode, .string y.fAt.fName, .int .i64 y.fValue, .int .i64 y.fOwner, .int .i64 y.fLiteral, .string y.fRule, .slice a6y y.fIds.length c1_0, .slice a7y y.fShape.length c1_1, .slice a8y y.fReads.length c1_2] 132))
  have HI := Lib.hid (fun (W : World) (hb : Below w.heap.size w W) => slices_Equal_ints (cap := c0_0) (cap2 := c1_0) x.fIds y.fIds hl1 hl3 W (hs6.later hb hhi) (ht6.later hb hhi))
  have HH := Lib.hid (fun (W : World) (hb : Below w.heap.size w W) => slices_Equal_ints (cap := c0_1) (cap2 := c1_1) x.fShape y.fShape hl2 hl4 W (hs7.later hb hhi) (ht7.later hb hhi))
  have hno := @sameSrc_no x y
  have hlast := @sameSrc_last x y
  clear hs6 hs7 ht6 ht7 hx hy
  generalize x.fAt.fNode = n1 at *
  generalize y.fAt.fNode = n2 at *
  generalize x.fAt.fName = s1 at *
  generalize y.fAt.fName = s2 at *
  generalize x.fOwner = o1 at *
  generalize y.fOwner = o2 at *
  generalize x.fLiteral = l1 at *
  generalize y.fLiteral = l2 at *
  generalize x.fRule = r1 at *
  generalize y.fRule = r2 at *
  generalize x.fIds = i1 at *
  generalize y.fIds = i2 at *
  generalize x.fShape = p1 at *
  generalize y.fShape = p2 at *
  generalize x.fValue = v1 at *
  generalize y.fValue = v2 at *
  generalize x.fReads.length = q1 at *
  generalize y.fReads.length = q2 at *
  generalize sameSrc x y = res at *
  by_cases h0 : n1 = n2
  · subst h0
    by_cases h1 : s1 = s2
    · subst h1
      by_cases h2 : o1 = o2
      · subst h2
        by_cases h3 : l1 = l2
        · subst h3
          by_cases h4 : r1 = r2
          · subst h4
            by_cases h5 : i1 = i2
            · have fin := Lib.hid (hlast rfl rfl rfl rfl rfl h5)
              have hI : ∀ (W : World), Below w.heap.size w W → Calls Tryz.prog 95 #[.slice a6x i1.length c0_0, .slice a6y i2.length c1_0] W fun e w' => e = .returned (.bool true) ∧ ∃ q, w' = W.drewN q := fun W hb => by have h := HI.out W hb; rw [decide_eq_true h5] at h; exact h
              have HI2 := Lib.hid hI
              clear hI hno hlast h5 HI
              generalize decide (p1 = p2) = rr at *
              go_enter Tryz.func96, Tryz.ntmps96
              go_wp2_with fail
              refine (HI2.out _ (by repeat (first | (with_reducible exact HB.out) | (with_reducible refine below_drewN ?_ _)) : Below w.heap.size w _)).mono ?_
              rintro e w1 ⟨rfl, q, rfl⟩
              go_wp2_with fail
              refine (HH.out _ (by repeat (first | (with_reducible exact HB.out) | (with_reducible refine below_drewN ?_ _)) : Below w.heap.size w _)).mono ?_
              rintro e w1 ⟨rfl, q', rfl⟩
              go_wp2
              go_ret
              exact ⟨ret_b fin.out.symm, (by repeat (first | (with_reducible exact HB.out) | (with_reducible refine below_drewN ?_ _)) : Below w.heap.size w _)⟩
            · have fin := Lib.hid (hno (fun e => h5 e.2.2.2.2.2.1))
              have hI : ∀ (W : World), Below w.heap.size w W → Calls Tryz.prog 95 #[.slice a6x i1.length c0_0, .slice a6y i2.length c1_0] W fun e w' => e = .returned (.bool false) ∧ ∃ q, w' = W.drewN q := fun W hb => by have h := HI.out W hb; rw [decide_eq_false h5] at h; exact h
              have HI2 := Lib.hid hI
              clear hI hno hlast h5 HI HH
              go_enter Tryz.func96, Tryz.ntmps96
              go_wp2_with fail
              refine (HI2.out _ (by repeat (first | (with_reducible exact HB.out) | (with_reducible refine below_drewN ?_ _)) : Below w.heap.size w _)).mono ?_
              rintro e w1 ⟨rfl, q, rfl⟩
              go_wp2
              go_ret
              exact ⟨ret_b fin.out.symm, (by repeat (first | (with_reducible exact HB.out) | (with_reducible refine below_drewN ?_ _)) : Below w.heap.size w _)⟩
          · have fin := Lib.hid (hno (fun e => h4 e.2.2.2.2.1))
            have e4 : (r1.toList == r2.toList) = false := ne_str h4
            clear h4 hno hlast HI HH
            go_enter Tryz.func96, Tryz.ntmps96
            go_wp2
            go_ret
            exact ⟨ret_b fin.out.symm, HB.out⟩
        · have fin := Lib.hid (hno (fun e => h3 e.2.2.2.1))
          have e3 : (l1 == l2) = false := beq_eq_false_iff_ne.2 h3
          clear h3 hno hlast HI HH
          go_enter Tryz.func96, Tryz.ntmps96
          go_wp2
          go_ret
          exact ⟨ret_b fin.out.symm, HB.out⟩
      · have fin := Lib.hid (hno (fun e => h2 e.2.2.1))
        have e2 : (o1 == o2) = false := beq_eq_false_iff_ne.2 h2
        clear h2 hno hlast HI HH
        go_enter Tryz.func96, Tryz.ntmps96
        go_wp2
        go_ret
        exact ⟨ret_b fin.out.symm, HB.out⟩
    · have fin := Lib.hid (hno (fun e => h1 e.2.1))
      have e1 : (s1.toList == s2.toList) = false := ne_str h1
      clear h1 hno hlast HI HH
      go_enter Tryz.func96, Tryz.ntmps96
      go_wp2
      go_ret
      exact ⟨ret_b fin.out.symm, HB.out⟩
  · have fin := Lib.hid (hno (fun e => h0 e.1))
    have e0 : (n1 == n2) = false := beq_eq_false_iff_ne.2 h0
    clear h0 hno hlast HI HH
    go_enter Tryz.func96, Tryz.ntmps96
    go_wp2
    go_ret
    exact ⟨ret_b fin.out.symm, HB.out⟩
end Go.Proofs.YtjhgifpnpkcaoaaGreat
