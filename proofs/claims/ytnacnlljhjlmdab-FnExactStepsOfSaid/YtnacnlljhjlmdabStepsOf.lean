/-
  StepsOf, in the model and in the program.
-/
import Derived.Test.YtnacnlljhjlmdabCloneStep
import Derived.Test.YtnacnlljhjlmdabTRulePlan
import Derived.Test.YtnacnlljhjlmdabIdx
import Derived.Lib.Strings
namespace Go.Proofs.Ytnacnlljhjlmdab
open Go.ChangeShapes Go.WideShapes Go.ChangeAt Go.RowKit Go.Deep

theorem toList_inj' {x y : ByteArray} (h : x.toList = y.toList) : x = y := by
  rw [Lib.toList_data, Lib.toList_data] at h
  cases x; cases y
  simp only at h
  rw [ByteArray.mk.injEq]
  exact Array.toList_inj.1 h
def PPlan (nm : ByteArray) (y : DRulePlan) : Bool := y.fRule.toList == nm.toList
theorem PPlan_yes {nm : ByteArray} {y : DRulePlan} (h : y.fRule = nm) : PPlan nm y = true := by unfold PPlan; rw [h]; simp
theorem PPlan_no {nm : ByteArray} {y : DRulePlan} (h : y.fRule ≠ nm) : PPlan nm y = false := beq_eq_false_iff_ne.2 (fun e => h (toList_inj' e))
/-- The steps of the first plan of the rule. -/
def stepsOf (l : List DRulePlan) (nm : ByteArray) : List DStep := if 0 ≤ idxI (PPlan nm) l then (l.getD (idxI (PPlan nm) l).toNat default).fSteps else []
theorem stepsOf_at {l : List DRulePlan} {nm : ByteArray} {k : Nat} (h : idxI (PPlan nm) l = k) : stepsOf l nm = (l.getD k default).fSteps := by unfold stepsOf; rw [h, if_pos (by omega), Int.toNat_natCast]
theorem stepsOf_none {l : List DRulePlan} {nm : ByteArray} (h : idxI (PPlan nm) l = -1) : stepsOf l nm = [] := by unfold stepsOf; rw [h, if_neg (by omega)]
theorem plan_sz {l : List DRulePlan} (h : lsz DRulePlan.sz l ≤ 1048576) {k : Nat} (hk : k < l.length) : lsz DStep.sz (l.getD k default).fSteps ≤ 1048576 := by
  have h1 := szle_at (f := DRulePlan.sz) l k hk
  have h2 : lsz DStep.sz (l.getD k default).fSteps ≤ DRulePlan.sz (l.getD k default) := by unfold DRulePlan.sz; omega
  omega
theorem stepsOf_sz {l : List DRulePlan} (h : lsz DRulePlan.sz l ≤ 1048576) (nm : ByteArray) : lsz DStep.sz (stepsOf l nm) ≤ 1048576 := by
  by_cases h0 : 0 ≤ idxI (PPlan nm) l
  · obtain ⟨k, hk⟩ : ∃ k : Nat, idxI (PPlan nm) l = k := ⟨(idxI (PPlan nm) l).toNat, by omega⟩
    rw [stepsOf_at hk]
    have hl : k < l.length := by
      unfold idxI at hk
      cases h9 : l.findIdx? (PPlan nm) with
      | none => rw [h9] at hk; simp at hk
      | some j =>
        rw [h9] at hk
        rw [List.findIdx?_eq_some_iff_getElem] at h9
        obtain ⟨h1, _⟩ := h9
        simp at hk
        omega
    exact plan_sz h hl
  · unfold stepsOf
    rw [if_neg h0]
    simp [lsz]
theorem stepsOf_len {l : List DRulePlan} (h : lsz DRulePlan.sz l ≤ 1048576) (nm : ByteArray) : (stepsOf l nm).length ≤ 1048576 := Nat.le_trans ((show ∀ m : List DStep, m.length ≤ lsz DStep.sz m from fun m => by unfold lsz; omega) _) (stepsOf_sz h nm)

set_option maxHeartbeats 3200000 in
set_option maxRecDepth 100000 in
theorem spec_StepsOf {lo hi : Nat} {a0 : Option Addr} {c0_0 : Nat} (l : List DRulePlan) (_ : okL DRulePlan.ok l) (hsz : lsz DRulePlan.sz l ≤ 1048576) (nm : ByteArray) (_ : okS nm) (_ : nm.size ≤ 1048576) (w : World) (hhi : hi ≤ w.heap.size) (hs : Sl lo hi w 2 l.length (fun k => DRulePlan.ct (l.getD k default)) a0) :
    Calls Try.prog 29 #[.slice a0 l.length c0_0, .string nm] w fun e w' => ∃ a c', e = .returned (.slice a (stepsOf l nm).length c') ∧ Own w' (fun y => w.heap.size ≤ y ∧ y < w'.heap.size) (.sl 4 (stepsOf l nm).length (fun k => DStep.ct ((stepsOf l nm).getD k default))) (.slice a (stepsOf l nm).length c') ∧ Below w.heap.size w w' := by
  have hn : l.length ≤ 1048576 := by unfold lsz at hsz; omega
  have HSZ := Lib.hid hsz
  have HS := Lib.hid hs
  have HHI := Lib.hid hhi
  obtain ⟨i0_vStep, hi_vStep, hz0_vStep, hz1_vStep, hz2_vStep⟩ := info_parts info_Step
  clear hs hsz hhi
  go_enter Try.func29, Try.ntmps29
  go_wp2
  go_loop [5] (fun i => ∃ k : Nat, k ≤ l.length ∧ i = .int .i64 (k : Int) ∧ noneBelow (PPlan nm) l k) (fun i => l.length - (intOf i).toNat)
  case atStart => exact ⟨0, Nat.zero_le _, rfl, noneBelow_zero _ _⟩
  case round =>
    obtain ⟨k, hk, rfl, hno⟩ := hrel
    have HN := Lib.hid hno
    clear hno
    by_cases hlt : k < l.length
    · obtain ⟨b, off, rfl, _, hbh, hc⟩ := HS.out.at k hlt
      obtain ⟨a1, c1, hc0, hc1, hs1⟩ := DRulePlan.open hc
      have hbw : b < w.heap.size := Nat.lt_of_lt_of_le hbh HHI.out
      clear hc
      by_cases he : (l.getD k default).fRule = nm
      · have fin := Lib.hid (stepsOf_at (idxI_at (p := PPlan nm) hlt (PPlan_yes he) HN.out))
        have hz2 := plan_sz HSZ.out hlt
        have hz3 : (l.getD k default).fSteps.length ≤ 1048576 := by unfold lsz at hz2; omega
        rw [he] at hc0
        have HO := Lib.hid (show (w.alloc (.cells #[] 141)).ownsRow w.heap.size 141 4 (.slice (some ⟨w.heap.size, 0, none⟩) 0 0) 0 [] from grown_made (vals := vStep))
        have HS1 := Lib.hid (hs1.later ((Below.refl w.heap.size w).alloc (Nat.le_refl _) (.cells #[] 141)) HHI.out)
        clear he hs1 hz2
        generalize (l.getD k default).fSteps = m at *
        go_wp2_with (at_builtin; refine wpList_append_sl rfl (.tmp 19) (.tmp 24) 46 rfl (w.heap.size) 141 i0_vStep (.agg #[.int .i64 0, .int .i64 0, .int .i64 0, .string ⟨#[]⟩]) 4 40 Try.underlying46 hi_vStep hz0_vStep hz1_vStep hz2_vStep rfl (by decide) _ 0 [] rfl (HO.out) m a1 c1 rfl vStep_len vStep_ct vStep_one (HS1.out) (by unfold maxLen; omega) (by omega) (by first | exact Nat.le_refl _ | (simp <;> omega)) ?_; intro v' w1 hown' hgrow)
        rw [Nat.zero_add, List.nil_append] at hown'
        have HB := Lib.hid (((Below.refl w.heap.size w).alloc (Nat.le_refl _) _).grown hgrow (by simp) (fun g hg => (HO.out.lt g hg).1))
        have HW := Lib.hid hown'
        clear hown' hgrow
        go_wp2
        go_ret
        rw [fin.out]
        obtain ⟨a, c', h1, h2⟩ := grown_own (by decide) vStep_len vStep_ct HW.out
        exact ⟨a, c', congrArg Ending.returned h1, h2, HB.out⟩
      · have HN2 := Lib.hid (noneBelow_succ HN.out (k := k) (PPlan_no he))
        have e2 : ((l.getD k default).fRule.toList == nm.toList) = false := PPlan_no he
        clear he hc1 hs1
        generalize (l.getD k default).fRule = q at *
        go_wp2
        go_round
        case rel => exact ⟨k + 1, by omega, by go_num, HN2.out⟩
        case measure => simp [intOf]; omega
    · obtain rfl : k = l.length := by omega
      have fin := Lib.hid (stepsOf_none (idxI_none (p := PPlan nm) HN.out))
      go_wp2
      go_ret
      rw [fin.out]
      exact ⟨_, _, rfl, .nil _ _ _ _ _, (Below.refl _ _).alloc (Nat.le_refl _) _⟩

set_option maxHeartbeats 3200000 in
set_option maxRecDepth 100000 in
theorem impl_StepsOf {lo hi : Nat} {a0 : Option Addr} {c0_0 : Nat} (l : List DRulePlan) (_ : okL DRulePlan.ok l) (hsz : lsz DRulePlan.sz l ≤ 1048576) (nm : ByteArray) (_ : okS nm) (_ : nm.size ≤ 1048576) (w : World) (hhi : hi ≤ w.heap.size) (hs : Sl lo hi w 2 l.length (fun k => DRulePlan.ct (l.getD k default)) a0) :
    Calls Try.prog 31 #[.slice a0 l.length c0_0, .string nm] w fun e w' => ∃ a c', e = .returned (.slice a (stepsOf l nm).length c') ∧ Own w' (fun y => w.heap.size ≤ y ∧ y < w'.heap.size) (.sl 4 (stepsOf l nm).length (fun k => DStep.ct ((stepsOf l nm).getD k default))) (.slice a (stepsOf l nm).length c') ∧ Below w.heap.size w w' := by
  have hn : l.length ≤ 1048576 := by unfold lsz at hsz; omega
  have HSZ := Lib.hid hsz
  have HS := Lib.hid hs
  have HHI := Lib.hid hhi
  clear hs hsz hhi
  go_enter Try.func31, Try.ntmps31
  go_wp2
  go_loopw [9] (fun i wr => ∃ k : Nat, k ≤ l.length ∧ i = .int .i64 (k : Int) ∧ noneBelow (PPlan nm) l k ∧ Below w.heap.size w wr) (fun i _ => l.length - (intOf i).toNat)
  case atStart => exact ⟨0, Nat.zero_le _, rfl, noneBelow_zero _ _, Below.refl _ _⟩
  case round =>
    obtain ⟨k, hk, rfl, hno, hbl⟩ := hrel
    have HN := Lib.hid hno
    have HBL := Lib.hid hbl
    clear hno
    by_cases hlt : k < l.length
    · obtain ⟨b, off, rfl, _, hbh, hc⟩ := (HS.out.later hbl HHI.out).at k hlt
      obtain ⟨a1, c1, hc0, hc1, hs1⟩ := DRulePlan.open hc
      have hbw : b < wr.heap.size := Nat.lt_of_lt_of_le hbh (Nat.le_trans HHI.out hbl.size)
      have hhr : hi ≤ wr.heap.size := Nat.le_trans HHI.out hbl.size
      have hsz1 : w.heap.size ≤ wr.heap.size := hbl.size
      clear hc hbl
      by_cases he : (l.getD k default).fRule = nm
      · have fin := Lib.hid (stepsOf_at (idxI_at (p := PPlan nm) hlt (PPlan_yes he) HN.out))
        have hz2 := plan_sz HSZ.out hlt
        have hz3 : (l.getD k default).fSteps.length ≤ 1048577 := by unfold lsz at hz2; omega
        have HC := Lib.hid (fun (W : World) (hW : Below wr.heap.size wr W) => clone_Step (c := c1) (l.getD k default).fSteps hz3 W (Nat.le_trans hhr hW.size) (hs1.later hW hhr))
        rw [he] at hc0
        clear he hs1 hz2
        generalize (l.getD k default).fSteps = m at *
        go_wp2_with fail
        refine (HC.out _ ((Below.refl _ _).alloc (Nat.le_refl _) _ |> fun h => by first | exact h | exact h.setCell (by simp) _ | exact (h.setCell (by simp) _).setCell (by simp) _)).mono ?_
        rintro e w1 ⟨a, c', rfl, ho, hb1⟩
        have HB1 := Lib.hid hb1
        have HOW := Lib.hid ho
        clear ho hb1
        go_wp2
        go_ret
        rw [fin.out]
        refine ⟨a, c', rfl, HOW.out.sub fun y hy => ⟨?_, hy.2⟩, ?_⟩
        · have h1 := hy.1
          simp at h1
          omega
        · exact HBL.out.trans ((Below.trans (by repeat (first | (with_reducible exact Below.refl _ _) | (refine Below.setCell ?_ (by simp) _) | (refine Below.alloc ?_ (by simp) _)) : Below wr.heap.size wr _) (HB1.out.mono (by simp))).mono hsz1)
      · have HN2 := Lib.hid (noneBelow_succ HN.out (k := k) (PPlan_no he))
        have e2 : ((l.getD k default).fRule.toList == nm.toList) = false := PPlan_no he
        clear he hs1
        generalize (l.getD k default).fRule = q at *
        go_wp2
        go_roundw
        case rel =>
          refine ⟨k + 1, by omega, by go_num, HN2.out, ?_⟩
          repeat (first | (with_reducible exact HBL.out) | (refine Below.setCell ?_ (by first | omega | (simp <;> omega)) _) | (refine Below.alloc ?_ (by first | omega | (simp <;> omega)) _))
        case measure => simp [intOf]; omega
    · obtain rfl : k = l.length := by omega
      have fin := Lib.hid (stepsOf_none (idxI_none (p := PPlan nm) HN.out))
      go_wp2
      go_ret
      rw [fin.out]
      exact ⟨none, 0, rfl, .nil _ _ _ _ _, HBL.out⟩
end Go.Proofs.Ytnacnlljhjlmdab
