/-
  RulesOf, in the model and in the program.
-/
import Derived.Test.YticlahaodjbjbaaTGrammar
import Derived.Test.YticlahaodjbjbaaGrow
import Derived.Lib.Strings
namespace Go.Proofs.Yticlahaodjbjbaa
open Go.ChangeShapes Go.WideShapes Go.ChangeAt Go.RowKit Go.Deep

theorem toList_inj' {x y : ByteArray} (h : x.toList = y.toList) : x = y := by
  rw [Lib.toList_data, Lib.toList_data] at h
  cases x; cases y
  simp only at h
  rw [ByteArray.mk.injEq]
  exact Array.toList_inj.1 h
theorem info_str16 : (Try.prog.info? 9).map (fun i => (i.zero, i.size, i.bytes)) = some (some (.string ⟨#[]⟩), 1, 16) := by kernel_rfl
def vS (s : ByteArray) : List Value := [.string s]
theorem vS_len (s : ByteArray) : (vS s).length = 1 := rfl
theorem vS_ct (s : ByteArray) (c : Nat) (h : c < 1) : ictS s c = .lit ((vS s).getD c .nilFunc) := match c, h with | 0, _ => rfl
def ruleAt (nm : ByteArray) (r : DRule) : List ByteArray := if r.fLeft.toList == nm.toList then [r.fName] else []
theorem ruleAt_yes {nm : ByteArray} {r : DRule} (h : r.fLeft = nm) : ruleAt nm r = [r.fName] := by unfold ruleAt; rw [h]; simp
theorem ruleAt_no {nm : ByteArray} {r : DRule} (h : (r.fLeft.toList == nm.toList) = false) : ruleAt nm r = [] := by unfold ruleAt; rw [h]; rfl
/-- The names of the rules with the left side nm. -/
def rulesOf (l : List DRule) (nm : ByteArray) : List ByteArray := l.flatMap (ruleAt nm)
theorem rulesOf_snoc (l : List DRule) (nm : ByteArray) (r : DRule) : rulesOf (l ++ [r]) nm = rulesOf l nm ++ ruleAt nm r := by unfold rulesOf; rw [List.flatMap_append, List.flatMap_cons, List.flatMap_nil, List.append_nil]
theorem rules_step {l : List DRule} {nm : ByteArray} {j : Nat} (hj : j < l.length) : rulesOf (l.take (j + 1)) nm = rulesOf (l.take j) nm ++ ruleAt nm (l.getD j default) := by rw [take_snoc hj, rulesOf_snoc]
theorem rules_sz (nm : ByteArray) : ∀ l : List DRule, lsz ByteArray.size (rulesOf l nm) ≤ lsz DRule.sz l
  | [] => Nat.le_refl _
  | r :: l => by
    have ih := rules_sz nm l
    have h1 : r.fName.size ≤ DRule.sz r := by unfold DRule.sz; omega
    have h2 : rulesOf (r :: l) nm = ruleAt nm r ++ rulesOf l nm := by unfold rulesOf; rw [List.flatMap_cons]
    have hr : ruleAt nm r = [] ∨ ruleAt nm r = [r.fName] := by unfold ruleAt; split <;> simp
    rw [h2]
    unfold lsz at *
    rw [List.length_append, List.map_append, List.sum_append, List.length_cons, List.map_cons, List.sum_cons]
    rcases hr with hr | hr
    · rw [hr]
      simp only [List.length_nil, List.map_nil, List.sum_nil]
      omega
    · rw [hr]
      simp only [List.length_cons, List.length_nil, List.map_cons, List.map_nil, List.sum_cons, List.sum_nil]
      omega
theorem rules_len (nm : ByteArray) (l : List DRule) : (rulesOf l nm).length ≤ l.length := by
  induction l with
  | nil => exact Nat.le_refl _
  | cons r l ih =>
    unfold rulesOf at *
    rw [List.flatMap_cons, List.length_append, List.length_cons]
    have : (ruleAt nm r).length ≤ 1 := by unfold ruleAt; split <;> simp
    omega
theorem rulesG_sz {g : DGrammar} (h : g.sz ≤ 1048576) (nm : ByteArray) : lsz ByteArray.size (rulesOf g.fRules nm) ≤ 1048576 := by
  have h1 := rules_sz nm g.fRules
  have h2 : lsz DRule.sz g.fRules ≤ DGrammar.sz g := by unfold DGrammar.sz; omega
  omega
theorem rulesG_len {g : DGrammar} (h : g.sz ≤ 1048576) (nm : ByteArray) : (rulesOf g.fRules nm).length ≤ 1048576 := by
  have h1 := rulesG_sz h nm
  unfold lsz at h1
  omega

set_option maxHeartbeats 3200000 in
set_option maxRecDepth 100000 in
theorem spec_RulesOf {lo hi : Nat} {a0 a1 : Option Addr} {c0_0 c0_1 : Nat} (g : DGrammar) (_ : g.ok) (hsz : g.sz ≤ 1048576) (nm : ByteArray) (_ : okS nm) (_ : nm.size ≤ 1048576) (w : World) (hhi : hi ≤ w.heap.size) (_ : Sl lo hi w 2 g.fSymbols.length (fun k => DSymbol.ct (g.fSymbols.getD k default)) a0) (hs : Sl lo hi w 6 g.fRules.length (fun k => DRule.ct (g.fRules.getD k default)) a1) :
    Calls Try.prog 5 #[.agg #[.slice a0 g.fSymbols.length c0_0, .slice a1 g.fRules.length c0_1], .string nm] w fun e w' => ∃ a c, e = .returned (.slice a (rulesOf g.fRules nm).length c) ∧ Own w' (fun y => w.heap.size ≤ y ∧ y < w'.heap.size) (.sl 1 (rulesOf g.fRules nm).length (fun k => ictS ((rulesOf g.fRules nm).getD k default))) (.slice a (rulesOf g.fRules nm).length c) ∧ Below w.heap.size w w' := by
  have hl : lsz DRule.sz g.fRules ≤ 1048576 := by unfold DGrammar.sz at hsz; omega
  have hn : g.fRules.length ≤ 1048576 := by unfold lsz at hl; omega
  generalize g.fRules = l at *
  generalize g.fSymbols.length = g1 at *
  have HB := Lib.hid ((Below.refl w.heap.size w).alloc (Nat.le_refl _) (.cells #[.slice a0 g1 c0_0, .slice a1 l.length c0_1] 32))
  have HE := Lib.hid (show Below (w.heap.size + 1) (w.alloc (.cells #[.slice a0 g1 c0_0, .slice a1 l.length c0_1] 32)) (w.alloc (.cells #[.slice a0 g1 c0_0, .slice a1 l.length c0_1] 32)) from Below.refl _ _)
  have HSZ := Lib.hid (show (w.alloc (.cells #[.slice a0 g1 c0_0, .slice a1 l.length c0_1] 32)).heap.size = w.heap.size + 1 by simp)
  have HX := Lib.hid (show (w.alloc (.cells #[.slice a0 g1 c0_0, .slice a1 l.length c0_1] 32)).cell? ⟨w.heap.size, 1, none⟩ = some (.slice a1 l.length c0_1) by go_simp)
  have HS := Lib.hid (hs.later HB.out hhi)
  have HHI := Lib.hid hhi
  have HGO := Lib.hid (fun (w' : World) (v : Value) (L : List ByteArray) (h : w'.ownsRow (w.heap.size + 1) 9 1 v L.length (L.flatMap vS)) => (show ∃ a c, v = .slice a L.length c ∧ Own w' (fun y => w.heap.size ≤ y ∧ y < w'.heap.size) (.sl 1 L.length (fun k => ictS (L.getD k default))) (.slice a L.length c) from by
    obtain ⟨a, c, h1, h2⟩ := grown_own (ct := ictS) (by decide) vS_len vS_ct h
    exact ⟨a, c, h1, h2.sub fun y hy => ⟨by omega, hy.2⟩⟩))
  obtain ⟨i0, hi', hz0, hz1, hz2⟩ := info_parts info_str16
  clear hs hsz hhi hl
  have HO0 := Lib.hid (show ((w.alloc (.cells #[.slice a0 g1 c0_0, .slice a1 l.length c0_1] 32)).alloc (.cells #[] 9)).ownsRow (w.heap.size + 1) 9 1 (.slice (some ⟨w.heap.size + 1, 0, none⟩) 0 0) 0 [] from by have h := grown_made (w := w.alloc (.cells #[.slice a0 g1 c0_0, .slice a1 l.length c0_1] 32)) (e := 9) (n := 1) (vals := vS); rw [HSZ.out] at h; exact h)
  go_enter Try.func5, Try.ntmps5
  go_wp2
  go_loopw [5, 6] (fun v i wr => ∃ j : Nat, j ≤ l.length ∧ i = .int .i64 (j : Int) ∧ wr.ownsRow (w.heap.size + 1) 9 1 v (rulesOf (l.take j) nm).length ((rulesOf (l.take j) nm).flatMap vS) ∧ Below (w.heap.size + 1) (w.alloc (.cells #[.slice a0 g1 c0_0, .slice a1 l.length c0_1] 32)) wr) (fun _ i _ => l.length - (intOf i).toNat)
  case atStart => exact ⟨0, Nat.zero_le _, rfl, HO0.out, HE.out.alloc (by simp) _⟩
  case round =>
    obtain ⟨j, hj, rfl, hown, hbl⟩ := hrel
    have HO := Lib.hid hown
    have HBL := Lib.hid hbl
    have hsz1 : w.heap.size + 1 ≤ wr.heap.size := by have := hbl.size; rw [HSZ.out] at this; exact this
    have hx1 : wr.cell? ⟨w.heap.size, 1, none⟩ = some (.slice a1 l.length c0_1) := (hbl.cell (p := ⟨w.heap.size, 1, none⟩) (Nat.lt_succ_self _)).trans HX.out
    have hlen : (rulesOf (l.take j) nm).length ≤ 1048576 := by have h1 := rules_len nm (l.take j); rw [List.length_take] at h1; omega
    clear hown hbl
    by_cases hlt : j < l.length
    · have HST := Lib.hid (rules_step (nm := nm) hlt)
      obtain ⟨b, off, rfl, _, hbh, hc⟩ := (HS.out.later HBL.out (Nat.le_trans HHI.out (Nat.le_succ _))).at j hlt
      obtain ⟨a2, c2, a4, c4, a5, c5, hc0, hc1, hc2, hc3, hc4, hc5, _, _, _⟩ := DRule.open hc
      have hbw : b < wr.heap.size := by have := HHI.out; omega
      clear hc
      generalize rulesOf (l.take j) nm = L at *
      by_cases he : (l.getD j default).fLeft = nm
      · rw [ruleAt_yes he] at HST
        rw [he] at hc1
        clear he
        generalize (l.getD j default).fName = x at *
        go_wp2_with (at_builtin; refine wpList_append_own _ rfl (.tmp 23) (.tmp 30) 27 rfl (w.heap.size + 1) 9 i0 (.string ⟨#[]⟩) 1 16 Try.underlying27 hi' hz0 hz1 hz2 rfl (by decide) _ _ _ rfl (HO.out.alloc _) ⟨wr.heap.size, 0, none⟩ 1 1 [.string x] rfl rfl (cell_one_new _ _ _) (by intro u hu; simp at hu; subst hu; rfl) (by unfold maxLen; omega) (by omega) (by simp <;> omega) ?_; intro v' w1 hown' hgrow hnil)
        have R1 := Lib.hid (grown_one (l := L) (x := x) (vals := vS) hown' rfl)
        rw [← HST.out] at R1
        have R3 := Lib.hid (show Below (w.heap.size + 1) (w.alloc (.cells #[.slice a0 g1 c0_0, .slice (some ⟨b, off, none⟩) l.length c0_1] 32)) w1 from (HBL.out.alloc hsz1 _).grown hgrow (by simp <;> omega) (fun g hg => (HO.out.lt g hg).1))
        clear hown' hgrow hnil
        go_wp2
        go_roundw
        case rel => exact ⟨j + 1, by omega, by go_num, R1.out, R3.out⟩
        case measure => simp [intOf]; omega
      · have e2 : ((l.getD j default).fLeft.toList == nm.toList) = false := beq_eq_false_iff_ne.2 (fun e => he (toList_inj' e))
        rw [ruleAt_no e2, List.append_nil] at HST
        clear he
        generalize (l.getD j default).fLeft = q at *
        go_wp2
        go_roundw
        case rel =>
          refine ⟨j + 1, by omega, by go_num, ?_, ?_⟩
          · rw [HST.out]
            exact HO.out
          · repeat (first | (with_reducible exact HBL.out) | (with_reducible refine Below.alloc ?_ ?_ _) | (with_reducible refine Below.setCell ?_ ?_ _))
            all_goals (first | omega | (simp <;> omega))
        case measure => simp [intOf]; omega
    · obtain rfl : j = l.length := by omega
      go_wp2
      go_ret
      have ho := HO.out
      rw [List.take_length] at ho
      obtain ⟨a, c, h1, h2⟩ := HGO.out _ _ _ ho
      exact ⟨a, c, congrArg Ending.returned h1, h2, HB.out.trans (HBL.out.mono (Nat.le_succ _))⟩

set_option maxHeartbeats 3200000 in
set_option maxRecDepth 100000 in
theorem impl_RulesOf {lo hi : Nat} {a0 a1 : Option Addr} {c0_0 c0_1 : Nat} (g : DGrammar) (_ : g.ok) (hsz : g.sz ≤ 1048576) (nm : ByteArray) (_ : okS nm) (_ : nm.size ≤ 1048576) (w : World) (hhi : hi ≤ w.heap.size) (_ : Sl lo hi w 2 g.fSymbols.length (fun k => DSymbol.ct (g.fSymbols.getD k default)) a0) (hs : Sl lo hi w 6 g.fRules.length (fun k => DRule.ct (g.fRules.getD k default)) a1) :
    Calls Try.prog 7 #[.agg #[.slice a0 g.fSymbols.length c0_0, .slice a1 g.fRules.length c0_1], .string nm] w fun e w' => ∃ a c, e = .returned (.slice a (rulesOf g.fRules nm).length c) ∧ Own w' (fun y => w.heap.size ≤ y ∧ y < w'.heap.size) (.sl 1 (rulesOf g.fRules nm).length (fun k => ictS ((rulesOf g.fRules nm).getD k default))) (.slice a (rulesOf g.fRules nm).length c) ∧ Below w.heap.size w w' := by
  have hl : lsz DRule.sz g.fRules ≤ 1048576 := by unfold DGrammar.sz at hsz; omega
  have hn : g.fRules.length ≤ 1048576 := by unfold lsz at hl; omega
  generalize g.fRules = l at *
  generalize g.fSymbols.length = g1 at *
  have HB := Lib.hid ((Below.refl w.heap.size w).alloc (Nat.le_refl _) (.cells #[.slice a0 g1 c0_0, .slice a1 l.length c0_1] 32))
  have HE := Lib.hid (show Below (w.heap.size + 1) (w.alloc (.cells #[.slice a0 g1 c0_0, .slice a1 l.length c0_1] 32)) (w.alloc (.cells #[.slice a0 g1 c0_0, .slice a1 l.length c0_1] 32)) from Below.refl _ _)
  have HSZ := Lib.hid (show (w.alloc (.cells #[.slice a0 g1 c0_0, .slice a1 l.length c0_1] 32)).heap.size = w.heap.size + 1 by simp)
  have HX := Lib.hid (show (w.alloc (.cells #[.slice a0 g1 c0_0, .slice a1 l.length c0_1] 32)).cell? ⟨w.heap.size, 1, none⟩ = some (.slice a1 l.length c0_1) by go_simp)
  have HS := Lib.hid (hs.later HB.out hhi)
  have HHI := Lib.hid hhi
  have HGO := Lib.hid (fun (w' : World) (v : Value) (L : List ByteArray) (h : w'.ownsRow (w.heap.size + 1) 9 1 v L.length (L.flatMap vS)) => (show ∃ a c, v = .slice a L.length c ∧ Own w' (fun y => w.heap.size ≤ y ∧ y < w'.heap.size) (.sl 1 L.length (fun k => ictS (L.getD k default))) (.slice a L.length c) from by
    obtain ⟨a, c, h1, h2⟩ := grown_own (ct := ictS) (by decide) vS_len vS_ct h
    exact ⟨a, c, h1, h2.sub fun y hy => ⟨by omega, hy.2⟩⟩))
  obtain ⟨i0, hi', hz0, hz1, hz2⟩ := info_parts info_str16
  clear hs hsz hhi hl
  go_enter Try.func7, Try.ntmps7
  go_wp2
  go_loopw [5, 11] (fun v i wr => ∃ j : Nat, j ≤ l.length ∧ i = .int .i64 (j : Int) ∧ wr.ownsRow (w.heap.size + 1) 9 1 v (rulesOf (l.take j) nm).length ((rulesOf (l.take j) nm).flatMap vS) ∧ Below (w.heap.size + 1) (w.alloc (.cells #[.slice a0 g1 c0_0, .slice a1 l.length c0_1] 32)) wr) (fun _ i _ => l.length - (intOf i).toNat)
  case atStart => exact ⟨0, Nat.zero_le _, rfl, grown_nil, HE.out⟩
  case round =>
    obtain ⟨j, hj, rfl, hown, hbl⟩ := hrel
    have HO := Lib.hid hown
    have HBL := Lib.hid hbl
    have hsz1 : w.heap.size + 1 ≤ wr.heap.size := by have := hbl.size; rw [HSZ.out] at this; exact this
    have hx1 : wr.cell? ⟨w.heap.size, 1, none⟩ = some (.slice a1 l.length c0_1) := (hbl.cell (p := ⟨w.heap.size, 1, none⟩) (Nat.lt_succ_self _)).trans HX.out
    have hlen : (rulesOf (l.take j) nm).length ≤ 1048576 := by have h1 := rules_len nm (l.take j); rw [List.length_take] at h1; omega
    clear hown hbl
    by_cases hlt : j < l.length
    · have HST := Lib.hid (rules_step (nm := nm) hlt)
      obtain ⟨b, off, rfl, _, hbh, hc⟩ := (HS.out.later HBL.out (Nat.le_trans HHI.out (Nat.le_succ _))).at j hlt
      obtain ⟨a2, c2, a4, c4, a5, c5, hc0, hc1, hc2, hc3, hc4, hc5, _, _, _⟩ := DRule.open hc
      have hbw : b < wr.heap.size := by have := HHI.out; omega
      clear hc
      generalize rulesOf (l.take j) nm = L at *
      by_cases he : (l.getD j default).fLeft = nm
      · rw [ruleAt_yes he] at HST
        rw [he] at hc1
        clear he
        generalize (l.getD j default).fName = x at *
        generalize (l.getD j default).fRight.length = n2 at *
        generalize (l.getD j default).fLiteral = lt at *
        generalize (l.getD j default).fEquations.length = n4 at *
        generalize (l.getD j default).fContributions.length = n5 at *
        have HO2 := Lib.hid (show (wr.alloc (.cells #[.string x, .string nm, .slice a2 n2 c2, .bool lt, .slice a4 n4 c4, .slice a5 n5 c5] 44)).ownsRow (w.heap.size + 1) 9 1 _ L.length (L.flatMap vS) from HO.out.alloc _)
        have HBL2 := Lib.hid (show Below (w.heap.size + 1) (w.alloc (.cells #[.slice a0 g1 c0_0, .slice (some ⟨b, off, none⟩) l.length c0_1] 32)) (wr.alloc (.cells #[.string x, .string nm, .slice a2 n2 c2, .bool lt, .slice a4 n4 c4, .slice a5 n5 c5] 44)) from HBL.out.alloc hsz1 _)
        go_wp2_with (at_builtin; refine wpList_append_own _ rfl (.tmp 19) (.tmp 22) 27 rfl (w.heap.size + 1) 9 i0 (.string ⟨#[]⟩) 1 16 Try.underlying27 hi' hz0 hz1 hz2 rfl (by decide) _ _ _ rfl (HO2.out.alloc _) ⟨wr.heap.size + 1, 0, none⟩ 1 1 [.string x] rfl rfl (by intro q u hu; rcases q with _ | q <;> simp at hu; subst hu; go_simp) (by intro u hu; simp at hu; subst hu; rfl) (by unfold maxLen; omega) (by omega) (by simp <;> omega) ?_; intro v' w1 hown' hgrow hnil)
        have R1 := Lib.hid (grown_one (l := L) (x := x) (vals := vS) hown' rfl)
        rw [← HST.out] at R1
        have R3 := Lib.hid (show Below (w.heap.size + 1) (w.alloc (.cells #[.slice a0 g1 c0_0, .slice (some ⟨b, off, none⟩) l.length c0_1] 32)) w1 from (HBL2.out.alloc (by simp <;> omega) _).grown hgrow (by simp <;> omega) (fun g hg => (HO.out.lt g hg).1))
        clear hown' hgrow hnil
        go_wp2
        go_roundw
        case rel => exact ⟨j + 1, by omega, by go_num, R1.out, R3.out⟩
        case measure => simp [intOf]; omega
      · have e2 : ((l.getD j default).fLeft.toList == nm.toList) = false := beq_eq_false_iff_ne.2 (fun e => he (toList_inj' e))
        rw [ruleAt_no e2, List.append_nil] at HST
        clear he
        generalize (l.getD j default).fName = x at *
        generalize (l.getD j default).fLeft = q at *
        generalize (l.getD j default).fRight.length = n2 at *
        generalize (l.getD j default).fLiteral = lt at *
        generalize (l.getD j default).fEquations.length = n4 at *
        generalize (l.getD j default).fContributions.length = n5 at *
        go_wp2
        go_roundw
        case rel =>
          refine ⟨j + 1, by omega, by go_num, ?_, ?_⟩
          · rw [HST.out]
            exact HO.out.alloc _
          · repeat (first | (with_reducible exact HBL.out) | (with_reducible refine Below.alloc ?_ ?_ _) | (with_reducible refine Below.setCell ?_ ?_ _))
            all_goals (first | omega | (simp <;> omega))
        case measure => simp [intOf]; omega
    · obtain rfl : j = l.length := by omega
      go_wp2
      go_ret
      have ho := HO.out
      rw [List.take_length] at ho
      obtain ⟨a, c, h1, h2⟩ := HGO.out _ _ _ ho
      exact ⟨a, c, congrArg Ending.returned h1, h2, HB.out.trans (HBL.out.mono (Nat.le_succ _))⟩
end Go.Proofs.Yticlahaodjbjbaa
