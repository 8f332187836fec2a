/-
  slices.Clone over a list of Step.
-/
import Derived.Test.YtnacnlljhjlmdabSpread
import Derived.Lib.SlicesS
import Derived.Test.YtnacnlljhjlmdabTStep
import Derived.WalkSpells
import Derived.WalkSmall
import Derived.WalkLawsBesides
import Derived.SliceStrings
import Derived.Deep.QuietTactic
import Derived.Deep.RegionWith
import Derived.BigQuiet
import Derived.Outline
import Derived.Laws.Rows
namespace Go.Proofs.Ytnacnlljhjlmdab
open Go.ChangeShapes Go.WideShapes Go.ChangeAt Go.RowKit Go.Deep

def vStep (x : DStep) : List Value := [.int .i64 x.fKind, .int .i64 x.fPos, .int .i64 x.fVisit, .string x.fName]
theorem vStep_len (x : DStep) : (vStep x).length = 4 := rfl
theorem vStep_ct (x : DStep) (c : Nat) (h : c < 4) : x.ct c = .lit ((vStep x).getD c .nilFunc) := match c, h with | 0, _ => rfl | 1, _ => rfl | 2, _ => rfl | 3, _ => rfl
theorem vStep_one (x : DStep) : ∀ u ∈ vStep x, u.oneCell' = true := by
  intro u hu
  simp only [vStep, List.mem_cons, List.not_mem_nil, or_false] at hu
  rcases hu with rfl | rfl | rfl | rfl <;> rfl

set_option maxHeartbeats 3200000 in
set_option maxRecDepth 100000 in
theorem clone_Step {lo hi c : Nat} {A : Option Addr} (l : List DStep) (hl : l.length ≤ 1048577) (w : World) (hhi : hi ≤ w.heap.size) (hs : Sl lo hi w 4 l.length (fun k => DStep.ct (l.getD k default)) A) :
    Calls Try.prog 91 #[.slice A l.length c] w fun e w' => ∃ a c', e = .returned (.slice a l.length c') ∧ Own w' (fun y => w.heap.size ≤ y ∧ y < w'.heap.size) (.sl 4 l.length (fun k => DStep.ct (l.getD k default))) (.slice a l.length c') ∧ Below w.heap.size w w' := by
  obtain ⟨i0_vStep, hi_vStep, hz0_vStep, hz1_vStep, hz2_vStep⟩ := info_parts info_Step
  have hnil : ∀ (W : World) (a : Option Addr) (n c n' c' : Nat), (binOp .eql 46 (.slice a n c) (.slice none n' c')).run Try.prog W = .ok (.bool a.isNone) W := fun W a n c n' c' => Lib.run_eql_slice_nil W _ _ a n c n' c' Try.underlying46
  cases A with
  | none =>
    have h0 : l = [] := by
      rcases Nat.eq_zero_or_pos l.length with h | h
      · exact List.length_eq_zero_iff.1 h
      · obtain ⟨b, off, hb, _⟩ := hs.at 0 h
        cases hb
    subst h0
    go_enter Try.func91, Try.ntmps91
    go_wp2
    go_ret
    exact ⟨none, 0, rfl, .nil _ _ _ _ _, Below.refl _ _⟩
  | some p =>
    have HO := Lib.hid (show (w.alloc (.cells #[] 141)).ownsRow w.heap.size 141 4 (.slice (some ⟨w.heap.size, 0, none⟩) 0 0) 0 [] from grown_made (vals := vStep))
    have HS := Lib.hid (hs.later ((Below.refl w.heap.size w).alloc (Nat.le_refl _) (.cells #[] 141)) hhi)
    clear hs
    go_enter Try.func91, Try.ntmps91
    go_wp2_with (at_builtin; refine wpList_append_sl rfl (.tmp 5) (.tmp 6) 46 rfl (w.heap.size) 141 i0_vStep (.agg #[.int .i64 0, .int .i64 0, .int .i64 0, .string ⟨#[]⟩]) 4 40 Try.underlying46 hi_vStep hz0_vStep hz1_vStep hz2_vStep rfl (by decide) _ 0 [] rfl (HO.out) l (some p) c rfl vStep_len vStep_ct vStep_one (HS.out) (by unfold maxLen; omega) (by omega) (by first | exact Nat.le_refl _ | (simp <;> omega)) ?_; intro v' w1 hown' hgrow)
    rw [Nat.zero_add, List.nil_append] at hown'
    have HB := Lib.hid (((Below.refl w.heap.size w).alloc (Nat.le_refl _) _).grown hgrow (by simp) (fun g hg => (HO.out.lt g hg).1))
    have HW := Lib.hid hown'
    clear hown' hgrow
    go_wp2
    go_ret
    obtain ⟨a, c', h1, h2⟩ := grown_own (by decide) vStep_len vStep_ct HW.out
    exact ⟨a, c', congrArg Ending.returned h1, h2, HB.out⟩
end Go.Proofs.Ytnacnlljhjlmdab
