/-
  slices.Clone over a list of Attribute.
-/
import Derived.Test.YtmlflpoeaahipaaSpread
import Derived.Lib.SlicesS
import Derived.Test.YtmlflpoeaahipaaTAttribute
import Derived.WalkSpells
import Derived.WalkSmall
import Derived.WalkLawsBesides
import Derived.SliceStrings
import Derived.Deep.QuietTactic
import Derived.Deep.RegionWith
import Derived.BigQuiet
import Derived.Outline
import Derived.Laws.Rows
namespace Go.Proofs.Ytmlflpoeaahipaa
open Go.ChangeShapes Go.WideShapes Go.ChangeAt Go.RowKit Go.Deep

def vAttribute (x : DAttribute) : List Value := [.string x.fName, .int .i64 x.fType, .int .i64 x.fMode, .bool x.fCircular]
theorem vAttribute_len (x : DAttribute) : (vAttribute x).length = 4 := rfl
theorem vAttribute_ct (x : DAttribute) (c : Nat) (h : c < 4) : x.ct c = .lit ((vAttribute x).getD c .nilFunc) := match c, h with | 0, _ => rfl | 1, _ => rfl | 2, _ => rfl | 3, _ => rfl
theorem vAttribute_one (x : DAttribute) : ∀ u ∈ vAttribute x, u.oneCell' = true := by
  intro u hu
  simp only [vAttribute, List.mem_cons, List.not_mem_nil, or_false] at hu
  rcases hu with rfl | rfl | rfl | rfl <;> rfl

set_option maxHeartbeats 3200000 in
set_option maxRecDepth 100000 in
theorem clone_Attribute {lo hi c : Nat} {A : Option Addr} (l : List DAttribute) (hl : l.length ≤ 1048577) (w : World) (hhi : hi ≤ w.heap.size) (hs : Sl lo hi w 4 l.length (fun k => DAttribute.ct (l.getD k default)) A) :
    Calls Try.prog 31 #[.slice A l.length c] w fun e w' => ∃ a c', e = .returned (.slice a l.length c') ∧ Own w' (fun y => w.heap.size ≤ y ∧ y < w'.heap.size) (.sl 4 l.length (fun k => DAttribute.ct (l.getD k default))) (.slice a l.length c') ∧ Below w.heap.size w w' := by
  obtain ⟨i0_vAttribute, hi_vAttribute, hz0_vAttribute, hz1_vAttribute, hz2_vAttribute⟩ := info_parts info_Attribute
  have hnil : ∀ (W : World) (a : Option Addr) (n c n' c' : Nat), (binOp .eql 27 (.slice a n c) (.slice none n' c')).run Try.prog W = .ok (.bool a.isNone) W := fun W a n c n' c' => Lib.run_eql_slice_nil W _ _ a n c n' c' Try.underlying27
  cases A with
  | none =>
    have h0 : l = [] := by
      rcases Nat.eq_zero_or_pos l.length with h | h
      · exact List.length_eq_zero_iff.1 h
      · obtain ⟨b, off, hb, _⟩ := hs.at 0 h
        cases hb
    subst h0
    go_enter Try.func31, Try.ntmps31
    go_wp2
    go_ret
    exact ⟨none, 0, rfl, .nil _ _ _ _ _, Below.refl _ _⟩
  | some p =>
    have HO := Lib.hid (show (w.alloc (.cells #[] 71)).ownsRow w.heap.size 71 4 (.slice (some ⟨w.heap.size, 0, none⟩) 0 0) 0 [] from grown_made (vals := vAttribute))
    have HS := Lib.hid (hs.later ((Below.refl w.heap.size w).alloc (Nat.le_refl _) (.cells #[] 71)) hhi)
    clear hs
    go_enter Try.func31, Try.ntmps31
    go_wp2_with (at_builtin; refine wpList_append_sl rfl (.tmp 5) (.tmp 6) 27 rfl (w.heap.size) 71 i0_vAttribute (.agg #[.string ⟨#[]⟩, .int .i64 0, .int .i64 0, .bool false]) 4 40 Try.underlying27 hi_vAttribute hz0_vAttribute hz1_vAttribute hz2_vAttribute rfl (by decide) _ 0 [] rfl (HO.out) l (some p) c rfl vAttribute_len vAttribute_ct vAttribute_one (HS.out) (by unfold maxLen; omega) (by omega) (by first | exact Nat.le_refl _ | (simp <;> omega)) ?_; intro v' w1 hown' hgrow)
    rw [Nat.zero_add, List.nil_append] at hown'
    have HB := Lib.hid (((Below.refl w.heap.size w).alloc (Nat.le_refl _) _).grown hgrow (by simp) (fun g hg => (HO.out.lt g hg).1))
    have HW := Lib.hid hown'
    clear hown' hgrow
    go_wp2
    go_ret
    obtain ⟨a, c', h1, h2⟩ := grown_own (by decide) vAttribute_len vAttribute_ct HW.out
    exact ⟨a, c', congrArg Ending.returned h1, h2, HB.out⟩
end Go.Proofs.Ytmlflpoeaahipaa
