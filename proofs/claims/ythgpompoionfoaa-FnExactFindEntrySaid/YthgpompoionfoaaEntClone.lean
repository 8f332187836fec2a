/-
  slices.Clone over the lists of an entry.
-/
import Derived.Test.YthgpompoionfoaaFindEntry
import Derived.Lib.SlicesS
import Derived.WalkSpells
import Derived.WalkSmall
import Derived.WalkLawsBesides
import Derived.SliceStrings
import Derived.Deep.QuietTactic
import Derived.Deep.RegionWith
import Derived.BigQuiet
import Derived.Outline
import Derived.Laws.Rows
namespace Go.Proofs.Ythgpompoionfoaa
open Go.ChangeShapes Go.WideShapes Go.ChangeAt Go.RowKit Go.Deep

set_option maxHeartbeats 3200000 in
set_option maxRecDepth 100000 in
theorem clone_int {lo hi c : Nat} {A : Option Addr} (l : List Int) (hl : l.length ≤ 1048577) (w : World) (hhi : hi ≤ w.heap.size) (hs : Sl lo hi w 1 l.length (fun k => ictI (l.getD k default)) A) :
    Calls Try.prog 35 #[.slice A l.length c] w fun e w' => ∃ a c', e = .returned (.slice a l.length c') ∧ Own w' (fun y => w.heap.size ≤ y ∧ y < w'.heap.size) (.sl 1 l.length (fun k => ictI (l.getD k default))) (.slice a l.length c') ∧ Below w.heap.size w w' := by
  obtain ⟨i0_vInt, hi_vInt, hz0_vInt, hz1_vInt, hz2_vInt⟩ := info_parts info_Int
  have hnil : ∀ (W : World) (a : Option Addr) (n c n' c' : Nat), (binOp .eql 31 (.slice a n c) (.slice none n' c')).run Try.prog W = .ok (.bool a.isNone) W := fun W a n c n' c' => Lib.run_eql_slice_nil W _ _ a n c n' c' Try.underlying31
  cases A with
  | none =>
    have h0 : l = [] := by
      rcases Nat.eq_zero_or_pos l.length with h | h
      · exact List.length_eq_zero_iff.1 h
      · obtain ⟨b, off, hb, _⟩ := hs.at 0 h
        cases hb
    subst h0
    go_enter Try.func35, Try.ntmps35
    go_wp2
    go_ret
    exact ⟨none, 0, rfl, .nil _ _ _ _ _, Below.refl _ _⟩
  | some p =>
    have HO := Lib.hid (show (w.alloc (.cells #[] 3)).ownsRow w.heap.size 3 1 (.slice (some ⟨w.heap.size, 0, none⟩) 0 0) 0 [] from grown_made (vals := vInt))
    have HS := Lib.hid (hs.later ((Below.refl w.heap.size w).alloc (Nat.le_refl _) (.cells #[] 3)) hhi)
    clear hs
    go_enter Try.func35, Try.ntmps35
    go_wp2_with (at_builtin; refine wpList_append_sl rfl (.tmp 5) (.tmp 6) 31 rfl (w.heap.size) 3 i0_vInt (.int .i64 0) 1 8 Try.underlying31 hi_vInt hz0_vInt hz1_vInt hz2_vInt rfl (by decide) _ 0 [] rfl (HO.out) l (some p) c rfl vInt_len vInt_ct vInt_one (HS.out) (by unfold maxLen; omega) (by omega) (by first | exact Nat.le_refl _ | (simp <;> omega)) ?_; intro v' w1 hown' hgrow)
    rw [Nat.zero_add, List.nil_append] at hown'
    have HB := Lib.hid (((Below.refl w.heap.size w).alloc (Nat.le_refl _) _).grown hgrow (by simp) (fun g hg => (HO.out.lt g hg).1))
    have HW := Lib.hid hown'
    clear hown' hgrow
    go_wp2
    go_ret
    obtain ⟨a, c', h1, h2⟩ := grown_own (by decide) vInt_len vInt_ct HW.out
    exact ⟨a, c', congrArg Ending.returned h1, h2, HB.out⟩


set_option maxHeartbeats 3200000 in
set_option maxRecDepth 100000 in
theorem clone_Reading {lo hi c : Nat} {A : Option Addr} (l : List DReading) (hl : l.length ≤ 1048577) (w : World) (hhi : hi ≤ w.heap.size) (hs : Sl lo hi w 4 l.length (fun k => DReading.ct (l.getD k default)) A) :
    Calls Try.prog 36 #[.slice A l.length c] w fun e w' => ∃ a c', e = .returned (.slice a l.length c') ∧ Own w' (fun y => w.heap.size ≤ y ∧ y < w'.heap.size) (.sl 4 l.length (fun k => DReading.ct (l.getD k default))) (.slice a l.length c') ∧ Below w.heap.size w w' := by
  obtain ⟨i0_vReading, hi_vReading, hz0_vReading, hz1_vReading, hz2_vReading⟩ := info_parts info_Reading
  have hnil : ∀ (W : World) (a : Option Addr) (n c n' c' : Nat), (binOp .eql 32 (.slice a n c) (.slice none n' c')).run Try.prog W = .ok (.bool a.isNone) W := fun W a n c n' c' => Lib.run_eql_slice_nil W _ _ a n c n' c' Try.underlying32
  cases A with
  | none =>
    have h0 : l = [] := by
      rcases Nat.eq_zero_or_pos l.length with h | h
      · exact List.length_eq_zero_iff.1 h
      · obtain ⟨b, off, hb, _⟩ := hs.at 0 h
        cases hb
    subst h0
    go_enter Try.func36, Try.ntmps36
    go_wp2
    go_ret
    exact ⟨none, 0, rfl, .nil _ _ _ _ _, Below.refl _ _⟩
  | some p =>
    have HO := Lib.hid (show (w.alloc (.cells #[] 70)).ownsRow w.heap.size 70 4 (.slice (some ⟨w.heap.size, 0, none⟩) 0 0) 0 [] from grown_made (vals := vReading))
    have HS := Lib.hid (hs.later ((Below.refl w.heap.size w).alloc (Nat.le_refl _) (.cells #[] 70)) hhi)
    clear hs
    go_enter Try.func36, Try.ntmps36
    go_wp2_with (at_builtin; refine wpList_append_sl rfl (.tmp 5) (.tmp 6) 32 rfl (w.heap.size) 70 i0_vReading (.agg #[.int .i64 0, .string ⟨#[]⟩, .int .i64 0, .string ⟨#[]⟩]) 4 48 Try.underlying32 hi_vReading hz0_vReading hz1_vReading hz2_vReading rfl (by decide) _ 0 [] rfl (HO.out) l (some p) c rfl vReading_len vReading_ct vReading_one (HS.out) (by unfold maxLen; omega) (by omega) (by first | exact Nat.le_refl _ | (simp <;> omega)) ?_; intro v' w1 hown' hgrow)
    rw [Nat.zero_add, List.nil_append] at hown'
    have HB := Lib.hid (((Below.refl w.heap.size w).alloc (Nat.le_refl _) _).grown hgrow (by simp) (fun g hg => (HO.out.lt g hg).1))
    have HW := Lib.hid hown'
    clear hown' hgrow
    go_wp2
    go_ret
    obtain ⟨a, c', h1, h2⟩ := grown_own (by decide) vReading_len vReading_ct HW.out
    exact ⟨a, c', congrArg Ending.returned h1, h2, HB.out⟩
end Go.Proofs.Ythgpompoionfoaa
