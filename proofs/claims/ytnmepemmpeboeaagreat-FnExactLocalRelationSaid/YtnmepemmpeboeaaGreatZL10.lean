/-
  The model's copy of a symbol.
-/
import Derived.Test.YtnmepemmpeboeaaGreatZSpread2
import Derived.Test.YtnmepemmpeboeaaGreatZCloneAttribute
import Derived.Test.YtnmepemmpeboeaaGreatZz7
namespace Go.Proofs.YtnmepemmpeboeaaGreat
open Go.ChangeShapes Go.WideShapes Go.ChangeAt Go.RowKit Go.Deep

set_option maxHeartbeats 6400000 in
set_option maxRecDepth 100000 in
theorem spec_l10Symbol {lo hi c : Nat} {A : Option Addr} (s : DSymbol) (hl : s.fAttributes.length ≤ 1048576) (w : World) (hhi : hi ≤ w.heap.size) (hs : Sl lo hi w 4 s.fAttributes.length (fun k => DAttribute.ct (s.fAttributes.getD k default)) A) :
    Calls Tryz.prog 109 #[.agg #[.string s.fName, .slice A s.fAttributes.length c]] w fun e w' => ∃ a c', e = .returned (.agg #[.string s.fName, .slice a s.fAttributes.length c']) ∧ Own w' (fun y => w.heap.size ≤ y ∧ y < w'.heap.size) (.sl 4 s.fAttributes.length (fun k => DAttribute.ct (s.fAttributes.getD k default))) (.slice a s.fAttributes.length c') ∧ Below w.heap.size w w' := by
  obtain ⟨i0, hi', hz0, hz1, hz2⟩ := info_parts info_Attribute
  have HB := Lib.hid (((Below.refl w.heap.size w).alloc (Nat.le_refl _) (.cells #[.string s.fName, .slice A s.fAttributes.length c] 116)).alloc (by simp) (.cells #[.string ⟨#[]⟩, .slice none 0 0] 116))
  have HG := Lib.hid (show ((w.alloc (.cells #[.string s.fName, .slice A s.fAttributes.length c] 116)).alloc (.cells #[.string ⟨#[]⟩, .slice none 0 0] 116)).heap[w.heap.size + 1]? = some (.cells #[.string ⟨#[]⟩, .slice none 0 0] 116) from blk_new (by simp))
  have HC0 := Lib.hid (show ((w.alloc (.cells #[.string s.fName, .slice A s.fAttributes.length c] 116)).alloc (.cells #[.string ⟨#[]⟩, .slice none 0 0] 116)).cell? ⟨w.heap.size, 0, none⟩ = some (.string s.fName) by go_simp)
  have HC3 := Lib.hid (show ((w.alloc (.cells #[.string s.fName, .slice A s.fAttributes.length c] 116)).alloc (.cells #[.string ⟨#[]⟩, .slice none 0 0] 116)).cell? ⟨w.heap.size, 1, none⟩ = some (.slice A s.fAttributes.length c) by go_simp)
  have HC1 := Lib.hid (show ((w.alloc (.cells #[.string s.fName, .slice A s.fAttributes.length c] 116)).alloc (.cells #[.string ⟨#[]⟩, .slice none 0 0] 116)).cell? ⟨w.heap.size + 1, 0, none⟩ = some (.string ⟨#[]⟩) by go_simp)
  have HC2 := Lib.hid (show ((w.alloc (.cells #[.string s.fName, .slice A s.fAttributes.length c] 116)).alloc (.cells #[.string ⟨#[]⟩, .slice none 0 0] 116)).cell? ⟨w.heap.size + 1, 1, none⟩ = some (.slice none 0 0) by go_simp)
  have HF1 := Lib.hid (show ((w.alloc (.cells #[.string s.fName, .slice A s.fAttributes.length c] 116)).alloc (.cells #[.string ⟨#[]⟩, .slice none 0 0] 116)).frozen? ⟨w.heap.size + 1, 0, none⟩ = false by go_simp)
  have HF2 := Lib.hid (show ((w.alloc (.cells #[.string s.fName, .slice A s.fAttributes.length c] 116)).alloc (.cells #[.string ⟨#[]⟩, .slice none 0 0] 116)).frozen? ⟨w.heap.size + 1, 1, none⟩ = false by go_simp)
  have HOL := Lib.hid (show (((w.alloc (.cells #[.string s.fName, .slice A s.fAttributes.length c] 116)).alloc (.cells #[.string ⟨#[]⟩, .slice none 0 0] 116)).alloc (.cells #[] 106)).ownsRow (w.heap.size + 2) 106 4 (.slice (some ⟨w.heap.size + 1 + 1, 0, none⟩) 0 0) 0 [] from by have h := World.ownsRow_made (base := w.heap.size + 2) (e := 106) (size := 4) ((w.alloc (.cells #[.string s.fName, .slice A s.fAttributes.length c] 116)).alloc (.cells #[.string ⟨#[]⟩, .slice none 0 0] 116)) #[] 0 (by simp) (Nat.zero_le _) rfl; simpa using h)
  have HS := Lib.hid (fun (W : World) (hW : Below w.heap.size w W) => hs.later hW hhi)
  clear hs
  generalize s.fAttributes = m at *
  go_enter Tryz.func109, Tryz.ntmps109
  go_wp2_with fail
  go_region_law ((refine step_append_sl (lo := lo) (hi2 := hi) (vals := vAttribute) (ct := DAttribute.ct) _ rfl (.tmp 5) (.tmp 7) 102 rfl (w.heap.size + 2) 106 i0 (.agg #[.string ⟨#[]⟩, .int .i64 0, .int .i64 0, .bool false]) 4 40 Tryz.underlying102 hi' hz0 hz1 hz2 rfl ?a1 (.slice (some ⟨w.heap.size + 1 + 1, 0, none⟩) 0 0) 0 [] ?a2 ?a3 m A c ?a4 vAttribute_len vAttribute_ct vAttribute_one ?a5 ?a6 ?a7 ?a8 ?_; (case a1 => decide); (case a2 => rfl); (case a3 => exact HOL.out); (case a4 => rfl); (case a5 => (refine HS.out _ ?_; repeat (first | (with_reducible exact HB.out) | (with_reducible apply Below.drew) | (with_reducible refine below_drewN ?_ _) | (refine Below.alloc ?_ (by simp <;> omega) _)))); (case a6 => (unfold maxLen; omega)); (case a7 => omega); (case a8 => simp); intro v1 w1 hown1 hgrow1; rw [Nat.zero_add, List.nil_append] at hown1; have hst : Below (w.heap.size + 2) ((w.alloc (.cells #[.string s.fName, .slice A m.length c] 116)).alloc (.cells #[.string ⟨#[]⟩, .slice none 0 0] 116)) w1 := Below.trans (by repeat (first | (with_reducible exact Below.refl _ _) | (with_reducible apply Below.drew) | (with_reducible refine below_drewN ?_ _) | (refine Below.alloc ?_ (by simp <;> omega) _))) (grown_below hgrow1 (by simp) (fun k hk => by simp [Value.ownBlock] at hk; omega)); have x0 := (hst.cell (p := ⟨w.heap.size, 0, none⟩) (by show w.heap.size < w.heap.size + 2; omega)).trans HC0.out; have x3 := (hst.cell (p := ⟨w.heap.size, 1, none⟩) (by show w.heap.size < w.heap.size + 2; omega)).trans HC3.out; have x1 := (hst.cell (p := ⟨w.heap.size + 1, 0, none⟩) (by show w.heap.size + 1 < w.heap.size + 2; omega)).trans HC1.out; have x2 := (hst.cell (p := ⟨w.heap.size + 1, 1, none⟩) (by show w.heap.size + 1 < w.heap.size + 2; omega)).trans HC2.out; have z1 := (hst.frozen (p := ⟨w.heap.size + 1, 0, none⟩) (by show w.heap.size + 1 < w.heap.size + 2; omega)).trans HF1.out; have z2 := (hst.frozen (p := ⟨w.heap.size + 1, 1, none⟩) (by show w.heap.size + 1 < w.heap.size + 2; omega)).trans HF2.out; have HG1 := Lib.hid ((hst.block (w.heap.size + 1) (by omega)).trans HG.out); have HB1 := Lib.hid (HB.out.trans (hst.mono (by omega))); obtain ⟨a1, c1, rfl, ho1⟩ := grown_own (by decide) vAttribute_len vAttribute_ct hown1; have HO := Lib.hid ho1; clear hown1 hgrow1 hst ho1))
  all_goals
    go_wp2
    refine bodyPost_ret (v := .agg #[.string s.fName, .slice a1 m.length c1]) (results_cell_row Tryz.results109 _ _ (w.heap.size + 1) 116 #[.string s.fName, .slice a1 m.length c1] (0, 0) _ rfl (by refine Eq.trans (blk_set (cs := #[.string s.fName, .slice none 0 0]) (t := 116) (fr := (0, 0)) ?_) rfl; refine Eq.trans (blk_set (cs := #[.string ⟨#[]⟩, .slice none 0 0]) (t := 116) (fr := (0, 0)) ?_) rfl; exact HG1.out) Tryz.underlying116 rfl rfl) rfl ⟨a1, c1, rfl, ?_, ?_⟩
    · refine Own.sub (F := fun y => w.heap.size + 2 ≤ y ∧ y < w1.heap.size) (HO.out.kept ?_) (fun y hy => ⟨Nat.le_trans (by omega) hy.1, Nat.lt_of_lt_of_le hy.2 (by simp)⟩)
      repeat (first | (with_reducible exact Kept.refl) | (with_reducible apply Kept.drew) | (refine Kept.put ?_ (by intro h; have h1 := h.1; dsimp only at h1; omega)))
    · repeat (first | (with_reducible exact HB1.out) | (with_reducible apply Below.drew) | (with_reducible refine below_drewN ?_ _) | (refine Below.setCell ?_ (by simp <;> omega) _))
end Go.Proofs.YtnmepemmpeboeaaGreat
