/-
  The program's copy of a symbol.
-/
import Derived.Test.YtmlflpoeaahipaaCloneAttribute
import Derived.Test.YtmlflpoeaahipaaTSymbol
import Derived.Deep.RegionWith
namespace Go.Proofs.Ytmlflpoeaahipaa
open Go.ChangeShapes Go.WideShapes Go.ChangeAt Go.RowKit Go.Deep

set_option maxHeartbeats 6400000 in
set_option maxRecDepth 100000 in
theorem impl_copySymbol {lo hi c : Nat} {A : Option Addr} (s : DSymbol) (hl : s.fAttributes.length ≤ 1048576) (w : World) (hhi : hi ≤ w.heap.size) (hs : Sl lo hi w 4 s.fAttributes.length (fun k => DAttribute.ct (s.fAttributes.getD k default)) A) :
    Calls Try.prog 19 #[.agg #[.string s.fName, .slice A s.fAttributes.length c]] w fun e w' => ∃ a c', e = .returned (.agg #[.string s.fName, .slice a s.fAttributes.length c']) ∧ Own w' (fun y => w.heap.size ≤ y ∧ y < w'.heap.size) (.sl 4 s.fAttributes.length (fun k => DAttribute.ct (s.fAttributes.getD k default))) (.slice a s.fAttributes.length c') ∧ Below w.heap.size w w' := by
  have HB := Lib.hid (((Below.refl w.heap.size w).alloc (Nat.le_refl _) (.cells #[.string s.fName, .slice A s.fAttributes.length c] 29)).alloc (by simp) (.cells #[.string ⟨#[]⟩, .slice none 0 0] 29))
  have HG := Lib.hid (show ((w.alloc (.cells #[.string s.fName, .slice A s.fAttributes.length c] 29)).alloc (.cells #[.string ⟨#[]⟩, .slice none 0 0] 29)).heap[w.heap.size + 1]? = some (.cells #[.string ⟨#[]⟩, .slice none 0 0] 29) from blk_new (by simp))
  have HC0 := Lib.hid (show ((w.alloc (.cells #[.string s.fName, .slice A s.fAttributes.length c] 29)).alloc (.cells #[.string ⟨#[]⟩, .slice none 0 0] 29)).cell? ⟨w.heap.size, 0, none⟩ = some (.string s.fName) by go_simp)
  have HC3 := Lib.hid (show ((w.alloc (.cells #[.string s.fName, .slice A s.fAttributes.length c] 29)).alloc (.cells #[.string ⟨#[]⟩, .slice none 0 0] 29)).cell? ⟨w.heap.size, 1, none⟩ = some (.slice A s.fAttributes.length c) by go_simp)
  have HC1 := Lib.hid (show ((w.alloc (.cells #[.string s.fName, .slice A s.fAttributes.length c] 29)).alloc (.cells #[.string ⟨#[]⟩, .slice none 0 0] 29)).cell? ⟨w.heap.size + 1, 0, none⟩ = some (.string ⟨#[]⟩) by go_simp)
  have HC2 := Lib.hid (show ((w.alloc (.cells #[.string s.fName, .slice A s.fAttributes.length c] 29)).alloc (.cells #[.string ⟨#[]⟩, .slice none 0 0] 29)).cell? ⟨w.heap.size + 1, 1, none⟩ = some (.slice none 0 0) by go_simp)
  have HF1 := Lib.hid (show ((w.alloc (.cells #[.string s.fName, .slice A s.fAttributes.length c] 29)).alloc (.cells #[.string ⟨#[]⟩, .slice none 0 0] 29)).frozen? ⟨w.heap.size + 1, 0, none⟩ = false by go_simp)
  have HF2 := Lib.hid (show ((w.alloc (.cells #[.string s.fName, .slice A s.fAttributes.length c] 29)).alloc (.cells #[.string ⟨#[]⟩, .slice none 0 0] 29)).frozen? ⟨w.heap.size + 1, 1, none⟩ = false by go_simp)
  have HCL := Lib.hid (fun (W : World) (hW : Below w.heap.size w W) => clone_Attribute (c := c) s.fAttributes (by omega) W (Nat.le_trans hhi hW.size) (hs.later hW hhi))
  clear hs
  generalize s.fAttributes = m at *
  go_enter Try.func19, Try.ntmps19
  go_wp2_with fail
  go_region_with ((go_at_call 31; refine (HCL.out _ (by repeat (first | (with_reducible exact HB.out) | (with_reducible apply Below.drew) | (with_reducible refine below_drewN ?_ _) | (refine Below.alloc ?_ (by simp <;> omega) _)))).mono ?_; rintro e w1 ⟨a1, c1, rfl, ho1, hb1⟩; have hst : Below (w.heap.size + 2) ((w.alloc (.cells #[.string s.fName, .slice A m.length c] 29)).alloc (.cells #[.string ⟨#[]⟩, .slice none 0 0] 29)) w1 := Below.trans (by repeat (first | (with_reducible exact Below.refl _ _) | (with_reducible apply Below.drew) | (with_reducible refine below_drewN ?_ _) | (refine Below.alloc ?_ (by simp <;> omega) _))) (hb1.mono (by simp)); have x0 := (hst.cell (p := ⟨w.heap.size, 0, none⟩) (by show w.heap.size < w.heap.size + 2; omega)).trans HC0.out; have x3 := (hst.cell (p := ⟨w.heap.size, 1, none⟩) (by show w.heap.size < w.heap.size + 2; omega)).trans HC3.out; have x1 := (hst.cell (p := ⟨w.heap.size + 1, 0, none⟩) (by show w.heap.size + 1 < w.heap.size + 2; omega)).trans HC1.out; have x2 := (hst.cell (p := ⟨w.heap.size + 1, 1, none⟩) (by show w.heap.size + 1 < w.heap.size + 2; omega)).trans HC2.out; have z1 := (hst.frozen (p := ⟨w.heap.size + 1, 0, none⟩) (by show w.heap.size + 1 < w.heap.size + 2; omega)).trans HF1.out; have z2 := (hst.frozen (p := ⟨w.heap.size + 1, 1, none⟩) (by show w.heap.size + 1 < w.heap.size + 2; omega)).trans HF2.out; have HG1 := Lib.hid ((hst.block (w.heap.size + 1) (by omega)).trans HG.out); have HB1 := Lib.hid (HB.out.trans (hst.mono (by omega))); have HO := Lib.hid (show Own w1 (fun y => w.heap.size + 2 ≤ y ∧ y < w1.heap.size) _ _ from Own.sub ho1 (fun y hy => ⟨by have h1 := hy.1; simp at h1; omega, hy.2⟩)); clear hst ho1 hb1))
  all_goals
    go_wp2
    refine bodyPost_ret (v := .agg #[.string s.fName, .slice a1 m.length c1]) (results_cell_row Try.results19 _ _ (w.heap.size + 1) 29 #[.string s.fName, .slice a1 m.length c1] (0, 0) _ rfl (by refine Eq.trans (blk_set (cs := #[.string s.fName, .slice none 0 0]) (t := 29) (fr := (0, 0)) ?_) rfl; refine Eq.trans (blk_set (cs := #[.string ⟨#[]⟩, .slice none 0 0]) (t := 29) (fr := (0, 0)) ?_) rfl; exact HG1.out) Try.underlying29 rfl rfl) rfl ⟨a1, c1, rfl, ?_, ?_⟩
    · refine Own.sub (F := fun y => w.heap.size + 2 ≤ y ∧ y < w1.heap.size) (HO.out.kept ?_) (fun y hy => ⟨Nat.le_trans (by omega) hy.1, Nat.lt_of_lt_of_le hy.2 (by simp)⟩)
      repeat (first | (with_reducible exact Kept.refl) | (with_reducible apply Kept.drew) | (refine Kept.put ?_ (by intro h; have h1 := h.1; dsimp only at h1; omega)))
    · repeat (first | (with_reducible exact HB1.out) | (with_reducible apply Below.drew) | (with_reducible refine below_drewN ?_ _) | (refine Below.setCell ?_ (by simp <;> omega) _))
end Go.Proofs.Ytmlflpoeaahipaa
