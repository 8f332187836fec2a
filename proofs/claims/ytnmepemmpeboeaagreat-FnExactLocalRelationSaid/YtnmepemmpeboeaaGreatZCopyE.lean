/-
  spec.l4Copy: an expression copied, in memory of its own.
-/
import Derived.Test.YtnmepemmpeboeaaGreatZz4
import Derived.Test.YtnmepemmpeboeaaGreatZz3
import Derived.Great.BuildSlice
import Derived.Laws.Rows
import Derived.Deep.WholeRow
namespace Go.Proofs.YtnmepemmpeboeaaGreat
open Go.ChangeShapes Go.WideShapes Go.ChangeAt Go.RowKit Go.Deep

/-- A row of plain cells with one slice of its own behind them. -/
theorem ownR_snoc {w : World} {F : Nat → Prop} {n : Nat} {c : Nat → Ct} {u : Nat → Value} (hl : ∀ j, j < n → c j = .lit (u j)) (h : Own w F (c n) (u n)) : OwnR w F (n + 1) c u :=
  OwnR.append (F1 := fun _ => False) (F2 := F) (OwnR.lits hl) (OwnR.one h) (fun _ h _ => h.elim) (fun _ h => h.elim) (fun _ h => h)
theorem ownR_expr {w : World} {F : Nat → Prop} {x : DExpr} {a : Option Addr} {c : Nat} (h : Own w F (.sl 7 x.fArgs.length (ctE x.fArgs)) (.slice a x.fArgs.length c)) : OwnR w F 7 x.ct (fun j => ([.int .i64 x.fKind, .int .i64 x.fN, .int .i64 x.fPos, .int .i64 x.fType, .string x.fSymbol, .string x.fName, .slice a x.fArgs.length c] : List Value).getD j .nilFunc) :=
  ownR_snoc (n := 6) (fun j hj => match j, hj with | 0, _ => rfl | 1, _ => rfl | 2, _ => rfl | 3, _ => rfl | 4, _ => rfl | 5, _ => rfl) h
def SpecCopy (x : DExpr) : Prop := ∀ ⦃lo hi c6 : Nat⦄ ⦃a6 : Option Addr⦄ (_hsz : x.sz ≤ 1048576) (w : World) (_hhi : hi ≤ w.heap.size) (_hs6 : Sl lo hi w 7 x.fArgs.length (ctE x.fArgs) a6),
  Calls Tryz.prog 58 #[.agg #[.int .i64 x.fKind, .int .i64 x.fN, .int .i64 x.fPos, .int .i64 x.fType, .string x.fSymbol, .string x.fName, .slice a6 x.fArgs.length c6]] w fun e w' => ∃ a c, e = .returned (.agg #[.int .i64 x.fKind, .int .i64 x.fN, .int .i64 x.fPos, .int .i64 x.fType, .string x.fSymbol, .string x.fName, .slice a x.fArgs.length c]) ∧ Own w' (fun y => w.heap.size ≤ y ∧ y < w'.heap.size) (.sl 7 x.fArgs.length (ctE x.fArgs)) (.slice a x.fArgs.length c) ∧ Below w.heap.size w w'

set_option maxHeartbeats 3200000 in
set_option maxRecDepth 100000 in
theorem specCopy_step (x : DExpr) (ih : ∀ a ∈ x.fArgs, SpecCopy a) : SpecCopy x := by
  intro lo hi c6 a6 hsz w hhi hs6
  have hn : x.fArgs.length ≤ 1048576 := by have h := hsz; rw [DExpr.sz_eq] at h; unfold lsz at h; omega
  have HZ := Lib.hid hsz
  have IH := Lib.hid ih
  have HS := Lib.hid hs6
  have HB0 := Lib.hid (((Below.refl w.heap.size w).alloc (Nat.le_refl _) (.cells #[.int .i64 x.fKind, .int .i64 x.fN, .int .i64 x.fPos, .int .i64 x.fType, .string x.fSymbol, .string x.fName, .slice a6 x.fArgs.length c6] 64)).alloc (by simp) (.cells #[.int .i64 0, .int .i64 0, .int .i64 0, .int .i64 0, .string ⟨#[]⟩, .string ⟨#[]⟩, .slice none 0 0] 64))
  have HSZ := Lib.hid (show ((w.alloc (.cells #[.int .i64 x.fKind, .int .i64 x.fN, .int .i64 x.fPos, .int .i64 x.fType, .string x.fSymbol, .string x.fName, .slice a6 x.fArgs.length c6] 64)).alloc (.cells #[.int .i64 0, .int .i64 0, .int .i64 0, .int .i64 0, .string ⟨#[]⟩, .string ⟨#[]⟩, .slice none 0 0] 64)).heap.size = w.heap.size + 2 by simp)
  have HX6 := Lib.hid (show ((w.alloc (.cells #[.int .i64 x.fKind, .int .i64 x.fN, .int .i64 x.fPos, .int .i64 x.fType, .string x.fSymbol, .string x.fName, .slice a6 x.fArgs.length c6] 64)).alloc (.cells #[.int .i64 0, .int .i64 0, .int .i64 0, .int .i64 0, .string ⟨#[]⟩, .string ⟨#[]⟩, .slice none 0 0] 64)).cell? ⟨w.heap.size, 6, none⟩ = some (.slice a6 x.fArgs.length c6) by go_simp)
  have HBX := Lib.hid (show ((w.alloc (.cells #[.int .i64 x.fKind, .int .i64 x.fN, .int .i64 x.fPos, .int .i64 x.fType, .string x.fSymbol, .string x.fName, .slice a6 x.fArgs.length c6] 64)).alloc (.cells #[.int .i64 0, .int .i64 0, .int .i64 0, .int .i64 0, .string ⟨#[]⟩, .string ⟨#[]⟩, .slice none 0 0] 64)).heap[w.heap.size]? = some (.cells #[.int .i64 x.fKind, .int .i64 x.fN, .int .i64 x.fPos, .int .i64 x.fType, .string x.fSymbol, .string x.fName, .slice a6 x.fArgs.length c6] 64) from blk_alloc (by simp) (blk_new rfl))
  have HBZ := Lib.hid (show ((w.alloc (.cells #[.int .i64 x.fKind, .int .i64 x.fN, .int .i64 x.fPos, .int .i64 x.fType, .string x.fSymbol, .string x.fName, .slice a6 x.fArgs.length c6] 64)).alloc (.cells #[.int .i64 0, .int .i64 0, .int .i64 0, .int .i64 0, .string ⟨#[]⟩, .string ⟨#[]⟩, .slice none 0 0] 64)).heap[w.heap.size + 1]? = some (.cells #[.int .i64 0, .int .i64 0, .int .i64 0, .int .i64 0, .string ⟨#[]⟩, .string ⟨#[]⟩, .slice none 0 0] 64) from blk_new (by simp))
  have HO0 := Lib.hid (show (((w.alloc (.cells #[.int .i64 x.fKind, .int .i64 x.fN, .int .i64 x.fPos, .int .i64 x.fType, .string x.fSymbol, .string x.fName, .slice a6 x.fArgs.length c6] 64)).alloc (.cells #[.int .i64 0, .int .i64 0, .int .i64 0, .int .i64 0, .string ⟨#[]⟩, .string ⟨#[]⟩, .slice none 0 0] 64)).alloc (.cells #[] 64)).ownsRow (w.heap.size + 2) 64 7 (.slice (some ⟨w.heap.size + 2, 0, none⟩) 0 0) 0 [] from by have h := World.ownsRow_made (w := ((w.alloc (.cells #[.int .i64 x.fKind, .int .i64 x.fN, .int .i64 x.fPos, .int .i64 x.fType, .string x.fSymbol, .string x.fName, .slice a6 x.fArgs.length c6] 64)).alloc (.cells #[.int .i64 0, .int .i64 0, .int .i64 0, .int .i64 0, .string ⟨#[]⟩, .string ⟨#[]⟩, .slice none 0 0] 64))) (e := 64) (size := 7) #[] 0 (Nat.le_refl _) (Nat.zero_le _) (by simp); rw [HSZ.out] at h; exact h)
  obtain ⟨i0, hi', hz0, hz1, hz2⟩ := info_parts info_Expr
  clear hsz ih hs6
  go_enter Tryz.func58, Tryz.ntmps58
  go_wp2
  go_loopw [3, 4] (fun v i wr => ∃ (k : Nat) (xs : List Value), k ≤ x.fArgs.length ∧ i = .int .i64 (k : Int) ∧ wr.ownsRow (w.heap.size + 2) 64 7 v k xs ∧ Rows (w.heap.size + 2) wr 7 v.ownBlock k (ctE x.fArgs) xs ∧ Below (w.heap.size + 2) ((w.alloc (.cells #[.int .i64 x.fKind, .int .i64 x.fN, .int .i64 x.fPos, .int .i64 x.fType, .string x.fSymbol, .string x.fName, .slice a6 x.fArgs.length c6] 64)).alloc (.cells #[.int .i64 0, .int .i64 0, .int .i64 0, .int .i64 0, .string ⟨#[]⟩, .string ⟨#[]⟩, .slice none 0 0] 64)) wr) (fun _ i _ => x.fArgs.length - (intOf i).toNat)
  case atStart => exact ⟨0, [], Nat.zero_le _, rfl, HO0.out, Rows.zero, (Below.refl _ _).alloc (by simp) _⟩
  case round =>
    obtain ⟨k, xs, hk, rfl, hown, hrows, hbl⟩ := hrel
    have HO := Lib.hid hown
    have HR := Lib.hid hrows
    have HBL := Lib.hid hbl
    have hszr : w.heap.size + 2 ≤ wr.heap.size := by have h := hbl.size; rw [HSZ.out] at h; exact h
    have p6 : wr.cell? ⟨w.heap.size, 6, none⟩ = some (.slice a6 x.fArgs.length c6) := (hbl.cell (p := ⟨w.heap.size, 6, none⟩) (by show w.heap.size < _; omega)).trans HX6.out
    have hbw : Below w.heap.size w wr := HB0.out.trans (hbl.mono (by omega))
    have HBW := Lib.hid hbw
    clear hown hrows hbl
    by_cases hlt : k < x.fArgs.length
    · obtain ⟨rb, ro, rfl, _, hrb, hc⟩ := (HS.out.later (hbw.mono hhi) (Nat.le_refl _)).at k hlt
      have HCT := Lib.hid (ctE_at hlt)
      rw [ctE_at hlt] at hc
      obtain ⟨a9, c9, hc0, hc1, hc2, hc3, hc4, hc5, hc6, hs9⟩ := DExpr.open hc
      have hszk := szle_at (f := DExpr.sz) x.fArgs k hlt
      have hszx := HZ.out
      rw [DExpr.sz_eq] at hszx
      have IK := Lib.hid (IH.out _ (getD_mem hlt))
      have HC := Lib.hid (fun (W : World) (hW : Below wr.heap.size wr W) => IK.out (c6 := c9) (by omega) W (Nat.le_trans hhi (Nat.le_trans HBW.out.size hW.size)) (hs9.later (hW.mono (Nat.le_trans hhi HBW.out.size)) (Nat.le_refl _)))
      clear hbw hc hs9 hszk hszx IK
      generalize x.fArgs.getD k default = y at *
      go_wp2_with fail
      refine (HC.out _ (Below.refl _ _)).mono ?_
      rintro e w1 ⟨a', c', rfl, ho1, hb1⟩
      have HO1 := Lib.hid (ownsRow_below (HO.out) hb1)
      have HB1 := Lib.hid hb1
      have HOW := Lib.hid ho1
      have hszw : w.heap.size + 2 ≤ w1.heap.size := Nat.le_trans hszr hb1.size
      clear hb1 ho1 p6 hc0 hc1 hc2 hc3 hc4 hc5 hc6 HC
      go_wp2_with (at_builtin; refine wpList_append_at rfl (.tmp 13) (.tmp 20) 62 rfl (w.heap.size + 2) 64 i0 (.agg #[.int .i64 0, .int .i64 0, .int .i64 0, .int .i64 0, .string ⟨#[]⟩, .string ⟨#[]⟩, .slice none 0 0]) 7 88 Tryz.underlying62 hi' hz0 hz1 hz2 rfl (by decide) _ _ _ rfl (ownsRow_below HO1.out ((Below.refl _ _).alloc (Nat.le_refl _) _)) ⟨w1.heap.size, 0, none⟩ 1 1 [.int .i64 y.fKind, .int .i64 y.fN, .int .i64 y.fPos, .int .i64 y.fType, .string y.fSymbol, .string y.fName, .slice a' y.fArgs.length c'] rfl rfl news_new (by intro u hu; simp at hu; rcases hu with rfl | rfl | rfl | rfl | rfl | rfl | rfl <;> rfl) (by unfold maxLen; omega) (by omega) (by simp <;> omega) ?_; intro v' w2 hown' hgrow hat)
      have HRA := Lib.hid (ownR_expr (x := y) (HOW.out.kept (Kept.of_below_all ((Below.refl _ _).alloc (Nat.le_refl _) (.cells #[.int .i64 y.fKind, .int .i64 y.fN, .int .i64 y.fPos, .int .i64 y.fType, .string y.fSymbol, .string y.fName, .slice a' y.fArgs.length c'] 64)))))
      rw [← HCT.out] at HRA
      have HRS := Lib.hid (Rows.step HR.out hszr (fun z hz => (HO.out.lt z hz).2) (HB1.out.alloc HB1.out.size (.cells #[.int .i64 y.fKind, .int .i64 y.fN, .int .i64 y.fPos, .int .i64 y.fType, .string y.fSymbol, .string y.fName, .slice a' y.fArgs.length c'] 64)) (HRA.out.sub fun z hz => ⟨hz.1, Nat.lt_of_lt_of_le hz.2 (by simp)⟩) hgrow hat HO.out.1)
      have HOS := Lib.hid hown'
      have HBS := Lib.hid (((HBL.out.trans (HB1.out.mono hszr)).alloc hszw _).grown hgrow (by simp <;> omega) (fun z hz => (HO.out.lt z hz).1))
      clear hgrow hown' hat HRA
      go_wp2
      go_roundw
      case rel => exact ⟨k + 1, _, by omega, by go_num, HOS.out, HRS.out, HBS.out⟩
      case measure => simp [intOf]; omega
    · obtain rfl : k = x.fArgs.length := by omega
      obtain ⟨a', c', rfl, ho⟩ := Rows.own HR.out HO.out
      have HOW := Lib.hid ho
      have hg1 : wr.heap[w.heap.size]? = some (.cells #[.int .i64 x.fKind, .int .i64 x.fN, .int .i64 x.fPos, .int .i64 x.fType, .string x.fSymbol, .string x.fName, .slice a6 x.fArgs.length c6] 64) := (HBL.out.block _ (by omega)).trans HBX.out
      have hg2 : wr.heap[w.heap.size + 1]? = some (.cells #[.int .i64 0, .int .i64 0, .int .i64 0, .int .i64 0, .string ⟨#[]⟩, .string ⟨#[]⟩, .slice none 0 0] 64) := (HBL.out.block _ (by omega)).trans HBZ.out
      have hf6 : wr.frozen? ⟨w.heap.size, 6, none⟩ = false := pblk_frozen hg1
      have HG1 := Lib.hid (show (wr.setCell ⟨w.heap.size, 6, none⟩ (.slice a' x.fArgs.length c')).heap[w.heap.size]? = some (.cells #[.int .i64 x.fKind, .int .i64 x.fN, .int .i64 x.fPos, .int .i64 x.fType, .string x.fSymbol, .string x.fName, .slice a' x.fArgs.length c'] 64) from pblk_put hg1 rfl)
      have HG2 := Lib.hid (show (wr.setCell ⟨w.heap.size, 6, none⟩ (.slice a' x.fArgs.length c')).heap[w.heap.size + 1]? = some (.cells #[.int .i64 0, .int .i64 0, .int .i64 0, .int .i64 0, .string ⟨#[]⟩, .string ⟨#[]⟩, .slice none 0 0] 64) from blk_other (by simp) hg2)
      clear hg1 hg2 hbw ho
      go_wp2_with (first
        | (refine wpList_load_row rfl 64 (.tmp 1) rfl w.heap.size rfl 64 _ _ _ HG1.out Tryz.underlying64 rfl (by kernel_rfl) ?_)
        | (refine wpList_store_rowTo rfl 64 (.tmp 2) (.tmp 24) rfl rfl (w.heap.size + 1) _ rfl rfl 64 _ HG2.out (by kernel_rfl) rfl (by simp [Value.oneCell']) ?_))
      refine bodyPost_ret (v := .agg #[.int .i64 x.fKind, .int .i64 x.fN, .int .i64 x.fPos, .int .i64 x.fType, .string x.fSymbol, .string x.fName, .slice a' x.fArgs.length c']) (results_cell_row rfl _ _ (w.heap.size + 1) 64 #[.int .i64 x.fKind, .int .i64 x.fN, .int .i64 x.fPos, .int .i64 x.fType, .string x.fSymbol, .string x.fName, .slice a' x.fArgs.length c'] (0, 0) _ rfl (setRow_heap _ _ _ _ _ _ HG2.out) Tryz.underlying64 rfl (by kernel_rfl)) rfl ?_
      refine ⟨a', c', rfl, ?_, ?_⟩
      · have hk : Kept (fun z => w.heap.size + 2 ≤ z) wr ((wr.setCell ⟨w.heap.size, 6, none⟩ (.slice a' x.fArgs.length c')).setRow (w.heap.size + 1) #[.int .i64 x.fKind, .int .i64 x.fN, .int .i64 x.fPos, .int .i64 x.fType, .string x.fSymbol, .string x.fName, .slice a' x.fArgs.length c']) := kept_setRow (Kept.setCell (by show ¬ w.heap.size + 2 ≤ w.heap.size; omega)) (by omega)
        exact (HOW.out.kept (hk.sub fun z hz => hz.1)).sub fun z hz => ⟨by omega, Nat.lt_of_lt_of_le hz.2 hk.1⟩
      · exact pile_setRow (HBW.out.setCell (p := ⟨w.heap.size, 6, none⟩) (Nat.le_refl _) _) (by omega) _
end Go.Proofs.YtnmepemmpeboeaaGreat
