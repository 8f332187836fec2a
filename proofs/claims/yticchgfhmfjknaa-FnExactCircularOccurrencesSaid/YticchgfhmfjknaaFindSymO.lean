/-
  FindSymbol, in the model and in the program, the answer in memory of its own.
-/
import Derived.Test.YticchgfhmfjknaaSymNamed
import Derived.Test.YticchgfhmfjknaaL10
import Derived.Test.YticchgfhmfjknaaCopySym
namespace Go.Proofs.Yticchgfhmfjknaa
open Go.ChangeShapes Go.WideShapes Go.ChangeAt Go.RowKit Go.Deep

set_option maxHeartbeats 6400000 in
set_option maxRecDepth 100000 in
theorem spec_FindSymbolO {lo hi n1 c0 c1 : Nat} {a0 a1 : Option Addr} (l : List DSymbol) (hz : lsz DSymbol.sz l ≤ 1048576) (nm : ByteArray) (w : World) (hhi : hi ≤ w.heap.size) (hs : Sl lo hi w 2 l.length (fun k => DSymbol.ct (l.getD k default)) a0) :
    Calls Try.prog 23 #[.agg #[.slice a0 l.length c0, .slice a1 n1 c1], .string nm] w fun e w' => SymOwn w.heap.size (symS l nm) (symB l nm) w' e ∧ Below w.heap.size w w' := by
  have hn : l.length ≤ 1048576 := by unfold lsz at hz; omega
  have HB := Lib.hid (((Below.refl w.heap.size w).alloc (Nat.le_refl _) (.cells #[.slice a0 l.length c0, .slice a1 n1 c1] 38)).alloc (by simp <;> omega) (.cells #[.string ⟨#[]⟩, .slice none 0 0] 59))
  have HSZ := Lib.hid (show ((w.alloc (.cells #[.slice a0 l.length c0, .slice a1 n1 c1] 38)).alloc (.cells #[.string ⟨#[]⟩, .slice none 0 0] 59)).heap.size = w.heap.size + 2 by simp)
  have HE := Lib.hid (show Below (w.heap.size + 2) ((w.alloc (.cells #[.slice a0 l.length c0, .slice a1 n1 c1] 38)).alloc (.cells #[.string ⟨#[]⟩, .slice none 0 0] 59)) ((w.alloc (.cells #[.slice a0 l.length c0, .slice a1 n1 c1] 38)).alloc (.cells #[.string ⟨#[]⟩, .slice none 0 0] 59)) from Below.refl _ _)
  have HX := Lib.hid (show ((w.alloc (.cells #[.slice a0 l.length c0, .slice a1 n1 c1] 38)).alloc (.cells #[.string ⟨#[]⟩, .slice none 0 0] 59)).cell? ⟨w.heap.size, 0, none⟩ = some (.slice a0 l.length c0) by go_simp)
  have HG := Lib.hid (show ((w.alloc (.cells #[.slice a0 l.length c0, .slice a1 n1 c1] 38)).alloc (.cells #[.string ⟨#[]⟩, .slice none 0 0] 59)).heap[w.heap.size + 1]? = some (.cells #[.string ⟨#[]⟩, .slice none 0 0] 59) from blk_new (by simp))
  have HS := Lib.hid (hs.later HB.out hhi)
  have HHI := Lib.hid hhi
  have HZ := Lib.hid hz
  clear hs hhi hz
  go_enter Try.func23, Try.ntmps23
  go_wp2
  go_loopw [6] (fun i wr => ∃ k : Nat, k ≤ l.length ∧ i = .int .i64 (k : Int) ∧ noneBelow (PSym nm) l k ∧ Below (w.heap.size + 2) ((w.alloc (.cells #[.slice a0 l.length c0, .slice a1 n1 c1] 38)).alloc (.cells #[.string ⟨#[]⟩, .slice none 0 0] 59)) wr) (fun i _ => l.length - (intOf i).toNat)
  case atStart => exact ⟨0, Nat.zero_le _, rfl, noneBelow_zero _ _, HE.out⟩
  case round =>
    obtain ⟨k, hk, rfl, hno, hbl⟩ := hrel
    have hx0 : wr.cell? ⟨w.heap.size, 0, none⟩ = some (.slice a0 l.length c0) := (hbl.cell (p := ⟨w.heap.size, 0, none⟩) (show w.heap.size < w.heap.size + 2 by omega)).trans HX.out
    have HN := Lib.hid hno
    have HBL := Lib.hid hbl
    have hsz1 : w.heap.size + 2 ≤ wr.heap.size := by have := hbl.size; rw [HSZ.out] at this; exact this
    have hw1 : w.heap.size + 1 < wr.heap.size := by omega
    have HGR := Lib.hid ((hbl.block (w.heap.size + 1) (by omega)).trans HG.out)
    have y0 : wr.cell? ⟨w.heap.size + 1, 0, none⟩ = some (.string ⟨#[]⟩) := (cell_of_row _ _ _ _ _ _ HGR.out).trans rfl
    have y1 : wr.cell? ⟨w.heap.size + 1, 1, none⟩ = some (.slice none 0 0) := (cell_of_row _ _ _ _ _ _ HGR.out).trans rfl
    have f0 : wr.frozen? ⟨w.heap.size + 1, 0, none⟩ = false := frozen_of_row _ _ _ _ _ HGR.out
    have f1 : wr.frozen? ⟨w.heap.size + 1, 1, none⟩ = false := frozen_of_row _ _ _ _ _ HGR.out
    clear hno hbl
    by_cases hlt : k < l.length
    · obtain ⟨b, off, rfl, _, hbh, hc⟩ := (HS.out.later (HBL.out.mono (Nat.le_trans HHI.out (by omega))) (Nat.le_refl _)).at k hlt
      obtain ⟨a1s, c1s, hc0, hc1, hs1⟩ := DSymbol.open hc
      have hbw : b < wr.heap.size := Nat.lt_of_lt_of_le hbh (Nat.le_trans HHI.out (by omega))
      clear hc
      by_cases he : (l.getD k default).fName = nm
      · have hix := idxI_at (p := PSym nm) hlt (PSym_yes he) HN.out
        have fin := Lib.hid (show ∀ (w' : World) e, SymOwn w.heap.size (symS l nm) (symB l nm) w' e = SymOwn w.heap.size (l.getD k default) true w' e from fun w' e => by rw [symS_at hix, symB_at hix])
        have hnm := Lib.hid he
        have hal := sym_attrs HZ.out hlt
        have HC := Lib.hid (fun (W : World) (hW : Below wr.heap.size wr W) => spec_l10Symbol (c := c1s) (l.getD k default) hal W (Nat.le_trans (Nat.le_trans HHI.out (by omega)) hW.size) (hs1.later hW (Nat.le_trans HHI.out (by omega))))
        rw [he] at hc0 HC
        clear he hix hs1 hal
        generalize hx : l.getD k default = x at *
        clear hx
        go_wp2_with fail
        refine (HC.out _ (Below.refl _ _)).mono ?_
        rintro e w1 ⟨a9, c9, rfl, ho9, hb9⟩
        have HGR1 := Lib.hid ((hb9.block (w.heap.size + 1) hw1).trans HGR.out)
        have v0 : w1.cell? ⟨w.heap.size + 1, 0, none⟩ = some (.string ⟨#[]⟩) := (cell_of_row _ _ _ _ _ _ HGR1.out).trans rfl
        have v1 : w1.cell? ⟨w.heap.size + 1, 1, none⟩ = some (.slice none 0 0) := (cell_of_row _ _ _ _ _ _ HGR1.out).trans rfl
        have g0 : w1.frozen? ⟨w.heap.size + 1, 0, none⟩ = false := frozen_of_row _ _ _ _ _ HGR1.out
        have g1 : w1.frozen? ⟨w.heap.size + 1, 1, none⟩ = false := frozen_of_row _ _ _ _ _ HGR1.out
        have HO9 := Lib.hid ho9
        have HBW := Lib.hid (HB.out.trans ((HBL.out.trans (hb9.mono hsz1)).mono (show w.heap.size ≤ w.heap.size + 2 by omega)))
        clear hb9 ho9 y0 y1 f0 f1 hx0
        go_wp2
        refine bodyPost_ret (v := .tuple #[.agg #[.string nm, .slice a9 x.fAttributes.length c9], .bool true]) (results_cell_tmp Try.results23 _ _ (w.heap.size + 1) 59 #[.string nm, .slice a9 x.fAttributes.length c9] (0, 0) _ rfl (by refine Eq.trans (blk_set (cs := #[.string nm, .slice none 0 0]) (t := 59) (fr := (0, 0)) ?_) rfl; refine Eq.trans (blk_set (cs := #[.string ⟨#[]⟩, .slice none 0 0]) (t := 59) (fr := (0, 0)) ?_) rfl; exact HGR1.out) Try.underlying59 rfl (by kernel_rfl)) rfl ⟨?_, ?_⟩
        · rw [fin.out]
          refine ⟨a9, c9, by rw [hnm.out], ?_⟩
          refine Own.sub (F := fun y => wr.heap.size ≤ y ∧ y < w1.heap.size) (HO9.out.kept ?_) (fun y hy => ⟨Nat.le_trans (by omega) hy.1, Nat.lt_of_lt_of_le hy.2 (by simp [World.setCell])⟩)
          refine Kept.put (Kept.put Kept.refl ?_) ?_
          · intro h; have h1 := h.1; dsimp only at h1; omega
          · intro h; have h1 := h.1; dsimp only at h1; omega
        · skip
          repeat (first | (with_reducible exact HBW.out) | (with_reducible apply Below.drew) | (with_reducible refine below_drewN ?_ _) | (with_reducible refine Below.alloc ?_ ?_ _) | (with_reducible refine Below.setCell ?_ ?_ _))
          all_goals (first | omega | (simp <;> omega))
      · have HN2 := Lib.hid (noneBelow_succ HN.out (k := k) (PSym_no he))
        have e2 : ((l.getD k default).fName.toList == nm.toList) = false := PSym_no he
        clear he hs1 hc1
        generalize (l.getD k default).fName = q at *
        go_wp2
        go_roundw
        case rel => exact ⟨k + 1, by omega, by go_num, HN2.out, HBL.out⟩
        case measure => simp [intOf]; omega
    · obtain rfl : k = l.length := by omega
      have hix := idxI_none (p := PSym nm) HN.out
      have fin := Lib.hid (show ∀ (w' : World) e, SymOwn w.heap.size (symS l nm) (symB l nm) w' e = SymOwn w.heap.size noSym false w' e from fun w' e => by rw [symS_none hix, symB_none hix])
      clear hix
      go_wp2
      refine bodyPost_ret (v := .tuple #[.agg #[.string ⟨#[]⟩, .slice none 0 0], .bool false]) (results_cell_tmp Try.results23 _ _ (w.heap.size + 1) 59 #[.string ⟨#[]⟩, .slice none 0 0] (0, 0) _ rfl (by refine Eq.trans (blk_set (cs := #[.string ⟨#[]⟩, .slice none 0 0]) (t := 59) (fr := (0, 0)) ?_) rfl; refine Eq.trans (blk_set (cs := #[.string ⟨#[]⟩, .slice none 0 0]) (t := 59) (fr := (0, 0)) ?_) rfl; exact HGR.out) Try.underlying59 rfl (by kernel_rfl)) rfl ⟨?_, ?_⟩
      · rw [fin.out]
        exact ⟨none, 0, rfl, .nil _ _ _ _ _⟩
      · have HBW := Lib.hid (HB.out.trans (HBL.out.mono (show w.heap.size ≤ w.heap.size + 2 by omega)))
        repeat (first | (with_reducible exact HBW.out) | (with_reducible apply Below.drew) | (with_reducible refine below_drewN ?_ _) | (with_reducible refine Below.alloc ?_ ?_ _) | (with_reducible refine Below.setCell ?_ ?_ _))
        all_goals (first | omega | (simp <;> omega))

theorem sym_sz {g : DGrammar} (h : g.sz ≤ 1048576) (nm : ByteArray) : DSymbol.sz (symS g.fSymbols nm) ≤ 1048576 := by
  have hz : lsz DSymbol.sz g.fSymbols ≤ 1048576 := by unfold DGrammar.sz at h; omega
  by_cases h0 : 0 ≤ idxI (PSym nm) g.fSymbols
  · obtain ⟨k, hk⟩ : ∃ k : Nat, idxI (PSym nm) g.fSymbols = k := ⟨(idxI (PSym nm) g.fSymbols).toNat, by omega⟩
    rw [symS_at hk]
    by_cases hl : k < g.fSymbols.length
    · have := szle_at (f := DSymbol.sz) g.fSymbols k hl
      omega
    · rw [List.getD_eq_getElem?_getD, List.getElem?_eq_none (by omega)]
      exact Nat.zero_le _
  · unfold symS
    rw [if_neg h0]
    exact Nat.zero_le _
theorem symG_len {g : DGrammar} (h : g.sz ≤ 1048576) (nm : ByteArray) : (symS g.fSymbols nm).fAttributes.length ≤ 1048576 := sym_len (by unfold DGrammar.sz at h; omega) nm

theorem spec_FindSymbol {lo hi : Nat} {a0 a1 : Option Addr} {c0_0 c0_1 : Nat} (g : DGrammar) (_ : g.ok) (hsz : g.sz ≤ 1048576) (nm : ByteArray) (_ : okS nm) (_ : nm.size ≤ 1048576) (w : World) (hhi : hi ≤ w.heap.size) (hs : Sl lo hi w 2 g.fSymbols.length (fun k => DSymbol.ct (g.fSymbols.getD k default)) a0) (_ : Sl lo hi w 6 g.fRules.length (fun k => DRule.ct (g.fRules.getD k default)) a1) :
    Calls Try.prog 23 #[.agg #[.slice a0 g.fSymbols.length c0_0, .slice a1 g.fRules.length c0_1], .string nm] w fun e w' => ∃ a c, e = .returned (.tuple #[.agg #[.string (symS g.fSymbols nm).fName, .slice a (symS g.fSymbols nm).fAttributes.length c], .bool (symB g.fSymbols nm)]) ∧ Own w' (fun y => w.heap.size ≤ y ∧ y < w'.heap.size) (.sl 4 (symS g.fSymbols nm).fAttributes.length (fun k => DAttribute.ct ((symS g.fSymbols nm).fAttributes.getD k default))) (.slice a (symS g.fSymbols nm).fAttributes.length c) ∧ Below w.heap.size w w' :=
  (spec_FindSymbolO g.fSymbols (by unfold DGrammar.sz at hsz; omega) nm w hhi hs).mono fun _ _ ⟨⟨a, c, h1, h2⟩, h3⟩ => ⟨a, c, h1, h2, h3⟩
end Go.Proofs.Yticchgfhmfjknaa
