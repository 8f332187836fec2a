/-
  The symbol of a name: symbolNamed of the program, FindSymbol of the model.
  FindSymbol, in the model and in the program, the answer in memory of its own.
-/
import Derived.Test.YtnmepemmpeboeaaGreatZz7
import Derived.Test.YtnmepemmpeboeaaGreatZz2
import Derived.Test.YtnmepemmpeboeaaGreatZCloneAttribute
import Derived.Deep.RegionLaw
import Derived.Deep.AppendLies
import Derived.Lib.Strings
import Derived.Test.YtnmepemmpeboeaaGreatZL10
import Derived.Deep.RegionWith
namespace Go.Proofs.YtnmepemmpeboeaaGreat
open Go.ChangeShapes Go.WideShapes Go.ChangeAt Go.RowKit Go.Deep

theorem toList_inj9 {x y : ByteArray} (h : x.toList = y.toList) : x = y := by
  rw [Lib.toList_data, Lib.toList_data] at h
  cases x; cases y
  simp only at h
  rw [ByteArray.mk.injEq]
  exact Array.toList_inj.1 h
def PSym (nm : ByteArray) (y : DSymbol) : Bool := y.fName.toList == nm.toList
theorem PSym_yes {nm : ByteArray} {y : DSymbol} (h : y.fName = nm) : PSym nm y = true := by unfold PSym; rw [h]; simp
theorem PSym_no {nm : ByteArray} {y : DSymbol} (h : y.fName ≠ nm) : PSym nm y = false := beq_eq_false_iff_ne.2 (fun e => h (toList_inj9 e))
def noSym : DSymbol := ⟨⟨#[]⟩, []⟩
/-- The first symbol of the name. -/
def symS (l : List DSymbol) (nm : ByteArray) : DSymbol := if 0 ≤ idxI (PSym nm) l then l.getD (idxI (PSym nm) l).toNat default else noSym
def symB (l : List DSymbol) (nm : ByteArray) : Bool := decide (0 ≤ idxI (PSym nm) l)
theorem symS_at {l : List DSymbol} {nm : ByteArray} {k : Nat} (h : idxI (PSym nm) l = k) : symS l nm = l.getD k default := by unfold symS; rw [h, if_pos (by omega), Int.toNat_natCast]
theorem symB_at {l : List DSymbol} {nm : ByteArray} {k : Nat} (h : idxI (PSym nm) l = k) : symB l nm = true := by unfold symB; rw [h]; exact decide_eq_true (by omega)
theorem symS_none {l : List DSymbol} {nm : ByteArray} (h : idxI (PSym nm) l = -1) : symS l nm = noSym := by unfold symS; rw [h, if_neg (by omega)]
theorem symB_none {l : List DSymbol} {nm : ByteArray} (h : idxI (PSym nm) l = -1) : symB l nm = false := by unfold symB; rw [h]; exact decide_eq_false (by omega)
theorem sym_attrs {l : List DSymbol} (h : lsz DSymbol.sz l ≤ 1048576) {k : Nat} (hk : k < l.length) : (l.getD k default).fAttributes.length ≤ 1048576 := by
  have h1 := szle_at (f := DSymbol.sz) l k hk
  have h2 : (l.getD k default).fAttributes.length ≤ DSymbol.sz (l.getD k default) := by
    unfold DSymbol.sz lsz
    omega
  omega
theorem sym_len {l : List DSymbol} (h : lsz DSymbol.sz l ≤ 1048576) (nm : ByteArray) : (symS l nm).fAttributes.length ≤ 1048576 := by
  by_cases h0 : 0 ≤ idxI (PSym nm) l
  · obtain ⟨k, hk⟩ : ∃ k : Nat, idxI (PSym nm) l = k := ⟨(idxI (PSym nm) l).toNat, by omega⟩
    rw [symS_at hk]
    by_cases hl : k < l.length
    · exact sym_attrs h hl
    · rw [List.getD_eq_getElem?_getD, List.getElem?_eq_none (by omega)]
      exact Nat.zero_le _
  · unfold symS
    rw [if_neg h0]
    exact Nat.zero_le _
/-- A symbol s that a call hands out, its attributes in blocks of its own from B on. -/
def SymOwn (B : Nat) (s : DSymbol) (b : Bool) (w' : World) (e : Ending) : Prop :=
  ∃ a c, e = .returned (.tuple #[.agg #[.string s.fName, .slice a s.fAttributes.length c], .bool b]) ∧ Own w' (fun y => B ≤ y ∧ y < w'.heap.size) (.sl 4 s.fAttributes.length (fun k => DAttribute.ct (s.fAttributes.getD k default))) (.slice a s.fAttributes.length c)
/-- A symbol s that a call hands out, with its attributes in the blocks up to hi. -/
def SymOut (lo hi : Nat) (s : DSymbol) (b : Bool) (w' : World) (e : Ending) : Prop :=
  ∃ a c, e = .returned (.tuple #[.agg #[.string s.fName, .slice a s.fAttributes.length c], .bool b]) ∧ Sl lo hi w' 4 s.fAttributes.length (fun k => DAttribute.ct (s.fAttributes.getD k default)) a

set_option maxHeartbeats 6400000 in
set_option maxRecDepth 100000 in
theorem impl_symbolNamed {lo hi n1 c0 c1 : Nat} {a0 a1 : Option Addr} (l : List DSymbol) (hz : lsz DSymbol.sz l ≤ 1048576) (nm : ByteArray) (w : World) (hhi : hi ≤ w.heap.size) (hs : Sl lo hi w 2 l.length (fun k => DSymbol.ct (l.getD k default)) a0) :
    Calls Tryz.prog 91 #[.agg #[.slice a0 l.length c0, .slice a1 n1 c1], .string nm] w fun e w' => SymOut lo hi (symS l nm) (symB l nm) w' e ∧ Below w.heap.size w w' := by
  have hn : l.length ≤ 1048576 := by unfold lsz at hz; omega
  have HB := Lib.hid (((Below.refl w.heap.size w).alloc (Nat.le_refl _) (.cells #[.slice a0 l.length c0, .slice a1 n1 c1] 40)).alloc (by simp <;> omega) (.cells #[.string ⟨#[]⟩, .slice none 0 0] 116))
  have HSZ := Lib.hid (show ((w.alloc (.cells #[.slice a0 l.length c0, .slice a1 n1 c1] 40)).alloc (.cells #[.string ⟨#[]⟩, .slice none 0 0] 116)).heap.size = w.heap.size + 2 by simp)
  have HE := Lib.hid (show Below (w.heap.size + 2) ((w.alloc (.cells #[.slice a0 l.length c0, .slice a1 n1 c1] 40)).alloc (.cells #[.string ⟨#[]⟩, .slice none 0 0] 116)) ((w.alloc (.cells #[.slice a0 l.length c0, .slice a1 n1 c1] 40)).alloc (.cells #[.string ⟨#[]⟩, .slice none 0 0] 116)) from Below.refl _ _)
  have HX := Lib.hid (show ((w.alloc (.cells #[.slice a0 l.length c0, .slice a1 n1 c1] 40)).alloc (.cells #[.string ⟨#[]⟩, .slice none 0 0] 116)).cell? ⟨w.heap.size, 0, none⟩ = some (.slice a0 l.length c0) by go_simp)
  have HG := Lib.hid (show ((w.alloc (.cells #[.slice a0 l.length c0, .slice a1 n1 c1] 40)).alloc (.cells #[.string ⟨#[]⟩, .slice none 0 0] 116)).heap[w.heap.size + 1]? = some (.cells #[.string ⟨#[]⟩, .slice none 0 0] 116) from blk_new (by simp))
  have HS := Lib.hid (hs.later HB.out hhi)
  have HHI := Lib.hid hhi
  have HZ := Lib.hid hz
  clear hs hhi hz
  go_enter Tryz.func91, Tryz.ntmps91
  go_wp2
  go_loopw [11] (fun i wr => ∃ k : Nat, k ≤ l.length ∧ i = .int .i64 (k : Int) ∧ noneBelow (PSym nm) l k ∧ Below (w.heap.size + 2) ((w.alloc (.cells #[.slice a0 l.length c0, .slice a1 n1 c1] 40)).alloc (.cells #[.string ⟨#[]⟩, .slice none 0 0] 116)) wr) (fun i _ => l.length - (intOf i).toNat)
  case atStart => exact ⟨0, Nat.zero_le _, rfl, noneBelow_zero _ _, HE.out⟩
  case round =>
    obtain ⟨k, hk, rfl, hno, hbl⟩ := hrel
    have HN := Lib.hid hno
    have HBL := Lib.hid hbl
    have hsz1 : w.heap.size + 2 ≤ wr.heap.size := by have := hbl.size; rw [HSZ.out] at this; exact this
    have hw1 : w.heap.size + 1 < wr.heap.size := by omega
    have HGR := Lib.hid ((hbl.block (w.heap.size + 1) (by omega)).trans HG.out)
    have y0 : wr.cell? ⟨w.heap.size + 1, 0, none⟩ = some (.string ⟨#[]⟩) := (cell_of_row _ _ _ _ _ _ HGR.out).trans rfl
    have y1 : wr.cell? ⟨w.heap.size + 1, 1, none⟩ = some (.slice none 0 0) := (cell_of_row _ _ _ _ _ _ HGR.out).trans rfl
    have f0 : wr.frozen? ⟨w.heap.size + 1, 0, none⟩ = false := frozen_of_row _ _ _ _ _ HGR.out
    have f1 : wr.frozen? ⟨w.heap.size + 1, 1, none⟩ = false := frozen_of_row _ _ _ _ _ HGR.out
    clear hno hbl
    by_cases hlt : k < l.length
    · obtain ⟨b, off, rfl, _, hbh, hc⟩ := (HS.out.later (HBL.out.mono (Nat.le_trans HHI.out (by omega))) (Nat.le_refl _)).at k hlt
      obtain ⟨a1s, c1s, hc0, hc1, hs1⟩ := DSymbol.open hc
      have hbw : b < wr.heap.size := Nat.lt_of_lt_of_le hbh (Nat.le_trans HHI.out (by omega))
      clear hc
      by_cases he : (l.getD k default).fName = nm
      · have hix := idxI_at (p := PSym nm) hlt (PSym_yes he) HN.out
        have fin := Lib.hid (show ∀ w' e, SymOut lo hi (symS l nm) (symB l nm) w' e = SymOut lo hi (l.getD k default) true w' e from fun w' e => by rw [symS_at hix, symB_at hix])
        have hnm := Lib.hid he
        rw [he] at hc0
        have HS1 := Lib.hid hs1
        clear he hix hs1
        generalize hx : l.getD k default = x at *
        clear hx
        go_wp2
        refine bodyPost_ret (v := .tuple #[.agg #[.string nm, .slice a1s x.fAttributes.length c1s], .bool true]) (results_cell_tmp Tryz.results91 _ _ (w.heap.size + 1) 116 #[.string nm, .slice a1s x.fAttributes.length c1s] (0, 0) _ rfl (by refine blk_alloc (by simp [World.setCell] <;> omega) ?_; refine Eq.trans (blk_set (cs := #[.string nm, .slice none 0 0]) (t := 116) (fr := (0, 0)) ?_) rfl; refine Eq.trans (blk_set (cs := #[.string ⟨#[]⟩, .slice none 0 0]) (t := 116) (fr := (0, 0)) ?_) rfl; exact HGR.out) Tryz.underlying116 rfl (by kernel_rfl)) rfl ⟨?_, ?_⟩
        · rw [fin.out]
          refine ⟨a1s, c1s, by rw [hnm.out], HS1.out.frame fun b o h1 h2 => World.cell?_of_block (a := ⟨b, o, none⟩) ?_⟩
          have := HHI.out
          refine blk_alloc (by simp [World.setCell] <;> omega) ?_
          refine blk_other (by simp <;> omega) (blk_other (by simp <;> omega) rfl)
        · have HBW := Lib.hid (HB.out.trans (HBL.out.mono (show w.heap.size ≤ w.heap.size + 2 by omega)))
          repeat (first | (with_reducible exact HBW.out) | (with_reducible apply Below.drew) | (with_reducible refine below_drewN ?_ _) | (with_reducible refine Below.alloc ?_ ?_ _) | (with_reducible refine Below.setCell ?_ ?_ _))
          all_goals (first | omega | (simp <;> omega))
      · have HN2 := Lib.hid (noneBelow_succ HN.out (k := k) (PSym_no he))
        have e2 : ((l.getD k default).fName.toList == nm.toList) = false := PSym_no he
        clear he hs1
        generalize (l.getD k default).fName = q at *
        generalize (l.getD k default).fAttributes.length = m at *
        go_wp2
        go_roundw
        case rel =>
          refine ⟨k + 1, by omega, by go_num, HN2.out, ?_⟩
          repeat (first | (with_reducible exact HBL.out) | (with_reducible apply Below.drew) | (with_reducible refine below_drewN ?_ _) | (with_reducible refine Below.alloc ?_ ?_ _) | (with_reducible refine Below.setCell ?_ ?_ _))
          all_goals (first | omega | (simp <;> omega))
        case measure => simp [intOf]; omega
    · obtain rfl : k = l.length := by omega
      have hix := idxI_none (p := PSym nm) HN.out
      have fin := Lib.hid (show ∀ w' e, SymOut lo hi (symS l nm) (symB l nm) w' e = SymOut lo hi noSym false w' e from fun w' e => by rw [symS_none hix, symB_none hix])
      clear hix
      go_wp2
      refine bodyPost_ret (v := .tuple #[.agg #[.string ⟨#[]⟩, .slice none 0 0], .bool false]) (results_cell_tmp Tryz.results91 _ _ (w.heap.size + 1) 116 #[.string ⟨#[]⟩, .slice none 0 0] (0, 0) _ rfl (by refine Eq.trans (blk_set (cs := #[.string ⟨#[]⟩, .slice none 0 0]) (t := 116) (fr := (0, 0)) ?_) rfl; refine Eq.trans (blk_set (cs := #[.string ⟨#[]⟩, .slice none 0 0]) (t := 116) (fr := (0, 0)) ?_) rfl; exact HGR.out) Tryz.underlying116 rfl (by kernel_rfl)) rfl ⟨?_, ?_⟩
      · rw [fin.out]
        exact ⟨none, 0, rfl, Sl.nil⟩
      · have HBW := Lib.hid (HB.out.trans (HBL.out.mono (show w.heap.size ≤ w.heap.size + 2 by omega)))
        repeat (first | (with_reducible exact HBW.out) | (with_reducible apply Below.drew) | (with_reducible refine below_drewN ?_ _) | (with_reducible refine Below.alloc ?_ ?_ _) | (with_reducible refine Below.setCell ?_ ?_ _))
        all_goals (first | omega | (simp <;> omega))
end Go.Proofs.YtnmepemmpeboeaaGreat
namespace Go.Proofs.YtnmepemmpeboeaaGreat
open Go.ChangeShapes Go.WideShapes Go.ChangeAt Go.RowKit Go.Deep

set_option maxHeartbeats 6400000 in
set_option maxRecDepth 100000 in
theorem spec_FindSymbolO {lo hi n1 c0 c1 : Nat} {a0 a1 : Option Addr} (l : List DSymbol) (hz : lsz DSymbol.sz l ≤ 1048576) (nm : ByteArray) (w : World) (hhi : hi ≤ w.heap.size) (hs : Sl lo hi w 2 l.length (fun k => DSymbol.ct (l.getD k default)) a0) :
    Calls Tryz.prog 86 #[.agg #[.slice a0 l.length c0, .slice a1 n1 c1], .string nm] w fun e w' => SymOwn w.heap.size (symS l nm) (symB l nm) w' e ∧ Below w.heap.size w w' := by
  have hn : l.length ≤ 1048576 := by unfold lsz at hz; omega
  have HB := Lib.hid (((Below.refl w.heap.size w).alloc (Nat.le_refl _) (.cells #[.slice a0 l.length c0, .slice a1 n1 c1] 40)).alloc (by simp <;> omega) (.cells #[.string ⟨#[]⟩, .slice none 0 0] 116))
  have HSZ := Lib.hid (show ((w.alloc (.cells #[.slice a0 l.length c0, .slice a1 n1 c1] 40)).alloc (.cells #[.string ⟨#[]⟩, .slice none 0 0] 116)).heap.size = w.heap.size + 2 by simp)
  have HE := Lib.hid (show Below (w.heap.size + 2) ((w.alloc (.cells #[.slice a0 l.length c0, .slice a1 n1 c1] 40)).alloc (.cells #[.string ⟨#[]⟩, .slice none 0 0] 116)) ((w.alloc (.cells #[.slice a0 l.length c0, .slice a1 n1 c1] 40)).alloc (.cells #[.string ⟨#[]⟩, .slice none 0 0] 116)) from Below.refl _ _)
  have HX := Lib.hid (show ((w.alloc (.cells #[.slice a0 l.length c0, .slice a1 n1 c1] 40)).alloc (.cells #[.string ⟨#[]⟩, .slice none 0 0] 116)).cell? ⟨w.heap.size, 0, none⟩ = some (.slice a0 l.length c0) by go_simp)
  have HG := Lib.hid (show ((w.alloc (.cells #[.slice a0 l.length c0, .slice a1 n1 c1] 40)).alloc (.cells #[.string ⟨#[]⟩, .slice none 0 0] 116)).heap[w.heap.size + 1]? = some (.cells #[.string ⟨#[]⟩, .slice none 0 0] 116) from blk_new (by simp))
  have HS := Lib.hid (hs.later HB.out hhi)
  have HHI := Lib.hid hhi
  have HZ := Lib.hid hz
  clear hs hhi hz
  go_enter Tryz.func86, Tryz.ntmps86
  go_wp2
  go_loopw [6] (fun i wr => ∃ k : Nat, k ≤ l.length ∧ i = .int .i64 (k : Int) ∧ noneBelow (PSym nm) l k ∧ Below (w.heap.size + 2) ((w.alloc (.cells #[.slice a0 l.length c0, .slice a1 n1 c1] 40)).alloc (.cells #[.string ⟨#[]⟩, .slice none 0 0] 116)) wr) (fun i _ => l.length - (intOf i).toNat)
  case atStart => exact ⟨0, Nat.zero_le _, rfl, noneBelow_zero _ _, HE.out⟩
  case round =>
    obtain ⟨k, hk, rfl, hno, hbl⟩ := hrel
    have hx0 : wr.cell? ⟨w.heap.size, 0, none⟩ = some (.slice a0 l.length c0) := (hbl.cell (p := ⟨w.heap.size, 0, none⟩) (show w.heap.size < w.heap.size + 2 by omega)).trans HX.out
    have HN := Lib.hid hno
    have HBL := Lib.hid hbl
    have hsz1 : w.heap.size + 2 ≤ wr.heap.size := by have := hbl.size; rw [HSZ.out] at this; exact this
    have hw1 : w.heap.size + 1 < wr.heap.size := by omega
    have HGR := Lib.hid ((hbl.block (w.heap.size + 1) (by omega)).trans HG.out)
    have y0 : wr.cell? ⟨w.heap.size + 1, 0, none⟩ = some (.string ⟨#[]⟩) := (cell_of_row _ _ _ _ _ _ HGR.out).trans rfl
    have y1 : wr.cell? ⟨w.heap.size + 1, 1, none⟩ = some (.slice none 0 0) := (cell_of_row _ _ _ _ _ _ HGR.out).trans rfl
    have f0 : wr.frozen? ⟨w.heap.size + 1, 0, none⟩ = false := frozen_of_row _ _ _ _ _ HGR.out
    have f1 : wr.frozen? ⟨w.heap.size + 1, 1, none⟩ = false := frozen_of_row _ _ _ _ _ HGR.out
    clear hno hbl
    by_cases hlt : k < l.length
    · obtain ⟨b, off, rfl, _, hbh, hc⟩ := (HS.out.later (HBL.out.mono (Nat.le_trans HHI.out (by omega))) (Nat.le_refl _)).at k hlt
      obtain ⟨a1s, c1s, hc0, hc1, hs1⟩ := DSymbol.open hc
      have hbw : b < wr.heap.size := Nat.lt_of_lt_of_le hbh (Nat.le_trans HHI.out (by omega))
      clear hc
      by_cases he : (l.getD k default).fName = nm
      · have hix := idxI_at (p := PSym nm) hlt (PSym_yes he) HN.out
        have fin := Lib.hid (show ∀ (w' : World) e, SymOwn w.heap.size (symS l nm) (symB l nm) w' e = SymOwn w.heap.size (l.getD k default) true w' e from fun w' e => by rw [symS_at hix, symB_at hix])
        have hnm := Lib.hid he
        have hal := sym_attrs HZ.out hlt
        have HC := Lib.hid (fun (W : World) (hW : Below wr.heap.size wr W) => spec_l10Symbol (c := c1s) (l.getD k default) hal W (Nat.le_trans (Nat.le_trans HHI.out (by omega)) hW.size) (hs1.later hW (Nat.le_trans HHI.out (by omega))))
        rw [he] at hc0 HC
        clear he hix hs1 hal
        generalize hx : l.getD k default = x at *
        clear hx
        go_wp2_with fail
        refine (HC.out _ (Below.refl _ _)).mono ?_
        rintro e w1 ⟨a9, c9, rfl, ho9, hb9⟩
        have HGR1 := Lib.hid ((hb9.block (w.heap.size + 1) hw1).trans HGR.out)
        have v0 : w1.cell? ⟨w.heap.size + 1, 0, none⟩ = some (.string ⟨#[]⟩) := (cell_of_row _ _ _ _ _ _ HGR1.out).trans rfl
        have v1 : w1.cell? ⟨w.heap.size + 1, 1, none⟩ = some (.slice none 0 0) := (cell_of_row _ _ _ _ _ _ HGR1.out).trans rfl
        have g0 : w1.frozen? ⟨w.heap.size + 1, 0, none⟩ = false := frozen_of_row _ _ _ _ _ HGR1.out
        have g1 : w1.frozen? ⟨w.heap.size + 1, 1, none⟩ = false := frozen_of_row _ _ _ _ _ HGR1.out
        have HO9 := Lib.hid ho9
        have HBW := Lib.hid (HB.out.trans ((HBL.out.trans (hb9.mono hsz1)).mono (show w.heap.size ≤ w.heap.size + 2 by omega)))
        clear hb9 ho9 y0 y1 f0 f1 hx0
        go_wp2
        refine bodyPost_ret (v := .tuple #[.agg #[.string nm, .slice a9 x.fAttributes.length c9], .bool true]) (results_cell_tmp Tryz.results86 _ _ (w.heap.size + 1) 116 #[.string nm, .slice a9 x.fAttributes.length c9] (0, 0) _ rfl (by refine Eq.trans (blk_set (cs := #[.string nm, .slice none 0 0]) (t := 116) (fr := (0, 0)) ?_) rfl; refine Eq.trans (blk_set (cs := #[.string ⟨#[]⟩, .slice none 0 0]) (t := 116) (fr := (0, 0)) ?_) rfl; exact HGR1.out) Tryz.underlying116 rfl (by kernel_rfl)) rfl ⟨?_, ?_⟩
        · rw [fin.out]
          refine ⟨a9, c9, by rw [hnm.out], ?_⟩
          refine Own.sub (F := fun y => wr.heap.size ≤ y ∧ y < w1.heap.size) (HO9.out.kept ?_) (fun y hy => ⟨Nat.le_trans (by omega) hy.1, Nat.lt_of_lt_of_le hy.2 (by simp [World.setCell])⟩)
          refine Kept.put (Kept.put Kept.refl ?_) ?_
          · intro h; have h1 := h.1; dsimp only at h1; omega
          · intro h; have h1 := h.1; dsimp only at h1; omega
        · skip
          repeat (first | (with_reducible exact HBW.out) | (with_reducible apply Below.drew) | (with_reducible refine below_drewN ?_ _) | (with_reducible refine Below.alloc ?_ ?_ _) | (with_reducible refine Below.setCell ?_ ?_ _))
          all_goals (first | omega | (simp <;> omega))
      · have HN2 := Lib.hid (noneBelow_succ HN.out (k := k) (PSym_no he))
        have e2 : ((l.getD k default).fName.toList == nm.toList) = false := PSym_no he
        clear he hs1 hc1
        generalize (l.getD k default).fName = q at *
        go_wp2
        go_roundw
        case rel => exact ⟨k + 1, by omega, by go_num, HN2.out, HBL.out⟩
        case measure => simp [intOf]; omega
    · obtain rfl : k = l.length := by omega
      have hix := idxI_none (p := PSym nm) HN.out
      have fin := Lib.hid (show ∀ (w' : World) e, SymOwn w.heap.size (symS l nm) (symB l nm) w' e = SymOwn w.heap.size noSym false w' e from fun w' e => by rw [symS_none hix, symB_none hix])
      clear hix
      go_wp2
      refine bodyPost_ret (v := .tuple #[.agg #[.string ⟨#[]⟩, .slice none 0 0], .bool false]) (results_cell_tmp Tryz.results86 _ _ (w.heap.size + 1) 116 #[.string ⟨#[]⟩, .slice none 0 0] (0, 0) _ rfl (by refine Eq.trans (blk_set (cs := #[.string ⟨#[]⟩, .slice none 0 0]) (t := 116) (fr := (0, 0)) ?_) rfl; refine Eq.trans (blk_set (cs := #[.string ⟨#[]⟩, .slice none 0 0]) (t := 116) (fr := (0, 0)) ?_) rfl; exact HGR.out) Tryz.underlying116 rfl (by kernel_rfl)) rfl ⟨?_, ?_⟩
      · rw [fin.out]
        exact ⟨none, 0, rfl, .nil _ _ _ _ _⟩
      · have HBW := Lib.hid (HB.out.trans (HBL.out.mono (show w.heap.size ≤ w.heap.size + 2 by omega)))
        repeat (first | (with_reducible exact HBW.out) | (with_reducible apply Below.drew) | (with_reducible refine below_drewN ?_ _) | (with_reducible refine Below.alloc ?_ ?_ _) | (with_reducible refine Below.setCell ?_ ?_ _))
        all_goals (first | omega | (simp <;> omega))

theorem sym_sz {g : DGrammar} (h : g.sz ≤ 1048576) (nm : ByteArray) : DSymbol.sz (symS g.fSymbols nm) ≤ 1048576 := by
  have hz : lsz DSymbol.sz g.fSymbols ≤ 1048576 := by unfold DGrammar.sz at h; omega
  by_cases h0 : 0 ≤ idxI (PSym nm) g.fSymbols
  · obtain ⟨k, hk⟩ : ∃ k : Nat, idxI (PSym nm) g.fSymbols = k := ⟨(idxI (PSym nm) g.fSymbols).toNat, by omega⟩
    rw [symS_at hk]
    by_cases hl : k < g.fSymbols.length
    · have := szle_at (f := DSymbol.sz) g.fSymbols k hl
      omega
    · rw [List.getD_eq_getElem?_getD, List.getElem?_eq_none (by omega)]
      exact Nat.zero_le _
  · unfold symS
    rw [if_neg h0]
    exact Nat.zero_le _
end Go.Proofs.YtnmepemmpeboeaaGreat
