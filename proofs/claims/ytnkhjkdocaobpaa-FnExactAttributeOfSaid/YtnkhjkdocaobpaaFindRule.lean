/-
  The rule of a name: FindRule of the model, ruleNamed of the program.
-/
import Derived.Test.YtnkhjkdocaobpaaTGrammar
import Derived.Test.YtnkhjkdocaobpaaIdx
import Derived.Test.YtnkhjkdocaobpaaCopyR
import Derived.Lib.Strings
namespace Go.Proofs.Ytnkhjkdocaobpaa
open Go.ChangeShapes Go.WideShapes Go.ChangeAt Go.RowKit Go.Deep

theorem toList_injR {x y : ByteArray} (h : x.toList = y.toList) : x = y := by
  rw [Lib.toList_data, Lib.toList_data] at h
  cases x; cases y
  simp only at h
  rw [ByteArray.mk.injEq]
  exact Array.toList_inj.1 h
def PRu (nm : ByteArray) (y : DRule) : Bool := y.fName.toList == nm.toList
theorem PRu_yes {nm : ByteArray} {y : DRule} (h : y.fName = nm) : PRu nm y = true := by unfold PRu; rw [h]; simp
theorem PRu_no {nm : ByteArray} {y : DRule} (h : y.fName ≠ nm) : PRu nm y = false := beq_eq_false_iff_ne.2 (fun e => h (toList_injR e))
def noRule : DRule := ⟨⟨#[]⟩, ⟨#[]⟩, [], false, [], []⟩
/-- The first rule of the name. -/
def ruleR (l : List DRule) (nm : ByteArray) : DRule := if 0 ≤ idxI (PRu nm) l then l.getD (idxI (PRu nm) l).toNat default else noRule
def ruleB (l : List DRule) (nm : ByteArray) : Bool := decide (0 ≤ idxI (PRu nm) l)
theorem ruleR_at {l : List DRule} {nm : ByteArray} {k : Nat} (h : idxI (PRu nm) l = k) : ruleR l nm = l.getD k default := by unfold ruleR; rw [h, if_pos (by omega), Int.toNat_natCast]
theorem ruleB_at {l : List DRule} {nm : ByteArray} {k : Nat} (h : idxI (PRu nm) l = k) : ruleB l nm = true := by unfold ruleB; rw [h]; exact decide_eq_true (by omega)
theorem ruleR_none {l : List DRule} {nm : ByteArray} (h : idxI (PRu nm) l = -1) : ruleR l nm = noRule := by unfold ruleR; rw [h, if_neg (by omega)]
theorem ruleB_none {l : List DRule} {nm : ByteArray} (h : idxI (PRu nm) l = -1) : ruleB l nm = false := by unfold ruleB; rw [h]; exact decide_eq_false (by omega)
/-- A rule that a call hands out, its memory in blocks of its own from B on. -/
def RuleOwn (B : Nat) (x : DRule) (b : Bool) (w' : World) (e : Ending) : Prop :=
  ∃ r2 r4 r5 q2 q4 q5, e = .returned (.tuple #[.agg #[.string x.fName, .string x.fLeft, .slice r2 x.fRight.length q2, .bool x.fLiteral, .slice r4 x.fEquations.length q4, .slice r5 x.fContributions.length q5], .bool b]) ∧ OwnR w' (fun y => B ≤ y ∧ y < w'.heap.size) 6 x.ct (fun j => ([.string x.fName, .string x.fLeft, .slice r2 x.fRight.length q2, .bool x.fLiteral, .slice r4 x.fEquations.length q4, .slice r5 x.fContributions.length q5] : List Value).getD j .nilFunc)
/-- A rule that a call hands out, with its memory in the blocks up to hi. -/
def RuleOut (lo hi : Nat) (x : DRule) (b : Bool) (w' : World) (e : Ending) : Prop :=
  ∃ r2 r4 r5 q2 q4 q5, e = .returned (.tuple #[.agg #[.string x.fName, .string x.fLeft, .slice r2 x.fRight.length q2, .bool x.fLiteral, .slice r4 x.fEquations.length q4, .slice r5 x.fContributions.length q5], .bool b]) ∧ Sl lo hi w' 1 x.fRight.length (fun k => ictS (x.fRight.getD k default)) r2 ∧ Sl lo hi w' 9 x.fEquations.length (fun k => DEquation.ct (x.fEquations.getD k default)) r4 ∧ Sl lo hi w' 16 x.fContributions.length (fun k => DContribution.ct (x.fContributions.getD k default)) r5

set_option maxHeartbeats 6400000 in
set_option maxRecDepth 100000 in
theorem spec_FindRule {lo hi n0 c0 c1 : Nat} {a0 a1 : Option Addr} (l : List DRule) (hz : lsz DRule.sz l ≤ 1048576) (nm : ByteArray) (w : World) (hhi : hi ≤ w.heap.size) (hs : Sl lo hi w 6 l.length (fun k => DRule.ct (l.getD k default)) a1) :
    Calls Try.prog 36 #[.agg #[.slice a0 n0 c0, .slice a1 l.length c1], .string nm] w fun e w' => RuleOwn w.heap.size (ruleR l nm) (ruleB l nm) w' e ∧ Below w.heap.size w w' := by
  have hn : l.length ≤ 1048576 := by unfold lsz at hz; omega
  have HB := Lib.hid (((Below.refl w.heap.size w).alloc (Nat.le_refl _) (.cells #[.slice a0 n0 c0, .slice a1 l.length c1] 41)).alloc (by simp <;> omega) (.cells #[.string ⟨#[]⟩, .string ⟨#[]⟩, .slice none 0 0, .bool false, .slice none 0 0, .slice none 0 0] 91))
  have HSZ := Lib.hid (show ((w.alloc (.cells #[.slice a0 n0 c0, .slice a1 l.length c1] 41)).alloc (.cells #[.string ⟨#[]⟩, .string ⟨#[]⟩, .slice none 0 0, .bool false, .slice none 0 0, .slice none 0 0] 91)).heap.size = w.heap.size + 2 by simp)
  have HX := Lib.hid (show ((w.alloc (.cells #[.slice a0 n0 c0, .slice a1 l.length c1] 41)).alloc (.cells #[.string ⟨#[]⟩, .string ⟨#[]⟩, .slice none 0 0, .bool false, .slice none 0 0, .slice none 0 0] 91)).cell? ⟨w.heap.size, 1, none⟩ = some (.slice a1 l.length c1) by go_simp)
  have HG := Lib.hid (show ((w.alloc (.cells #[.slice a0 n0 c0, .slice a1 l.length c1] 41)).alloc (.cells #[.string ⟨#[]⟩, .string ⟨#[]⟩, .slice none 0 0, .bool false, .slice none 0 0, .slice none 0 0] 91)).heap[w.heap.size + 1]? = some (.cells #[.string ⟨#[]⟩, .string ⟨#[]⟩, .slice none 0 0, .bool false, .slice none 0 0, .slice none 0 0] 91) from blk_new (by simp))
  have HS := Lib.hid (hs.later HB.out hhi)
  have HHI := Lib.hid hhi
  have HZ := Lib.hid hz
  clear hs hhi hz
  go_enter Try.func36, Try.ntmps36
  go_wp2
  go_loopw [6] (fun i wr => ∃ k : Nat, k ≤ l.length ∧ i = .int .i64 (k : Int) ∧ noneBelow (PRu nm) l k ∧ Below (w.heap.size + 2) ((w.alloc (.cells #[.slice a0 n0 c0, .slice a1 l.length c1] 41)).alloc (.cells #[.string ⟨#[]⟩, .string ⟨#[]⟩, .slice none 0 0, .bool false, .slice none 0 0, .slice none 0 0] 91)) wr) (fun i _ => l.length - (intOf i).toNat)
  case atStart => exact ⟨0, Nat.zero_le _, rfl, noneBelow_zero _ _, Below.refl _ _⟩
  case round =>
    obtain ⟨k, hk, rfl, hno, hbl⟩ := hrel
    have hx1 : wr.cell? ⟨w.heap.size, 1, none⟩ = some (.slice a1 l.length c1) := (hbl.cell (p := ⟨w.heap.size, 1, none⟩) (show w.heap.size < w.heap.size + 2 by omega)).trans HX.out
    have HN := Lib.hid hno
    have HBL := Lib.hid hbl
    have hsz1 : w.heap.size + 2 ≤ wr.heap.size := by have := hbl.size; rw [HSZ.out] at this; exact this
    have hw1 : w.heap.size + 1 < wr.heap.size := by omega
    have HGR := Lib.hid ((hbl.block (w.heap.size + 1) (by omega)).trans HG.out)
    clear hno hbl
    by_cases hlt : k < l.length
    · obtain ⟨b, off, rfl, _, hbh, hc⟩ := (HS.out.later (HBL.out.mono (Nat.le_trans HHI.out (by omega))) (Nat.le_refl _)).at k hlt
      obtain ⟨a2, d2, a4, d4, a5, d5, hc0, hc1, hc2, hc3, hc4, hc5, hs2, hs4, hs5⟩ := DRule.open hc
      clear hc
      by_cases he : (l.getD k default).fName = nm
      · have hix := idxI_at (p := PRu nm) hlt (PRu_yes he) HN.out
        have fin := Lib.hid (show ∀ (w' : World) e, RuleOwn w.heap.size (ruleR l nm) (ruleB l nm) w' e = RuleOwn w.heap.size (l.getD k default) true w' e from fun w' e => by rw [ruleR_at hix, ruleB_at hix])
        have hnm := Lib.hid he
        have hal := Nat.le_trans (szle_at (f := DRule.sz) l k hlt) HZ.out
        have HC := Lib.hid (fun (W : World) (hW : Below wr.heap.size wr W) => spec_l9Copy (c0_0 := d2) (c0_1 := d4) (c0_2 := d5) (l.getD k default) hal W (Nat.le_trans (Nat.le_trans HHI.out (by omega)) hW.size) (hs2.later hW (Nat.le_trans HHI.out (by omega))) (hs4.later hW (Nat.le_trans HHI.out (by omega))) (hs5.later hW (Nat.le_trans HHI.out (by omega))))
        have e1 : ((l.getD k default).fName.toList == nm.toList) = true := PRu_yes he
        clear he hix hs2 hs4 hs5 hal
        generalize hx : l.getD k default = x at *
        clear hx
        go_wp2_with fail
        refine (HC.out _ (Below.refl _ _)).mono ?_
        rintro e w1 ⟨r2, r4, r5, q2, q4, q5, rfl, ho9, hb9⟩
        have HGR1 := Lib.hid ((hb9.block (w.heap.size + 1) hw1).trans HGR.out)
        have HO9 := Lib.hid ho9
        have HBW := Lib.hid (HB.out.trans ((HBL.out.trans (hb9.mono hsz1)).mono (show w.heap.size ≤ w.heap.size + 2 by omega)))
        clear hb9 ho9 hx1
        go_wp2_with (refine wpList_store_rowTo rfl 91 (.tmp 4) (.tmp 27) rfl rfl (w.heap.size + 1) _ rfl rfl 91 _ HGR1.out (by kernel_rfl) rfl (by simp [Value.oneCell']) ?_)
        refine bodyPost_ret (v := .tuple #[.agg #[.string x.fName, .string x.fLeft, .slice r2 x.fRight.length q2, .bool x.fLiteral, .slice r4 x.fEquations.length q4, .slice r5 x.fContributions.length q5], .bool true]) (results_cell_tmp Try.results36 _ _ (w.heap.size + 1) 91 #[.string x.fName, .string x.fLeft, .slice r2 x.fRight.length q2, .bool x.fLiteral, .slice r4 x.fEquations.length q4, .slice r5 x.fContributions.length q5] (0, 0) _ rfl (setRow_heap _ _ _ _ _ _ HGR1.out) Try.underlying91 rfl (by kernel_rfl)) rfl ⟨?_, ?_⟩
        · rw [fin.out]
          refine ⟨r2, r4, r5, q2, q4, q5, rfl, ?_⟩
          have hkf : Kept (fun z => z ≠ w.heap.size + 1) w1 (w1.setRow (w.heap.size + 1) #[.string x.fName, .string x.fLeft, .slice r2 x.fRight.length q2, .bool x.fLiteral, .slice r4 x.fEquations.length q4, .slice r5 x.fContributions.length q5]) := kept_setRow Kept.refl (fun h => h rfl)
          exact (HO9.out.kept (hkf.sub fun z hz => by have := hz.1; omega)).sub fun z hz => ⟨by have := hz.1; omega, Nat.lt_of_lt_of_le hz.2 hkf.1⟩
        · exact pile_setRow HBW.out (by omega) _
      · have HN2 := Lib.hid (noneBelow_succ HN.out (k := k) (PRu_no he))
        have e2 : ((l.getD k default).fName.toList == nm.toList) = false := PRu_no he
        clear he hs2 hs4 hs5 hc1 hc2 hc3 hc4 hc5
        generalize (l.getD k default).fName = q at *
        go_wp2
        go_roundw
        case rel => exact ⟨k + 1, by omega, by go_num, HN2.out, HBL.out⟩
        case measure => simp [intOf]; omega
    · obtain rfl : k = l.length := by omega
      have hix := idxI_none (p := PRu nm) HN.out
      have fin := Lib.hid (show ∀ (w' : World) e, RuleOwn w.heap.size (ruleR l nm) (ruleB l nm) w' e = RuleOwn w.heap.size noRule false w' e from fun w' e => by rw [ruleR_none hix, ruleB_none hix])
      clear hix
      go_wp2_with (first | (refine wpList_buildTo rfl 91 _ rfl (some 28) rfl #[.string ⟨#[]⟩, .string ⟨#[]⟩, .slice none 0 0, .bool false, .slice none 0 0, .slice none 0 0] (by kernel_rfl) ?_) | (refine wpList_store_rowTo rfl 91 (.tmp 4) (.tmp 28) rfl rfl (w.heap.size + 1) #[.string ⟨#[]⟩, .string ⟨#[]⟩, .slice none 0 0, .bool false, .slice none 0 0, .slice none 0 0] rfl rfl 91 _ HGR.out (by kernel_rfl) rfl (by kernel_rfl) ?_))
      refine bodyPost_ret (v := .tuple #[.agg #[.string ⟨#[]⟩, .string ⟨#[]⟩, .slice none 0 0, .bool false, .slice none 0 0, .slice none 0 0], .bool false]) (results_cell_tmp Try.results36 _ _ (w.heap.size + 1) 91 #[.string ⟨#[]⟩, .string ⟨#[]⟩, .slice none 0 0, .bool false, .slice none 0 0, .slice none 0 0] (0, 0) _ rfl (setRow_heap _ _ _ _ _ _ HGR.out) Try.underlying91 rfl (by kernel_rfl)) rfl ⟨?_, ?_⟩
      · rw [fin.out]
        exact ⟨none, none, none, 0, 0, 0, rfl, ownR_rule (F1 := fun _ => False) (F2 := fun _ => False) (F3 := fun _ => False) (.nil _ _ _ _ _) (.nil _ _ _ _ _) (.nil _ _ _ _ _) (fun _ h _ => h) (fun _ h _ => h) (fun _ h _ => h) (fun _ h => h.elim) (fun _ h => h.elim) (fun _ h => h.elim)⟩
      · exact pile_setRow (HB.out.trans (HBL.out.mono (show w.heap.size ≤ w.heap.size + 2 by omega))) (by omega) _

set_option maxHeartbeats 6400000 in
set_option maxRecDepth 100000 in
theorem impl_ruleNamed {lo hi n0 c0 c1 : Nat} {a0 a1 : Option Addr} (l : List DRule) (hz : lsz DRule.sz l ≤ 1048576) (nm : ByteArray) (w : World) (hhi : hi ≤ w.heap.size) (hs : Sl lo hi w 6 l.length (fun k => DRule.ct (l.getD k default)) a1) :
    Calls Try.prog 79 #[.agg #[.slice a0 n0 c0, .slice a1 l.length c1], .string nm] w fun e w' => RuleOut lo hi (ruleR l nm) (ruleB l nm) w' e ∧ Below w.heap.size w w' := by
  have hn : l.length ≤ 1048576 := by unfold lsz at hz; omega
  have HB := Lib.hid (((Below.refl w.heap.size w).alloc (Nat.le_refl _) (.cells #[.slice a0 n0 c0, .slice a1 l.length c1] 41)).alloc (by simp <;> omega) (.cells #[.string ⟨#[]⟩, .string ⟨#[]⟩, .slice none 0 0, .bool false, .slice none 0 0, .slice none 0 0] 91))
  have HSZ := Lib.hid (show ((w.alloc (.cells #[.slice a0 n0 c0, .slice a1 l.length c1] 41)).alloc (.cells #[.string ⟨#[]⟩, .string ⟨#[]⟩, .slice none 0 0, .bool false, .slice none 0 0, .slice none 0 0] 91)).heap.size = w.heap.size + 2 by simp)
  have HX := Lib.hid (show ((w.alloc (.cells #[.slice a0 n0 c0, .slice a1 l.length c1] 41)).alloc (.cells #[.string ⟨#[]⟩, .string ⟨#[]⟩, .slice none 0 0, .bool false, .slice none 0 0, .slice none 0 0] 91)).cell? ⟨w.heap.size, 1, none⟩ = some (.slice a1 l.length c1) by go_simp)
  have HG := Lib.hid (show ((w.alloc (.cells #[.slice a0 n0 c0, .slice a1 l.length c1] 41)).alloc (.cells #[.string ⟨#[]⟩, .string ⟨#[]⟩, .slice none 0 0, .bool false, .slice none 0 0, .slice none 0 0] 91)).heap[w.heap.size + 1]? = some (.cells #[.string ⟨#[]⟩, .string ⟨#[]⟩, .slice none 0 0, .bool false, .slice none 0 0, .slice none 0 0] 91) from blk_new (by simp))
  have HS := Lib.hid (hs.later HB.out hhi)
  have HHI := Lib.hid hhi
  have HZ := Lib.hid hz
  clear hs hhi hz
  go_enter Try.func79, Try.ntmps79
  go_wp2
  go_loopw [11] (fun i wr => ∃ k : Nat, k ≤ l.length ∧ i = .int .i64 (k : Int) ∧ noneBelow (PRu nm) l k ∧ Below (w.heap.size + 2) ((w.alloc (.cells #[.slice a0 n0 c0, .slice a1 l.length c1] 41)).alloc (.cells #[.string ⟨#[]⟩, .string ⟨#[]⟩, .slice none 0 0, .bool false, .slice none 0 0, .slice none 0 0] 91)) wr) (fun i _ => l.length - (intOf i).toNat)
  case atStart => exact ⟨0, Nat.zero_le _, rfl, noneBelow_zero _ _, Below.refl _ _⟩
  case round =>
    obtain ⟨k, hk, rfl, hno, hbl⟩ := hrel
    have HN := Lib.hid hno
    have HBL := Lib.hid hbl
    have hsz1 : w.heap.size + 2 ≤ wr.heap.size := by have := hbl.size; rw [HSZ.out] at this; exact this
    have hw1 : w.heap.size + 1 < wr.heap.size := by omega
    have HGR := Lib.hid ((hbl.block (w.heap.size + 1) (by omega)).trans HG.out)
    clear hno hbl
    by_cases hlt : k < l.length
    · obtain ⟨b, off, rfl, _, hbh, hc⟩ := (HS.out.later (HBL.out.mono (Nat.le_trans HHI.out (by omega))) (Nat.le_refl _)).at k hlt
      obtain ⟨a2, d2, a4, d4, a5, d5, hc0, hc1, hc2, hc3, hc4, hc5, hs2, hs4, hs5⟩ := DRule.open hc
      clear hc
      by_cases he : (l.getD k default).fName = nm
      · have hix := idxI_at (p := PRu nm) hlt (PRu_yes he) HN.out
        have fin := Lib.hid (show ∀ w' e, RuleOut lo hi (ruleR l nm) (ruleB l nm) w' e = RuleOut lo hi (l.getD k default) true w' e from fun w' e => by rw [ruleR_at hix, ruleB_at hix])
        have e1 : ((l.getD k default).fName.toList == nm.toList) = true := PRu_yes he
        have HS2 := Lib.hid hs2
        have HS4 := Lib.hid hs4
        have HS5 := Lib.hid hs5
        clear he hix hs2 hs4 hs5
        generalize hx : l.getD k default = x at *
        clear hx
        have HBN := Lib.hid (show (wr.alloc (.cells #[.string x.fName, .string x.fLeft, .slice a2 x.fRight.length d2, .bool x.fLiteral, .slice a4 x.fEquations.length d4, .slice a5 x.fContributions.length d5] 91)).heap[wr.heap.size]? = some (.cells #[.string x.fName, .string x.fLeft, .slice a2 x.fRight.length d2, .bool x.fLiteral, .slice a4 x.fEquations.length d4, .slice a5 x.fContributions.length d5] 91) from blk_new rfl)
        have HGR1 := Lib.hid (show (wr.alloc (.cells #[.string x.fName, .string x.fLeft, .slice a2 x.fRight.length d2, .bool x.fLiteral, .slice a4 x.fEquations.length d4, .slice a5 x.fContributions.length d5] 91)).heap[w.heap.size + 1]? = some (.cells #[.string ⟨#[]⟩, .string ⟨#[]⟩, .slice none 0 0, .bool false, .slice none 0 0, .slice none 0 0] 91) from blk_alloc hw1 HGR.out)
        go_wp2_with (first
          | (refine wpList_store_rowTo rfl 91 (.tmp 7) (.tmp 14) rfl rfl wr.heap.size _ rfl rfl 91 _ (blk_new rfl) (by kernel_rfl) rfl (by simp [Value.oneCell']) ?_; rw [setRow_newR rfl])
          | (refine wpList_load_row rfl 91 (.tmp 7) rfl wr.heap.size rfl 91 _ _ _ HBN.out Try.underlying91 rfl (by kernel_rfl) ?_)
          | (refine wpList_store_rowTo rfl 91 (.tmp 4) (.tmp 19) rfl rfl (w.heap.size + 1) _ rfl rfl 91 _ HGR1.out (by kernel_rfl) rfl (by simp [Value.oneCell']) ?_))
        refine bodyPost_ret (v := .tuple #[.agg #[.string x.fName, .string x.fLeft, .slice a2 x.fRight.length d2, .bool x.fLiteral, .slice a4 x.fEquations.length d4, .slice a5 x.fContributions.length d5], .bool true]) (results_cell_tmp Try.results79 _ _ (w.heap.size + 1) 91 #[.string x.fName, .string x.fLeft, .slice a2 x.fRight.length d2, .bool x.fLiteral, .slice a4 x.fEquations.length d4, .slice a5 x.fContributions.length d5] (0, 0) _ rfl (setRow_heap _ _ _ _ _ _ HGR1.out) Try.underlying91 rfl (by kernel_rfl)) rfl ⟨?_, ?_⟩
        · rw [fin.out]
          have hh := HHI.out
          have hkf : Kept (fun z => z < hi) wr ((wr.alloc (.cells #[.string x.fName, .string x.fLeft, .slice a2 x.fRight.length d2, .bool x.fLiteral, .slice a4 x.fEquations.length d4, .slice a5 x.fContributions.length d5] 91)).setRow (w.heap.size + 1) #[.string x.fName, .string x.fLeft, .slice a2 x.fRight.length d2, .bool x.fLiteral, .slice a4 x.fEquations.length d4, .slice a5 x.fContributions.length d5]) := kept_setRow (Kept.of_below ((Below.refl _ _).alloc (Nat.le_refl _) _) (fun z h => by have : z < hi := h; omega)) (by show ¬ w.heap.size + 1 < hi; omega)
          exact ⟨_, _, _, _, _, _, rfl, sl_kept' HS2.out hkf (fun b _ h => h) (by omega), sl_kept' HS4.out hkf (fun b _ h => h) (by omega), sl_kept' HS5.out hkf (fun b _ h => h) (by omega)⟩
        · exact pile_setRow ((HB.out.trans (HBL.out.mono (show w.heap.size ≤ w.heap.size + 2 by omega))).alloc (by omega) _) (by omega) _
      · have HN2 := Lib.hid (noneBelow_succ HN.out (k := k) (PRu_no he))
        have e2 : ((l.getD k default).fName.toList == nm.toList) = false := PRu_no he
        clear he hs2 hs4 hs5
        generalize hx : l.getD k default = x at *
        clear hx
        go_wp2_with (refine wpList_store_rowTo rfl 91 (.tmp 7) (.tmp 14) rfl rfl wr.heap.size _ rfl rfl 91 _ (blk_new rfl) (by kernel_rfl) rfl (by simp [Value.oneCell']) ?_; rw [setRow_newR rfl])
        go_roundw
        case rel => exact ⟨k + 1, by omega, by go_num, HN2.out, HBL.out.alloc (by omega) _⟩
        case measure => simp [intOf]; omega
    · obtain rfl : k = l.length := by omega
      have hix := idxI_none (p := PRu nm) HN.out
      have fin := Lib.hid (show ∀ w' e, RuleOut lo hi (ruleR l nm) (ruleB l nm) w' e = RuleOut lo hi noRule false w' e from fun w' e => by rw [ruleR_none hix, ruleB_none hix])
      clear hix
      go_wp2_with (first | (refine wpList_buildTo rfl 91 _ rfl (some 21) rfl #[.string ⟨#[]⟩, .string ⟨#[]⟩, .slice none 0 0, .bool false, .slice none 0 0, .slice none 0 0] (by kernel_rfl) ?_) | (refine wpList_store_rowTo rfl 91 (.tmp 4) (.tmp 21) rfl rfl (w.heap.size + 1) #[.string ⟨#[]⟩, .string ⟨#[]⟩, .slice none 0 0, .bool false, .slice none 0 0, .slice none 0 0] rfl rfl 91 _ HGR.out (by kernel_rfl) rfl (by kernel_rfl) ?_))
      refine bodyPost_ret (v := .tuple #[.agg #[.string ⟨#[]⟩, .string ⟨#[]⟩, .slice none 0 0, .bool false, .slice none 0 0, .slice none 0 0], .bool false]) (results_cell_tmp Try.results79 _ _ (w.heap.size + 1) 91 #[.string ⟨#[]⟩, .string ⟨#[]⟩, .slice none 0 0, .bool false, .slice none 0 0, .slice none 0 0] (0, 0) _ rfl (setRow_heap _ _ _ _ _ _ HGR.out) Try.underlying91 rfl (by kernel_rfl)) rfl ⟨?_, ?_⟩
      · rw [fin.out]
        exact ⟨none, none, none, 0, 0, 0, rfl, Sl.nil, Sl.nil, Sl.nil⟩
      · exact pile_setRow (HB.out.trans (HBL.out.mono (show w.heap.size ≤ w.heap.size + 2 by omega))) (by omega) _
end Go.Proofs.Ytnkhjkdocaobpaa
