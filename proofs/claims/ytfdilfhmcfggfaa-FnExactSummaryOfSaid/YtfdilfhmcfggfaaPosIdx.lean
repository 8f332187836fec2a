/-
  PositionIndices of the model and of the program.
-/
import Derived.Test.YtfdilfhmcfggfaaOccs
namespace Go.Proofs.Ytfdilfhmcfggfaa
open Go.ChangeShapes Go.WideShapes Go.ChangeAt Go.RowKit Go.Deep

/-- The indices of the occurrences at position p, among the first k. -/
def ixP (p : Int) (l : List DOccurrence) : Nat → List Int
  | 0 => []
  | k + 1 => ixP p l k ++ if (l.getD k default).fPos = p then [(k : Int)] else []
theorem ixP_yes {p : Int} {l : List DOccurrence} {k : Nat} (h : (l.getD k default).fPos = p) : ixP p l (k + 1) = ixP p l k ++ [(k : Int)] := by show ixP p l k ++ _ = _; rw [if_pos h]
theorem ixP_no {p : Int} {l : List DOccurrence} {k : Nat} (h : (l.getD k default).fPos ≠ p) : ixP p l (k + 1) = ixP p l k := by show ixP p l k ++ _ = _; rw [if_neg h, List.append_nil]
theorem ixP_len (p : Int) (l : List DOccurrence) : ∀ k, (ixP p l k).length ≤ k
  | 0 => Nat.le_refl _
  | k + 1 => by
    have h := ixP_len p l k
    show (ixP p l k ++ _).length ≤ _
    rw [List.length_append]
    have : (if (l.getD k default).fPos = p then [(k : Int)] else []).length ≤ 1 := by split <;> simp
    omega
def posIx (g : DGrammar) (x : DRule) (p : Int) : List Int := ixP p (occsOf g x) (occsOf g x).length
theorem posIx_len {g : DGrammar} (h : g.sz ≤ 1048576) {x : DRule} (hx : x.sz ≤ 1048576) (p : Int) : (posIx g x p).length ≤ 1099511627776 := Nat.le_trans (ixP_len _ _ _) (occsOf_len h hx)

set_option maxHeartbeats 1600000 in
set_option maxRecDepth 100000 in
theorem impl_isAt (p : Int) (bp : Nat) (a : DOccurrence) (w : World) (hb : bp < w.heap.size) (hc : w.cell? ⟨bp, 0, none⟩ = some (.int .i64 p)) (b : Bool) (hB : decide (a.fPos = p) = b) :
    Calls Try.prog 68 #[.agg #[.int .i64 a.fPos, .string a.fName], .pointer (some ⟨bp, 0, none⟩)] w fun e w' => e = .returned (.bool b) ∧ Below w.heap.size w w' := by
  have HB := Lib.hid ((Below.refl w.heap.size w).alloc (Nat.le_refl _) (.cells #[.int .i64 a.fPos, .string a.fName] 111))
  have hne : ¬ (bp = w.heap.size) := by omega
  generalize a.fPos = m at *
  have hd : (m == p) = b := by rw [← hB]; by_cases h : m = p <;> simp [h]
  clear hB
  go_enter Try.func68, Try.ntmps68
  go_wp2
  go_ret
  exact ⟨rfl, HB.out⟩

set_option maxHeartbeats 6400000 in
set_option maxRecDepth 100000 in
theorem impl_indicesWhereO {lo hi c : Nat} {a : Option Addr} (l : List DOccurrence) (hn : l.length ≤ 1099511627776) (p : Int) (bp : Nat) (w : World) (hbp : bp < w.heap.size) (hcp : w.cell? ⟨bp, 0, none⟩ = some (.int .i64 p)) (hhi : hi ≤ w.heap.size) (hs : Sl lo hi w 2 l.length (fun k => DOccurrence.ct (l.getD k default)) a) :
    Calls Try.prog 66 #[.slice a l.length c, .func (.func 68) #[] #[.pointer (some ⟨bp, 0, none⟩)]] w fun e w' => ∃ b d, e = .returned (.slice b (ixP p l l.length).length d) ∧ Own w' (fun y => w.heap.size ≤ y ∧ y < w'.heap.size) (.sl 1 (ixP p l l.length).length (fun k => ictI ((ixP p l l.length).getD k default))) (.slice b (ixP p l l.length).length d) ∧ Below w.heap.size w w' := by
  have HGO := Lib.hid (fun (w' : World) (v : Value) (K : List Int) (h : w'.ownsRow (w.heap.size) 3 1 v (K).length ((K).flatMap vIx)) => grown_own (ct := ictI) (by decide) vIx_len vIx_ct h)
  have HS := Lib.hid hs
  have HHI := Lib.hid hhi
  have HCP := Lib.hid hcp
  obtain ⟨i0, hi', hz0, hz1, hz2⟩ := info_parts info_int8
  clear hs hhi hcp
  go_enter Try.func66, Try.ntmps66
  go_wp2
  go_loopw [5, 10] (fun v i wr => ∃ j : Nat, j ≤ l.length ∧ i = .int .i64 (j : Int) ∧ wr.ownsRow (w.heap.size) 3 1 v (ixP p l j).length ((ixP p l j).flatMap vIx) ∧ Below w.heap.size w wr) (fun _ i _ => l.length - (intOf i).toNat)
  case atStart => exact ⟨0, Nat.zero_le _, rfl, grown_nil, Below.refl _ _⟩
  case round =>
    obtain ⟨j, hj, rfl, hown, hbl⟩ := hrel
    have HO := Lib.hid hown
    have HBL := Lib.hid hbl
    have hsz1 : w.heap.size ≤ wr.heap.size := hbl.size
    have hlen : (ixP p l j).length ≤ 1099511627776 := by have := ixP_len p l j; omega
    clear hown hbl
    by_cases hlt : j < l.length
    · obtain ⟨b, off, rfl, _, hbh, hc⟩ := (HS.out.later HBL.out HHI.out).at j hlt
      obtain ⟨hc0, hc1⟩ := DOccurrence.open hc
      have hbw : b < wr.heap.size := by have := HHI.out; omega
      have hjI : (0 : Int) ≤ (j : Int) ∧ (j : Int) < (l.length : Int) := by omega
      have HY := Lib.hid (fun (h : (l.getD j default).fPos = p) => ixP_yes h)
      have HN := Lib.hid (fun (h : (l.getD j default).fPos ≠ p) => ixP_no h)
      have HCW := Lib.hid (fun (W : World) (hW : Below wr.heap.size wr W) => (hW.cell (p := ⟨bp, 0, none⟩) (Nat.lt_of_lt_of_le hbp hsz1)).trans ((HBL.out.cell (p := ⟨bp, 0, none⟩) hbp).trans HCP.out))
      clear hc
      generalize hx : l.getD j default = at1 at *
      generalize ixP p l j = K at *
      clear hx
      have HP := Lib.hid (fun (W : World) (hW : Below wr.heap.size wr W) (b : Bool) (hb : decide (at1.fPos = p) = b) => impl_isAt p bp at1 W (Nat.lt_of_lt_of_le (Nat.lt_of_lt_of_le hbp hsz1) hW.size) (HCW.out W hW) b hb)
      by_cases hB : at1.fPos = p
      · have HE := Lib.hid (HY.out hB)
        have HQ := Lib.hid (fun (W : World) (hW : Below wr.heap.size wr W) => HP.out W hW true (decide_eq_true hB))
        clear hB HY HN HP
        generalize at1.fPos = t0 at *
        generalize at1.fName = t1 at *
        go_wp2_with fail
        refine (HQ.out _ (by repeat (first | (with_reducible exact Below.refl _ _) | (with_reducible apply Below.drew) | (with_reducible refine below_drewN ?_ _) | (refine Below.setCell ?_ (by first | omega | (simp <;> omega)) _) | (refine Below.alloc ?_ (by first | omega | (simp <;> omega)) _)))).mono ?_
        rintro e w1 ⟨rfl, hb0⟩
        have hb1 : Below wr.heap.size wr w1 := (show Below wr.heap.size wr _ from (by repeat (first | (with_reducible exact Below.refl _ _) | (with_reducible apply Below.drew) | (with_reducible refine below_drewN ?_ _) | (refine Below.setCell ?_ (by first | omega | (simp <;> omega)) _) | (refine Below.alloc ?_ (by first | omega | (simp <;> omega)) _)))).trans (hb0.mono (Below.size (show Below wr.heap.size wr _ from (by repeat (first | (with_reducible exact Below.refl _ _) | (with_reducible apply Below.drew) | (with_reducible refine below_drewN ?_ _) | (refine Below.setCell ?_ (by first | omega | (simp <;> omega)) _) | (refine Below.alloc ?_ (by first | omega | (simp <;> omega)) _))))))
        have HO1 := Lib.hid (own_below2 HO.out hb1)
        have HBL1 := Lib.hid (HBL.out.trans (hb1.mono hsz1))
        have hszw := hb1.size
        clear hb0 hb1
        go_wp2_with (at_builtin; refine wpList_append_own_at _ rfl (.tmp 18) (.tmp 20) 31 rfl (w.heap.size) 3 i0 (.int .i64 0) 1 8 Try.underlying31 hi' hz0 hz1 hz2 rfl (by decide) _ _ _ rfl (HO1.out.alloc _) ⟨w1.heap.size, 0, none⟩ 1 1 [.int .i64 (j : Int)] rfl rfl (by intro q u hu; rcases q with _ | q <;> simp at hu; subst hu; first | (go_simp; done) | exact (cell_of_row _ _ _ _ _ _ (blk_new (by simp))).trans rfl) (by intro u hu; simp at hu; subst hu; rfl) (by unfold maxLen; omega) (by omega) (by simp <;> omega) ?_; intro v' w9 hown' hgrow hnil hat)
        have R1 := Lib.hid (grown_one (l := K) (x := (j : Int)) (vals := vIx) hown' rfl)
        rw [show K ++ [(j : Int)] = ixP p l (j + 1) from HE.out.symm] at R1
        have R3 := Lib.hid (show Below w.heap.size w w9 from (HBL1.out.alloc (by omega) _).grown hgrow (by first | omega | (simp <;> omega)) (fun g hg => (HO1.out.lt g hg).1))
        clear hown' hgrow hnil hat
        go_wp2
        go_roundw
        case rel => exact ⟨j + 1, by omega, by go_num, R1.out, R3.out⟩
        case measure => simp [intOf]; omega
      · have HE := Lib.hid (HN.out hB)
        have HQ := Lib.hid (fun (W : World) (hW : Below wr.heap.size wr W) => HP.out W hW false (decide_eq_false hB))
        clear hB HY HN HP
        generalize at1.fPos = t0 at *
        generalize at1.fName = t1 at *
        go_wp2_with fail
        refine (HQ.out _ (by repeat (first | (with_reducible exact Below.refl _ _) | (with_reducible apply Below.drew) | (with_reducible refine below_drewN ?_ _) | (refine Below.setCell ?_ (by first | omega | (simp <;> omega)) _) | (refine Below.alloc ?_ (by first | omega | (simp <;> omega)) _)))).mono ?_
        rintro e w1 ⟨rfl, hb0⟩
        have hb1 : Below wr.heap.size wr w1 := (show Below wr.heap.size wr _ from (by repeat (first | (with_reducible exact Below.refl _ _) | (with_reducible apply Below.drew) | (with_reducible refine below_drewN ?_ _) | (refine Below.setCell ?_ (by first | omega | (simp <;> omega)) _) | (refine Below.alloc ?_ (by first | omega | (simp <;> omega)) _)))).trans (hb0.mono (Below.size (show Below wr.heap.size wr _ from (by repeat (first | (with_reducible exact Below.refl _ _) | (with_reducible apply Below.drew) | (with_reducible refine below_drewN ?_ _) | (refine Below.setCell ?_ (by first | omega | (simp <;> omega)) _) | (refine Below.alloc ?_ (by first | omega | (simp <;> omega)) _))))))
        have HO1 := Lib.hid (own_below2 HO.out hb1)
        have HBL1 := Lib.hid (HBL.out.trans (hb1.mono hsz1))
        have hszw := hb1.size
        clear hb0 hb1
        go_wp2
        go_roundw
        case rel => exact ⟨j + 1, by omega, by go_num, by rw [HE.out]; exact HO1.out, HBL1.out⟩
        case measure => simp [intOf]; omega
    · obtain rfl : j = l.length := by omega
      go_wp2
      go_ret
      obtain ⟨b, d, h1, h2⟩ := HGO.out _ _ _ HO.out
      exact ⟨b, d, congrArg Ending.returned h1, h2, HBL.out⟩

set_option maxHeartbeats 6400000 in
set_option maxRecDepth 100000 in
theorem impl_PositionIndices {lo hi : Nat} {a0 a1 b2 b4 b5 : Option Addr} {c0_0 c0_1 c1_0 c1_1 c1_2 : Nat} (g : DGrammar) (okg : g.ok) (hszg : g.sz ≤ 1048576) (x : DRule) (okx : x.ok) (hszx : x.sz ≤ 1048576) (p : Int) (okp : okI p) (w : World) (hhi : hi ≤ w.heap.size) (hs0 : Sl lo hi w 2 g.fSymbols.length (fun k => DSymbol.ct (g.fSymbols.getD k default)) a0) (hs1 : Sl lo hi w 6 g.fRules.length (fun k => DRule.ct (g.fRules.getD k default)) a1) (hs2 : Sl lo hi w 1 x.fRight.length (fun k => ictS (x.fRight.getD k default)) b2) (hs4 : Sl lo hi w 9 x.fEquations.length (fun k => DEquation.ct (x.fEquations.getD k default)) b4) (hs5 : Sl lo hi w 16 x.fContributions.length (fun k => DContribution.ct (x.fContributions.getD k default)) b5) :
    Calls Try.prog 36 #[.agg #[.slice a0 g.fSymbols.length c0_0, .slice a1 g.fRules.length c0_1], .agg #[.string x.fName, .string x.fLeft, .slice b2 x.fRight.length c1_0, .bool x.fLiteral, .slice b4 x.fEquations.length c1_1, .slice b5 x.fContributions.length c1_2], .int .i64 p] w fun e w' => ∃ a c, e = .returned (.slice a (posIx g x p).length c) ∧ Own w' (fun z => w.heap.size ≤ z ∧ z < w'.heap.size) (.sl 1 (posIx g x p).length (fun k => ictI ((posIx g x p).getD k default))) (.slice a (posIx g x p).length c) ∧ Below w.heap.size w w' := by
  have okp2 : -9223372036854775808 ≤ p ∧ p ≤ 9223372036854775807 := okp
  have HB := Lib.hid ((((Below.refl w.heap.size w).alloc (Nat.le_refl _) (.cells #[.slice a0 g.fSymbols.length c0_0, .slice a1 g.fRules.length c0_1] 42)).alloc (by simp) (.cells #[.string x.fName, .string x.fLeft, .slice b2 x.fRight.length c1_0, .bool x.fLiteral, .slice b4 x.fEquations.length c1_1, .slice b5 x.fContributions.length c1_2] 47)).alloc (by simp <;> omega) (.cells #[.int .i64 p] 3))
  have HOC := Lib.hid (fun (W : World) (hW : Below (((w.alloc (.cells #[.slice a0 g.fSymbols.length c0_0, .slice a1 g.fRules.length c0_1] 42)).alloc (.cells #[.string x.fName, .string x.fLeft, .slice b2 x.fRight.length c1_0, .bool x.fLiteral, .slice b4 x.fEquations.length c1_1, .slice b5 x.fContributions.length c1_2] 47)).alloc (.cells #[.int .i64 p] 3)).heap.size (((w.alloc (.cells #[.slice a0 g.fSymbols.length c0_0, .slice a1 g.fRules.length c0_1] 42)).alloc (.cells #[.string x.fName, .string x.fLeft, .slice b2 x.fRight.length c1_0, .bool x.fLiteral, .slice b4 x.fEquations.length c1_1, .slice b5 x.fContributions.length c1_2] 47)).alloc (.cells #[.int .i64 p] 3)) W) => impl_OccurrencesOf (c0_0 := c0_0) (c0_1 := c0_1) (c1_0 := c1_0) (c1_1 := c1_1) (c1_2 := c1_2) g okg hszg x okx hszx W (Nat.le_trans hhi (HB.out.trans (hW.mono HB.out.size)).size) (hs0.later (HB.out.trans (hW.mono HB.out.size)) hhi) (hs1.later (HB.out.trans (hW.mono HB.out.size)) hhi) (hs2.later (HB.out.trans (hW.mono HB.out.size)) hhi) (hs4.later (HB.out.trans (hW.mono HB.out.size)) hhi) (hs5.later (HB.out.trans (hW.mono HB.out.size)) hhi))
  have HLO := Lib.hid (occsOf_len hszg hszx)
  have HRES := Lib.hid (show (posIx g x p) = ixP p (occsOf g x) (occsOf g x).length from rfl)
  have HGO := Lib.hid (fun (w' : World) (v : Value) (K : List Int) (h : w'.ownsRow (w.heap.size + 2) 3 1 v (K).length ((K).flatMap vIx)) => grown_own (ct := ictI) (by decide) vIx_len vIx_ct h)
  obtain ⟨i0, hi', hz0, hz1, hz2⟩ := info_parts info_int8
  clear hs0 hs1 hs2 hs4 hs5 hhi hszx okx hszg okg okp
  go_enter Try.func36, Try.ntmps36
  go_wp2_with fail
  refine (HOC.out _ (by repeat (first | (with_reducible exact Below.refl _ _) | (with_reducible apply Below.drew) | (with_reducible refine below_drewN ?_ _) | (refine Below.setCell ?_ (by first | omega | (simp <;> omega)) _) | (refine Below.alloc ?_ (by first | omega | (simp <;> omega)) _)))).mono ?_
  rintro e w1 ⟨a9, c9, rfl, ho9, hb0⟩
  have hsz1 : w.heap.size + 3 ≤ w1.heap.size := by have := hb0.size; simp at this; omega
  have HSA := Lib.hid (show Sl (w.heap.size + 3) w1.heap.size w1 2 (occsOf g x).length (fun k => DOccurrence.ct ((occsOf g x).getD k default)) a9 from Sl.of (ho9.lies fun y hy => ⟨by have h1 := hy.1; simp at h1; omega, hy.2⟩))
  have HCP := Lib.hid ((hb0.cell (p := ⟨w.heap.size + 2, 0, none⟩) (by simp)).trans (show (((w.alloc (.cells #[.slice a0 g.fSymbols.length c0_0, .slice a1 g.fRules.length c0_1] 42)).alloc (.cells #[.string x.fName, .string x.fLeft, .slice b2 x.fRight.length c1_0, .bool x.fLiteral, .slice b4 x.fEquations.length c1_1, .slice b5 x.fContributions.length c1_2] 47)).alloc (.cells #[.int .i64 p] 3)).cell? ⟨w.heap.size + 2, 0, none⟩ = some (.int .i64 p) by go_simp))
  have HB1 := Lib.hid (HB.out.trans (hb0.mono HB.out.size))
  clear ho9 hb0 HOC
  go_wp2_with fail
  refine (impl_indicesWhereO (c := c9) (occsOf g x) HLO.out p (w.heap.size + 2) _ (by omega) HCP.out (Nat.le_refl _) HSA.out).mono ?_
  rintro e w2 ⟨b, d, rfl, ho, hb2⟩
  go_wp2
  go_ret
  rw [HRES.out]
  exact ⟨b, d, rfl, ho.sub fun z hz => ⟨by omega, hz.2⟩, HB1.out.trans (hb2.mono (by omega))⟩
end Go.Proofs.Ytfdilfhmcfggfaa
