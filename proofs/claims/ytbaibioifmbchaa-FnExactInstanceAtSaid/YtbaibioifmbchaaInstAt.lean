/-
  InstanceAt, in the model and in the program.
-/
import Derived.Test.YtbaibioifmbchaaTAt
import Derived.Test.YtbaibioifmbchaaTOccurrence
import Derived.Test.YtbaibioifmbchaaTInstance
import Derived.Test.YtbaibioifmbchaaTGrammar
import Derived.Test.YtbaibioifmbchaaInR
namespace Go.Proofs.Ytbaibioifmbchaa
open Go.ChangeShapes Go.WideShapes Go.ChangeAt Go.RowKit Go.Deep

def noInst : DInstance := ⟨0, ⟨#[]⟩⟩
/-- The instance of an occurrence at node i, and whether there is one. -/
noncomputable def instAt (l : List DNode) (i : Int) (o : DOccurrence) : DInstance × Bool := by
  classical
  exact if 0 ≤ i ∧ i < l.length then (if o.fPos = 0 then (⟨(l.getD i.toNat default).fId, o.fName⟩, true) else if hasKid l i.toNat o.fPos then (⟨(l.getD (kidOf l i.toNat o.fPos).toNat default).fId, o.fName⟩, true) else (noInst, false)) else (noInst, false)
theorem instAt_out {l : List DNode} {i : Int} {o : DOccurrence} (h : ¬ (0 ≤ i ∧ i < l.length)) : instAt l i o = (noInst, false) := by unfold instAt; rw [if_neg h]
theorem instAt_self {l : List DNode} {n : Nat} {o : DOccurrence} (h : n < l.length) (h0 : o.fPos = 0) : instAt l n o = (⟨(l.getD n default).fId, o.fName⟩, true) := by unfold instAt; rw [if_pos (by omega), if_pos h0, Int.toNat_natCast]
theorem instAt_kid {l : List DNode} {n : Nat} {o : DOccurrence} (h : n < l.length) (h0 : o.fPos ≠ 0) (hk : hasKid l n o.fPos) : instAt l n o = (⟨(l.getD (kidOf l n o.fPos).toNat default).fId, o.fName⟩, true) := by unfold instAt; rw [if_pos (by omega), if_neg h0, Int.toNat_natCast, if_pos hk]
theorem instAt_no {l : List DNode} {n : Nat} {o : DOccurrence} (h : n < l.length) (h0 : o.fPos ≠ 0) (hk : ¬ hasKid l n o.fPos) : instAt l n o = (noInst, false) := by unfold instAt; rw [if_pos (by omega), if_neg h0, Int.toNat_natCast, if_neg hk]
theorem ret_inst {v : Value} {x y : DInstance × Bool} (h : x = y) (hv : v = .tuple #[.agg #[.int .i64 y.1.fNode, .string y.1.fName], .bool y.2]) : Ending.returned v = .returned (.tuple #[.agg #[.int .i64 x.1.fNode, .string x.1.fName], .bool x.2]) := by rw [hv, h]

set_option maxHeartbeats 3200000 in
set_option maxRecDepth 100000 in
theorem spec_InstanceAt {lo hi : Nat} {a0 a1 b0 : Option Addr} {c0_0 c0_1 c1_0 : Nat} (g : DGrammar) (_ : g.ok) (_ : g.sz ≤ 1048576) (t : DTree) (_ : t.ok) (hsz : t.sz ≤ 1048576) (i : Int) (hi0 : okI i) (o : DOccurrence) (ho0 : o.ok) (_ : o.sz ≤ 1048576) (w : World) (hhi : hi ≤ w.heap.size) (_ : Sl lo hi w 2 g.fSymbols.length (fun k => DSymbol.ct (g.fSymbols.getD k default)) a0) (_ : Sl lo hi w 6 g.fRules.length (fun k => DRule.ct (g.fRules.getD k default)) a1) (hs : Sl lo hi w 6 t.fNodes.length (fun k => DNode.ct (t.fNodes.getD k default)) b0) :
    Calls Try.prog 7 #[.agg #[.slice a0 g.fSymbols.length c0_0, .slice a1 g.fRules.length c0_1], .agg #[.slice b0 t.fNodes.length c1_0], .int .i64 i, .agg #[.int .i64 o.fPos, .string o.fName]] w fun e w' => e = .returned (.tuple #[.agg #[.int .i64 (instAt t.fNodes i o).1.fNode, .string (instAt t.fNodes i o).1.fName], .bool (instAt t.fNodes i o).2]) ∧ Below w.heap.size w w' := by
  have hl : lsz DNode.sz t.fNodes ≤ 1048576 := hsz
  have hn : t.fNodes.length ≤ 1048576 := by unfold lsz at hl; omega
  have HB1 := Lib.hid (Below.refl w.heap.size w)
  have HB := Lib.hid (((((Below.refl w.heap.size w).alloc (Nat.le_refl _) (.cells #[.slice a0 g.fSymbols.length c0_0, .slice a1 g.fRules.length c0_1] 41)).alloc (by simp <;> omega) (.cells #[.slice b0 t.fNodes.length c1_0] 45)).alloc (by simp <;> omega) (.cells #[.int .i64 o.fPos, .string o.fName] 47)).alloc (by simp <;> omega) (.cells #[.int .i64 0, .string ⟨#[]⟩] 35))
  have HS := Lib.hid (hs.later HB.out hhi)
  have HHI := Lib.hid (Nat.le_trans hhi HB.out.size)
  have hi1 : -9223372036854775808 ≤ i ∧ i ≤ 9223372036854775807 := hi0
  have hp1 : -9223372036854775808 ≤ o.fPos ∧ o.fPos ≤ 9223372036854775807 := ho0.1
  have HOP := Lib.hid ho0.1
  have HHW := Lib.hid hhi
  clear hs hi0 ho0 hsz hhi
  have FR := Lib.hid (fun v z (h : instAt t.fNodes i o = z) hv => ret_inst (v := v) h hv)
  have HSELF := Lib.hid (fun n h h0 => instAt_self (l := t.fNodes) (n := n) (o := o) h h0)
  have HKID := Lib.hid (fun n h h0 hk => instAt_kid (l := t.fNodes) (n := n) (o := o) h h0 hk)
  have HNO := Lib.hid (fun n h h0 hk => instAt_no (l := t.fNodes) (n := n) (o := o) h h0 hk)
  have HOUT := Lib.hid (fun h => instAt_out (l := t.fNodes) (i := i) (o := o) h)
  have HI := Lib.hid (show ∀ (w' : World) (x y : Int), Calls Try.prog 18 #[.int .i64 x, .int .i64 0, .int .i64 y] w' fun e w'' => e = .returned (.bool (inR x 0 y)) ∧ w'' = w' from fun w' x y => (spec_l1In x 0 y w').mono fun _ _ ⟨he, hm⟩ => ⟨he, hm.symm⟩)
  have HWR := Lib.hid (show ∀ k : Nat, k ≤ 1048576 → IntKind.i64.wrap ((k : Int) - 1) = (k : Int) - 1 from fun k hk => by rw [IntKind.wrap_i64]; omega)
  generalize o.fName = nm at *
  generalize o.fPos = p at *
  have hkl := fun k hk => nodekids_len hl (k := k) hk
  generalize t.fNodes = l at *
  generalize g.fSymbols.length = g1 at *
  generalize g.fRules.length = g2 at *
  by_cases hr : 0 ≤ i ∧ i < l.length
  · obtain ⟨n, rfl⟩ : ∃ n : Nat, i = n := ⟨i.toNat, by omega⟩
    have hnl : n < l.length := by omega
    obtain ⟨b, off, rfl, _, hbh, hc⟩ := HS.out.at n hnl
    obtain ⟨a5, c5, hc0, _, _, _, _, hc5, hs5⟩ := DNode.open hc
    have HKO := Lib.hid (kids_open hs5)
    have hkn := hkl n hnl
    clear hc hs5 hkl hr hi1
    have i1 := (inR_yes (n := (n : Int)) (a := 0) (b := (l.length : Int) - 1) (by omega) (by omega))
    have i1w : inR ((n : Int)) 0 (IntKind.i64.wrap ((l.length : Int) - 1)) = true := by rw [HWR.out _ hn]; exact i1
    by_cases hp : p < 0 ∨ ((l.getD n default).fChildren.length : Int) < p
    · have fin := Lib.hid (HNO.out n hnl (by omega) (by unfold hasKid; omega))
      have i2 := (inR_no (n := p) (a := 0) (b := ((l.getD n default).fChildren.length : Int)) (by omega))
      clear hp HKO HS
      generalize (l.getD n default).fChildren.length = m at *
      go_enter Try.func7, Try.ntmps7
      go_wp2_with fail
      go_quiet ((go_at_call 18; exact Calls.quiet_of_same (HI.out _ _ _)))
      go_wp2
      exact bodyPost_ret (v := .tuple #[.agg #[.int .i64 0, .string ⟨#[]⟩], .bool false]) (by simp [results, Try.results7, go_sem]) rfl ⟨FR.out _ _ fin.out rfl, (by repeat (first | (with_reducible exact HB1.out) | (with_reducible exact Below.refl _ _) | (with_reducible apply Below.drew) | (with_reducible refine below_drewN ?_ _) | (refine Below.setCell ?_ (by simp <;> omega) _) | (refine Below.alloc ?_ (by simp <;> omega) _)))⟩
    · have i2 := inR_yes (n := p) (a := 0) (b := ((l.getD n default).fChildren.length : Int)) (by omega) (by omega)
      by_cases hp0 : p = 0
      · have fin := Lib.hid (HSELF.out n hnl hp0)
        clear hp HKO HS
        subst hp0
        generalize (l.getD n default).fChildren.length = m at *
        generalize (l.getD n default).fId = id at *
        go_enter Try.func7, Try.ntmps7
        go_wp2_with fail
        go_quiet ((go_at_call 18; exact Calls.quiet_of_same (HI.out _ _ _)))
        go_wp2_with fail
        refine (HI.out _ _ _).mono ?_
        rintro e w1 ⟨rfl, rfl⟩
        go_wp2
        go_region
        go_wp2
        exact bodyPost_ret (v := .tuple #[.agg #[.int .i64 id, .string nm], .bool true]) (by simp [results, Try.results7, go_sem]) rfl ⟨FR.out _ _ fin.out rfl, (by repeat (first | (with_reducible exact HB1.out) | (with_reducible exact Below.refl _ _) | (with_reducible apply Below.drew) | (with_reducible refine below_drewN ?_ _) | (refine Below.setCell ?_ (by simp <;> omega) _) | (refine Below.alloc ?_ (by simp <;> omega) _)))⟩
      · obtain ⟨q, rfl⟩ : ∃ q : Nat, p = (q : Int) + 1 := ⟨p.toNat - 1, by omega⟩
        have hkid : kidOf l n ((q : Int) + 1) = (l.getD n default).fChildren.getD q default := by
          unfold kidOf
          rw [show ((q : Int) + 1).toNat - 1 = q by omega]
        obtain ⟨b2, off2, rfl, hb2, hc2⟩ := HKO.out q (by omega)
        rw [← hkid] at hc2
        by_cases hz : 0 ≤ kidOf l n ((q : Int) + 1) ∧ kidOf l n ((q : Int) + 1) < l.length
        · have fin := Lib.hid (HKID.out n hnl (by omega) ⟨by omega, by omega, hz.1, hz.2⟩)
          have i3 := (inR_yes (n := kidOf l n ((q : Int) + 1)) (a := 0) (b := (l.length : Int) - 1) (by omega) (by omega))
          have i3w : inR (kidOf l n ((q : Int) + 1)) 0 (IntKind.i64.wrap ((l.length : Int) - 1)) = true := by rw [HWR.out _ hn]; exact i3
          obtain ⟨z, hzz⟩ : ∃ z : Nat, kidOf l n ((q : Int) + 1) = z := ⟨(kidOf l n ((q : Int) + 1)).toNat, by omega⟩
          rw [hzz] at fin i3 i3w hc2 hz
          rw [Int.toNat_natCast] at fin
          have hzl : z < l.length := by omega
          obtain ⟨b', off', hbo, _, _, hd⟩ := HS.out.at z hzl
          simp only [Option.some.injEq, Addr.mk.injEq, and_true] at hbo
          obtain ⟨rfl, rfl⟩ := hbo
          obtain ⟨d5, e5, hd0, _, _, _, _, _, _⟩ := DNode.open hd
          clear hd hkid hzz HKO HS hz
          generalize (l.getD n default).fChildren.length = m at *
          generalize (l.getD z default).fId = id at *
          have hqm : q < m := by omega
          have hwq : IntKind.i64.wrap (q : Int) = (q : Int) := by rw [IntKind.wrap_i64] <;> omega
          go_enter Try.func7, Try.ntmps7
          go_wp2_with fail
          go_quiet ((go_at_call 18; exact Calls.quiet_of_same (HI.out _ _ _)))
          go_wp2_with fail
          go_quiet (fail)
          go_wp2_with fail
          refine (HI.out _ _ _).mono ?_
          rintro e w1 ⟨rfl, rfl⟩
          go_wp2
          go_region
          go_wp2
          exact bodyPost_ret (v := .tuple #[.agg #[.int .i64 id, .string nm], .bool true]) (by simp [results, Try.results7, go_sem]) rfl ⟨FR.out _ _ fin.out rfl, (by repeat (first | (with_reducible exact HB1.out) | (with_reducible exact Below.refl _ _) | (with_reducible apply Below.drew) | (with_reducible refine below_drewN ?_ _) | (refine Below.setCell ?_ (by simp <;> omega) _) | (refine Below.alloc ?_ (by simp <;> omega) _)))⟩
        · have fin := Lib.hid (HNO.out n hnl (by omega) (fun h => hz ⟨h.2.2.1, h.2.2.2⟩))
          have i3 := (inR_no (n := kidOf l n ((q : Int) + 1)) (a := 0) (b := (l.length : Int) - 1) (by omega))
          have i3w : inR (kidOf l n ((q : Int) + 1)) 0 (IntKind.i64.wrap ((l.length : Int) - 1)) = false := by rw [HWR.out _ hn]; exact i3
          clear hkid HKO HS hz
          generalize kidOf l n ((q : Int) + 1) = z at *
          generalize (l.getD n default).fChildren.length = m at *
          have hqm : q < m := by omega
          have hwq : IntKind.i64.wrap (q : Int) = (q : Int) := by rw [IntKind.wrap_i64] <;> omega
          go_enter Try.func7, Try.ntmps7
          go_wp2_with fail
          go_quiet ((go_at_call 18; exact Calls.quiet_of_same (HI.out _ _ _)))
          go_wp2_with fail
          go_quiet (fail)
          go_wp2_with fail
          refine (HI.out _ _ _).mono ?_
          rintro e w1 ⟨rfl, rfl⟩
          go_wp2
          exact bodyPost_ret (v := .tuple #[.agg #[.int .i64 0, .string ⟨#[]⟩], .bool false]) (by simp [results, Try.results7, go_sem]) rfl ⟨FR.out _ _ fin.out rfl, (by repeat (first | (with_reducible exact HB1.out) | (with_reducible exact Below.refl _ _) | (with_reducible apply Below.drew) | (with_reducible refine below_drewN ?_ _) | (refine Below.setCell ?_ (by simp <;> omega) _) | (refine Below.alloc ?_ (by simp <;> omega) _)))⟩
  · have fin := Lib.hid (HOUT.out hr)
    have i1 := (inR_no (n := i) (a := 0) (b := (l.length : Int) - 1) (by omega))
    have i1w : inR (i) 0 (IntKind.i64.wrap ((l.length : Int) - 1)) = false := by rw [HWR.out _ hn]; exact i1
    clear hkl HS
    go_enter Try.func7, Try.ntmps7
    go_wp2_with fail
    go_quiet ((go_at_call 18; exact Calls.quiet_of_same (HI.out _ _ _)))
    go_wp2
    exact bodyPost_ret (v := .tuple #[.agg #[.int .i64 0, .string ⟨#[]⟩], .bool false]) (by simp [results, Try.results7, go_sem]) rfl ⟨FR.out _ _ fin.out rfl, (by repeat (first | (with_reducible exact HB1.out) | (with_reducible exact Below.refl _ _) | (with_reducible apply Below.drew) | (with_reducible refine below_drewN ?_ _) | (refine Below.setCell ?_ (by simp <;> omega) _) | (refine Below.alloc ?_ (by simp <;> omega) _)))⟩

set_option maxHeartbeats 3200000 in
set_option maxRecDepth 100000 in
theorem impl_InstanceAt {lo hi : Nat} {a0 a1 b0 : Option Addr} {c0_0 c0_1 c1_0 : Nat} (g : DGrammar) (_ : g.ok) (_ : g.sz ≤ 1048576) (t : DTree) (_ : t.ok) (hsz : t.sz ≤ 1048576) (i : Int) (hi0 : okI i) (o : DOccurrence) (ho0 : o.ok) (_ : o.sz ≤ 1048576) (w : World) (hhi : hi ≤ w.heap.size) (_ : Sl lo hi w 2 g.fSymbols.length (fun k => DSymbol.ct (g.fSymbols.getD k default)) a0) (_ : Sl lo hi w 6 g.fRules.length (fun k => DRule.ct (g.fRules.getD k default)) a1) (hs : Sl lo hi w 6 t.fNodes.length (fun k => DNode.ct (t.fNodes.getD k default)) b0) :
    Calls Try.prog 11 #[.agg #[.slice a0 g.fSymbols.length c0_0, .slice a1 g.fRules.length c0_1], .agg #[.slice b0 t.fNodes.length c1_0], .int .i64 i, .agg #[.int .i64 o.fPos, .string o.fName]] w fun e w' => e = .returned (.tuple #[.agg #[.int .i64 (instAt t.fNodes i o).1.fNode, .string (instAt t.fNodes i o).1.fName], .bool (instAt t.fNodes i o).2]) ∧ Below w.heap.size w w' := by
  have hl : lsz DNode.sz t.fNodes ≤ 1048576 := hsz
  have hn : t.fNodes.length ≤ 1048576 := by unfold lsz at hl; omega
  have HB := Lib.hid (((((Below.refl w.heap.size w).alloc (Nat.le_refl _) (.cells #[.slice a0 g.fSymbols.length c0_0, .slice a1 g.fRules.length c0_1] 41)).alloc (by simp <;> omega) (.cells #[.slice b0 t.fNodes.length c1_0] 45)).alloc (by simp <;> omega) (.cells #[.int .i64 o.fPos, .string o.fName] 47)).alloc (by simp <;> omega) (.cells #[.int .i64 0, .string ⟨#[]⟩] 35))
  have HS := Lib.hid (fun (W : World) (hW : Below w.heap.size w W) => hs.later hW hhi)
  have HSW := Lib.hid hs
  have HHI := Lib.hid (fun (W : World) (hW : Below w.heap.size w W) => Nat.le_trans hhi hW.size)
  have HHW := Lib.hid hhi
  have HL := Lib.hid hl
  have hi1 : -9223372036854775808 ≤ i ∧ i ≤ 9223372036854775807 := hi0
  have HOP := Lib.hid ho0.1
  clear hs hi0 ho0 hsz hhi
  have FR := Lib.hid (fun v z (h : instAt t.fNodes i o = z) hv => ret_inst (v := v) h hv)
  have HSELF := Lib.hid (fun n h h0 => instAt_self (l := t.fNodes) (n := n) (o := o) h h0)
  have HKID := Lib.hid (fun n h h0 hk => instAt_kid (l := t.fNodes) (n := n) (o := o) h h0 hk)
  have HNO := Lib.hid (fun n h h0 hk => instAt_no (l := t.fNodes) (n := n) (o := o) h h0 hk)
  have HOUT := Lib.hid (fun h => instAt_out (l := t.fNodes) (i := i) (o := o) h)
  generalize o.fName = nm at *
  generalize o.fPos = p at *
  generalize t.fNodes = l at *
  generalize g.fSymbols.length = g1 at *
  generalize g.fRules.length = g2 at *
  clear hl
  by_cases hr : 0 ≤ i ∧ i < l.length
  · obtain ⟨n, rfl⟩ : ∃ n : Nat, i = n := ⟨i.toNat, by omega⟩
    have hnl : n < l.length := by omega
    obtain ⟨b, off, rfl, _, hbh, hc⟩ := HSW.out.at n hnl
    obtain ⟨a5, c5, hc0, _, _, _, _, _, _⟩ := DNode.open hc
    have hbw : b < w.heap.size := Nat.lt_of_lt_of_le hbh HHW.out
    have HC0 := Lib.hid hc0
    have HBW := Lib.hid hbw
    have HAT := Lib.hid (fun w => impl_Tree_at (b := b) (off := off) (len := l.length) (c0 := c1_0) n hn hnl w)
    clear hc hr hi1 hc0 hbw
    by_cases hp0 : p = 0
    · have fin := Lib.hid (HSELF.out n hnl hp0)
      subst hp0
      generalize (l.getD n default).fId = id at *
      go_enter Try.func11, Try.ntmps11
      go_wp2_with fail
      refine (HAT.out _).mono ?_
      rintro e w1 ⟨rfl, hb1⟩
      have x1_1_0 : w1.cell? ⟨w.heap.size + 1, 0, none⟩ = some (.slice (some ⟨b, off, none⟩) l.length c1_0) := (hb1.cell (p := ⟨w.heap.size + 1, 0, none⟩) (by simp)).trans (by go_simp)
      have x1_2_0 : w1.cell? ⟨w.heap.size + 2, 0, none⟩ = some (.int .i64 0) := (hb1.cell (p := ⟨w.heap.size + 2, 0, none⟩) (by simp)).trans (by go_simp)
      have x1_2_1 : w1.cell? ⟨w.heap.size + 2, 1, none⟩ = some (.string nm) := (hb1.cell (p := ⟨w.heap.size + 2, 1, none⟩) (by simp)).trans (by go_simp)
      have x1_3_0 : w1.cell? ⟨w.heap.size + 3, 0, none⟩ = some (.int .i64 0) := (hb1.cell (p := ⟨w.heap.size + 3, 0, none⟩) (by simp)).trans (by go_simp)
      have z1_3_0 : w1.frozen? ⟨w.heap.size + 3, 0, none⟩ = false := (hb1.frozen (p := ⟨w.heap.size + 3, 0, none⟩) (by simp)).trans (by go_simp)
      have x1_3_1 : w1.cell? ⟨w.heap.size + 3, 1, none⟩ = some (.string ⟨#[]⟩) := (hb1.cell (p := ⟨w.heap.size + 3, 1, none⟩) (by simp)).trans (by go_simp)
      have z1_3_1 : w1.frozen? ⟨w.heap.size + 3, 1, none⟩ = false := (hb1.frozen (p := ⟨w.heap.size + 3, 1, none⟩) (by simp)).trans (by go_simp)
      have HK1 := Lib.hid (show w1.heap[w.heap.size + 3]? = some (.cells #[.int .i64 0, .string ⟨#[]⟩] 35) from (hb1.block _ (by simp)).trans (blk_new (by simp)))
      have SZ1 := Lib.hid (show w.heap.size + 3 < w1.heap.size from Nat.lt_of_lt_of_le (by simp) hb1.size)
      have HB1 := Lib.hid (HB.out.trans (hb1.mono HB.out.size))
      clear hb1
      have hc0 : w1.cell? ⟨b, off + n * 6, none⟩ = some (.int .i64 id) := (HB1.out.cell (p := ⟨b, off + n * 6, none⟩) HBW.out).trans HC0.out
      go_wp2
      go_region
      go_wp2
      refine bodyPost_ret (v := .tuple #[.agg #[.int .i64 id, .string nm], .bool true]) (results_cell_tmp Try.results11 _ _ (w.heap.size + 3) 35 #[.int .i64 id, .string nm] (0, 0) _ rfl (by refine Eq.trans (blk_set (cs := #[.int .i64 id, .string ⟨#[]⟩]) (t := 35) (fr := (0, 0)) ?_) rfl; refine Eq.trans (blk_set (cs := #[.int .i64 0, .string ⟨#[]⟩]) (t := 35) (fr := (0, 0)) ?_) rfl; exact HK1.out) Try.underlying35 rfl (by kernel_rfl)) rfl ⟨FR.out _ _ fin.out rfl, (by repeat (first | (with_reducible exact HB1.out) | (with_reducible exact Below.refl _ _) | (with_reducible apply Below.drew) | (with_reducible refine below_drewN ?_ _) | (refine Below.setCell ?_ (by simp <;> omega) _) | (refine Below.alloc ?_ (by simp <;> omega) _)))⟩
    · by_cases hk : hasKid l n p
      · have fin := Lib.hid (HKID.out n hnl hp0 hk)
        obtain ⟨z, hzz⟩ : ∃ z : Nat, kidOf l n p = z := ⟨(kidOf l n p).toNat, by have := hk.2.2.1; omega⟩
        have hzl : z < l.length := by have := hk.2.2.2; omega
        obtain ⟨b', off', hbo, _, _, hd⟩ := HSW.out.at z hzl
        simp only [Option.some.injEq, Addr.mk.injEq, and_true] at hbo
        obtain ⟨rfl, rfl⟩ := hbo
        obtain ⟨d5, e5, hd0, _, _, _, _, _, _⟩ := DNode.open hd
        have HD0 := Lib.hid hd0
        have HCH := Lib.hid (fun (W : World) (hW : Below w.heap.size w W) => impl_child (c0 := c1_0) l HL.out n hnl p hk W (HHI.out W hW) (HS.out W hW))
        have hpp : p ≠ 0 := hp0
        have e1 : (p == 0) = false := beq_eq_false_iff_ne.2 hp0
        rw [hzz] at fin HCH
        rw [Int.toNat_natCast] at fin HCH
        clear hd hd0 hp0 hk hzz HC0
        generalize (l.getD z default).fId = id at *
        go_enter Try.func11, Try.ntmps11
        go_wp2_with fail
        refine (HAT.out _).mono ?_
        rintro e w1 ⟨rfl, hb1⟩
        have x1_1_0 : w1.cell? ⟨w.heap.size + 1, 0, none⟩ = some (.slice (some ⟨b, off, none⟩) l.length c1_0) := (hb1.cell (p := ⟨w.heap.size + 1, 0, none⟩) (by simp)).trans (by go_simp)
        have x1_2_0 : w1.cell? ⟨w.heap.size + 2, 0, none⟩ = some (.int .i64 p) := (hb1.cell (p := ⟨w.heap.size + 2, 0, none⟩) (by simp)).trans (by go_simp)
        have x1_2_1 : w1.cell? ⟨w.heap.size + 2, 1, none⟩ = some (.string nm) := (hb1.cell (p := ⟨w.heap.size + 2, 1, none⟩) (by simp)).trans (by go_simp)
        have x1_3_0 : w1.cell? ⟨w.heap.size + 3, 0, none⟩ = some (.int .i64 0) := (hb1.cell (p := ⟨w.heap.size + 3, 0, none⟩) (by simp)).trans (by go_simp)
        have z1_3_0 : w1.frozen? ⟨w.heap.size + 3, 0, none⟩ = false := (hb1.frozen (p := ⟨w.heap.size + 3, 0, none⟩) (by simp)).trans (by go_simp)
        have x1_3_1 : w1.cell? ⟨w.heap.size + 3, 1, none⟩ = some (.string ⟨#[]⟩) := (hb1.cell (p := ⟨w.heap.size + 3, 1, none⟩) (by simp)).trans (by go_simp)
        have z1_3_1 : w1.frozen? ⟨w.heap.size + 3, 1, none⟩ = false := (hb1.frozen (p := ⟨w.heap.size + 3, 1, none⟩) (by simp)).trans (by go_simp)
        have HK1 := Lib.hid (show w1.heap[w.heap.size + 3]? = some (.cells #[.int .i64 0, .string ⟨#[]⟩] 35) from (hb1.block _ (by simp)).trans (blk_new (by simp)))
        have SZ1 := Lib.hid (show w.heap.size + 3 < w1.heap.size from Nat.lt_of_lt_of_le (by simp) hb1.size)
        have HB1 := Lib.hid (HB.out.trans (hb1.mono HB.out.size))
        clear hb1
        go_wp2_with fail
        refine (HCH.out _ HB1.out).mono ?_
        rintro e w2 ⟨rfl, hb2⟩
        have x2_1_0 : w2.cell? ⟨w.heap.size + 1, 0, none⟩ = some (.slice (some ⟨b, off, none⟩) l.length c1_0) := (hb2.cell (p := ⟨w.heap.size + 1, 0, none⟩) (show w.heap.size + 1 < w1.heap.size from Nat.lt_trans (show w.heap.size + 1 < w.heap.size + 3 by omega) SZ1.out)).trans x1_1_0
        have x2_2_0 : w2.cell? ⟨w.heap.size + 2, 0, none⟩ = some (.int .i64 p) := (hb2.cell (p := ⟨w.heap.size + 2, 0, none⟩) (show w.heap.size + 2 < w1.heap.size from Nat.lt_trans (show w.heap.size + 2 < w.heap.size + 3 by omega) SZ1.out)).trans x1_2_0
        have x2_2_1 : w2.cell? ⟨w.heap.size + 2, 1, none⟩ = some (.string nm) := (hb2.cell (p := ⟨w.heap.size + 2, 1, none⟩) (show w.heap.size + 2 < w1.heap.size from Nat.lt_trans (show w.heap.size + 2 < w.heap.size + 3 by omega) SZ1.out)).trans x1_2_1
        have x2_3_0 : w2.cell? ⟨w.heap.size + 3, 0, none⟩ = some (.int .i64 0) := (hb2.cell (p := ⟨w.heap.size + 3, 0, none⟩) SZ1.out).trans x1_3_0
        have z2_3_0 : w2.frozen? ⟨w.heap.size + 3, 0, none⟩ = false := (hb2.frozen (p := ⟨w.heap.size + 3, 0, none⟩) SZ1.out).trans z1_3_0
        have x2_3_1 : w2.cell? ⟨w.heap.size + 3, 1, none⟩ = some (.string ⟨#[]⟩) := (hb2.cell (p := ⟨w.heap.size + 3, 1, none⟩) SZ1.out).trans x1_3_1
        have z2_3_1 : w2.frozen? ⟨w.heap.size + 3, 1, none⟩ = false := (hb2.frozen (p := ⟨w.heap.size + 3, 1, none⟩) SZ1.out).trans z1_3_1
        have HK2 := Lib.hid (show w2.heap[w.heap.size + 3]? = some (.cells #[.int .i64 0, .string ⟨#[]⟩] 35) from (hb2.block _ SZ1.out).trans HK1.out)
        have HB2 := Lib.hid (HB1.out.trans (hb2.mono HB1.out.size))
        clear hb2 HB1 x1_1_0 x1_2_0 x1_2_1 x1_3_0 x1_3_1 z1_3_0 z1_3_1
        have hd0 : w2.cell? ⟨b, off + z * 6, none⟩ = some (.int .i64 id) := (HB2.out.cell (p := ⟨b, off + z * 6, none⟩) HBW.out).trans HD0.out
        go_wp2
        go_region
        go_wp2
        refine bodyPost_ret (v := .tuple #[.agg #[.int .i64 id, .string nm], .bool true]) (results_cell_tmp Try.results11 _ _ (w.heap.size + 3) 35 #[.int .i64 id, .string nm] (0, 0) _ rfl (by refine Eq.trans (blk_set (cs := #[.int .i64 id, .string ⟨#[]⟩]) (t := 35) (fr := (0, 0)) ?_) rfl; refine Eq.trans (blk_set (cs := #[.int .i64 0, .string ⟨#[]⟩]) (t := 35) (fr := (0, 0)) ?_) rfl; exact HK2.out) Try.underlying35 rfl (by kernel_rfl)) rfl ⟨FR.out _ _ fin.out rfl, (by repeat (first | (with_reducible exact HB2.out) | (with_reducible apply Below.drew) | (refine Below.setCell ?_ (by simp <;> omega) _) | (refine Below.alloc ?_ (by simp <;> omega) _)))⟩
      · have fin := Lib.hid (HNO.out n hnl hp0 hk)
        have HCH := Lib.hid (fun (W : World) (hW : Below w.heap.size w W) => impl_child_no (c0 := c1_0) l HL.out n hnl p hk HOP.out W (HHI.out W hW) (HS.out W hW))
        have e1 : (p == 0) = false := beq_eq_false_iff_ne.2 hp0
        clear hp0 hk HC0
        go_enter Try.func11, Try.ntmps11
        go_wp2_with fail
        refine (HAT.out _).mono ?_
        rintro e w1 ⟨rfl, hb1⟩
        have x1_1_0 : w1.cell? ⟨w.heap.size + 1, 0, none⟩ = some (.slice (some ⟨b, off, none⟩) l.length c1_0) := (hb1.cell (p := ⟨w.heap.size + 1, 0, none⟩) (by simp)).trans (by go_simp)
        have x1_2_0 : w1.cell? ⟨w.heap.size + 2, 0, none⟩ = some (.int .i64 p) := (hb1.cell (p := ⟨w.heap.size + 2, 0, none⟩) (by simp)).trans (by go_simp)
        have x1_2_1 : w1.cell? ⟨w.heap.size + 2, 1, none⟩ = some (.string nm) := (hb1.cell (p := ⟨w.heap.size + 2, 1, none⟩) (by simp)).trans (by go_simp)
        have x1_3_0 : w1.cell? ⟨w.heap.size + 3, 0, none⟩ = some (.int .i64 0) := (hb1.cell (p := ⟨w.heap.size + 3, 0, none⟩) (by simp)).trans (by go_simp)
        have z1_3_0 : w1.frozen? ⟨w.heap.size + 3, 0, none⟩ = false := (hb1.frozen (p := ⟨w.heap.size + 3, 0, none⟩) (by simp)).trans (by go_simp)
        have x1_3_1 : w1.cell? ⟨w.heap.size + 3, 1, none⟩ = some (.string ⟨#[]⟩) := (hb1.cell (p := ⟨w.heap.size + 3, 1, none⟩) (by simp)).trans (by go_simp)
        have z1_3_1 : w1.frozen? ⟨w.heap.size + 3, 1, none⟩ = false := (hb1.frozen (p := ⟨w.heap.size + 3, 1, none⟩) (by simp)).trans (by go_simp)
        have HK1 := Lib.hid (show w1.heap[w.heap.size + 3]? = some (.cells #[.int .i64 0, .string ⟨#[]⟩] 35) from (hb1.block _ (by simp)).trans (blk_new (by simp)))
        have SZ1 := Lib.hid (show w.heap.size + 3 < w1.heap.size from Nat.lt_of_lt_of_le (by simp) hb1.size)
        have HB1 := Lib.hid (HB.out.trans (hb1.mono HB.out.size))
        clear hb1
        go_wp2_with fail
        refine (HCH.out _ HB1.out).mono ?_
        rintro e w2 ⟨rfl, hb2⟩
        have x2_1_0 : w2.cell? ⟨w.heap.size + 1, 0, none⟩ = some (.slice (some ⟨b, off, none⟩) l.length c1_0) := (hb2.cell (p := ⟨w.heap.size + 1, 0, none⟩) (show w.heap.size + 1 < w1.heap.size from Nat.lt_trans (show w.heap.size + 1 < w.heap.size + 3 by omega) SZ1.out)).trans x1_1_0
        have x2_2_0 : w2.cell? ⟨w.heap.size + 2, 0, none⟩ = some (.int .i64 p) := (hb2.cell (p := ⟨w.heap.size + 2, 0, none⟩) (show w.heap.size + 2 < w1.heap.size from Nat.lt_trans (show w.heap.size + 2 < w.heap.size + 3 by omega) SZ1.out)).trans x1_2_0
        have x2_2_1 : w2.cell? ⟨w.heap.size + 2, 1, none⟩ = some (.string nm) := (hb2.cell (p := ⟨w.heap.size + 2, 1, none⟩) (show w.heap.size + 2 < w1.heap.size from Nat.lt_trans (show w.heap.size + 2 < w.heap.size + 3 by omega) SZ1.out)).trans x1_2_1
        have x2_3_0 : w2.cell? ⟨w.heap.size + 3, 0, none⟩ = some (.int .i64 0) := (hb2.cell (p := ⟨w.heap.size + 3, 0, none⟩) SZ1.out).trans x1_3_0
        have z2_3_0 : w2.frozen? ⟨w.heap.size + 3, 0, none⟩ = false := (hb2.frozen (p := ⟨w.heap.size + 3, 0, none⟩) SZ1.out).trans z1_3_0
        have x2_3_1 : w2.cell? ⟨w.heap.size + 3, 1, none⟩ = some (.string ⟨#[]⟩) := (hb2.cell (p := ⟨w.heap.size + 3, 1, none⟩) SZ1.out).trans x1_3_1
        have z2_3_1 : w2.frozen? ⟨w.heap.size + 3, 1, none⟩ = false := (hb2.frozen (p := ⟨w.heap.size + 3, 1, none⟩) SZ1.out).trans z1_3_1
        have HK2 := Lib.hid (show w2.heap[w.heap.size + 3]? = some (.cells #[.int .i64 0, .string ⟨#[]⟩] 35) from (hb2.block _ SZ1.out).trans HK1.out)
        have HB2 := Lib.hid (HB1.out.trans (hb2.mono HB1.out.size))
        clear hb2 HB1 x1_1_0 x1_2_0 x1_2_1 x1_3_0 x1_3_1 z1_3_0 z1_3_1
        go_wp2
        refine bodyPost_ret (v := .tuple #[.agg #[.int .i64 0, .string ⟨#[]⟩], .bool false]) (results_cell_tmp Try.results11 _ _ (w.heap.size + 3) 35 #[.int .i64 0, .string ⟨#[]⟩] (0, 0) _ rfl (by refine Eq.trans (blk_set (cs := #[.int .i64 0, .string ⟨#[]⟩]) (t := 35) (fr := (0, 0)) ?_) rfl; refine Eq.trans (blk_set (cs := #[.int .i64 0, .string ⟨#[]⟩]) (t := 35) (fr := (0, 0)) ?_) rfl; exact HK2.out) Try.underlying35 rfl (by kernel_rfl)) rfl ⟨FR.out _ _ fin.out rfl, (by repeat (first | (with_reducible exact HB2.out) | (with_reducible apply Below.drew) | (refine Below.setCell ?_ (by simp <;> omega) _) | (refine Below.alloc ?_ (by simp <;> omega) _)))⟩
  · have fin := Lib.hid (HOUT.out hr)
    have HAT := Lib.hid (fun w => impl_Tree_at_no (a0 := b0) (c0 := c1_0) (len := l.length) hn i (by omega) w)
    by_cases hp0 : p = 0
    · subst hp0
      go_enter Try.func11, Try.ntmps11
      go_wp2_with fail
      refine (HAT.out _).mono ?_
      rintro e w1 ⟨rfl, hb1⟩
      have x1_1_0 : w1.cell? ⟨w.heap.size + 1, 0, none⟩ = some (.slice b0 l.length c1_0) := (hb1.cell (p := ⟨w.heap.size + 1, 0, none⟩) (by simp)).trans (by go_simp)
      have x1_2_0 : w1.cell? ⟨w.heap.size + 2, 0, none⟩ = some (.int .i64 0) := (hb1.cell (p := ⟨w.heap.size + 2, 0, none⟩) (by simp)).trans (by go_simp)
      have x1_2_1 : w1.cell? ⟨w.heap.size + 2, 1, none⟩ = some (.string nm) := (hb1.cell (p := ⟨w.heap.size + 2, 1, none⟩) (by simp)).trans (by go_simp)
      have x1_3_0 : w1.cell? ⟨w.heap.size + 3, 0, none⟩ = some (.int .i64 0) := (hb1.cell (p := ⟨w.heap.size + 3, 0, none⟩) (by simp)).trans (by go_simp)
      have z1_3_0 : w1.frozen? ⟨w.heap.size + 3, 0, none⟩ = false := (hb1.frozen (p := ⟨w.heap.size + 3, 0, none⟩) (by simp)).trans (by go_simp)
      have x1_3_1 : w1.cell? ⟨w.heap.size + 3, 1, none⟩ = some (.string ⟨#[]⟩) := (hb1.cell (p := ⟨w.heap.size + 3, 1, none⟩) (by simp)).trans (by go_simp)
      have z1_3_1 : w1.frozen? ⟨w.heap.size + 3, 1, none⟩ = false := (hb1.frozen (p := ⟨w.heap.size + 3, 1, none⟩) (by simp)).trans (by go_simp)
      have HK1 := Lib.hid (show w1.heap[w.heap.size + 3]? = some (.cells #[.int .i64 0, .string ⟨#[]⟩] 35) from (hb1.block _ (by simp)).trans (blk_new (by simp)))
      have SZ1 := Lib.hid (show w.heap.size + 3 < w1.heap.size from Nat.lt_of_lt_of_le (by simp) hb1.size)
      have HB1 := Lib.hid (HB.out.trans (hb1.mono HB.out.size))
      clear hb1
      go_wp2
      refine bodyPost_ret (v := .tuple #[.agg #[.int .i64 0, .string ⟨#[]⟩], .bool false]) (results_cell_tmp Try.results11 _ _ (w.heap.size + 3) 35 #[.int .i64 0, .string ⟨#[]⟩] (0, 0) _ rfl (by refine Eq.trans (blk_set (cs := #[.int .i64 0, .string ⟨#[]⟩]) (t := 35) (fr := (0, 0)) ?_) rfl; refine Eq.trans (blk_set (cs := #[.int .i64 0, .string ⟨#[]⟩]) (t := 35) (fr := (0, 0)) ?_) rfl; exact HK1.out) Try.underlying35 rfl (by kernel_rfl)) rfl ⟨FR.out _ _ fin.out rfl, (by repeat (first | (with_reducible exact HB1.out) | (with_reducible exact Below.refl _ _) | (with_reducible apply Below.drew) | (with_reducible refine below_drewN ?_ _) | (refine Below.setCell ?_ (by simp <;> omega) _) | (refine Below.alloc ?_ (by simp <;> omega) _)))⟩
    · have e1 : (p == 0) = false := beq_eq_false_iff_ne.2 hp0
      have HCH := Lib.hid (fun (W : World) => impl_child_nil (c := .slice b0 l.length c1_0) p W)
      clear hp0
      go_enter Try.func11, Try.ntmps11
      go_wp2_with fail
      refine (HAT.out _).mono ?_
      rintro e w1 ⟨rfl, hb1⟩
      have x1_1_0 : w1.cell? ⟨w.heap.size + 1, 0, none⟩ = some (.slice b0 l.length c1_0) := (hb1.cell (p := ⟨w.heap.size + 1, 0, none⟩) (by simp)).trans (by go_simp)
      have x1_2_0 : w1.cell? ⟨w.heap.size + 2, 0, none⟩ = some (.int .i64 p) := (hb1.cell (p := ⟨w.heap.size + 2, 0, none⟩) (by simp)).trans (by go_simp)
      have x1_2_1 : w1.cell? ⟨w.heap.size + 2, 1, none⟩ = some (.string nm) := (hb1.cell (p := ⟨w.heap.size + 2, 1, none⟩) (by simp)).trans (by go_simp)
      have x1_3_0 : w1.cell? ⟨w.heap.size + 3, 0, none⟩ = some (.int .i64 0) := (hb1.cell (p := ⟨w.heap.size + 3, 0, none⟩) (by simp)).trans (by go_simp)
      have z1_3_0 : w1.frozen? ⟨w.heap.size + 3, 0, none⟩ = false := (hb1.frozen (p := ⟨w.heap.size + 3, 0, none⟩) (by simp)).trans (by go_simp)
      have x1_3_1 : w1.cell? ⟨w.heap.size + 3, 1, none⟩ = some (.string ⟨#[]⟩) := (hb1.cell (p := ⟨w.heap.size + 3, 1, none⟩) (by simp)).trans (by go_simp)
      have z1_3_1 : w1.frozen? ⟨w.heap.size + 3, 1, none⟩ = false := (hb1.frozen (p := ⟨w.heap.size + 3, 1, none⟩) (by simp)).trans (by go_simp)
      have HK1 := Lib.hid (show w1.heap[w.heap.size + 3]? = some (.cells #[.int .i64 0, .string ⟨#[]⟩] 35) from (hb1.block _ (by simp)).trans (blk_new (by simp)))
      have SZ1 := Lib.hid (show w.heap.size + 3 < w1.heap.size from Nat.lt_of_lt_of_le (by simp) hb1.size)
      have HB1 := Lib.hid (HB.out.trans (hb1.mono HB.out.size))
      clear hb1
      go_wp2_with fail
      refine (HCH.out _).mono ?_
      rintro e w2 ⟨rfl, hb2⟩
      have x2_1_0 : w2.cell? ⟨w.heap.size + 1, 0, none⟩ = some (.slice b0 l.length c1_0) := (hb2.cell (p := ⟨w.heap.size + 1, 0, none⟩) (show w.heap.size + 1 < w1.heap.size from Nat.lt_trans (show w.heap.size + 1 < w.heap.size + 3 by omega) SZ1.out)).trans x1_1_0
      have x2_2_0 : w2.cell? ⟨w.heap.size + 2, 0, none⟩ = some (.int .i64 p) := (hb2.cell (p := ⟨w.heap.size + 2, 0, none⟩) (show w.heap.size + 2 < w1.heap.size from Nat.lt_trans (show w.heap.size + 2 < w.heap.size + 3 by omega) SZ1.out)).trans x1_2_0
      have x2_2_1 : w2.cell? ⟨w.heap.size + 2, 1, none⟩ = some (.string nm) := (hb2.cell (p := ⟨w.heap.size + 2, 1, none⟩) (show w.heap.size + 2 < w1.heap.size from Nat.lt_trans (show w.heap.size + 2 < w.heap.size + 3 by omega) SZ1.out)).trans x1_2_1
      have x2_3_0 : w2.cell? ⟨w.heap.size + 3, 0, none⟩ = some (.int .i64 0) := (hb2.cell (p := ⟨w.heap.size + 3, 0, none⟩) SZ1.out).trans x1_3_0
      have z2_3_0 : w2.frozen? ⟨w.heap.size + 3, 0, none⟩ = false := (hb2.frozen (p := ⟨w.heap.size + 3, 0, none⟩) SZ1.out).trans z1_3_0
      have x2_3_1 : w2.cell? ⟨w.heap.size + 3, 1, none⟩ = some (.string ⟨#[]⟩) := (hb2.cell (p := ⟨w.heap.size + 3, 1, none⟩) SZ1.out).trans x1_3_1
      have z2_3_1 : w2.frozen? ⟨w.heap.size + 3, 1, none⟩ = false := (hb2.frozen (p := ⟨w.heap.size + 3, 1, none⟩) SZ1.out).trans z1_3_1
      have HK2 := Lib.hid (show w2.heap[w.heap.size + 3]? = some (.cells #[.int .i64 0, .string ⟨#[]⟩] 35) from (hb2.block _ SZ1.out).trans HK1.out)
      have HB2 := Lib.hid (HB1.out.trans (hb2.mono HB1.out.size))
      clear hb2 HB1 x1_1_0 x1_2_0 x1_2_1 x1_3_0 x1_3_1 z1_3_0 z1_3_1
      go_wp2
      refine bodyPost_ret (v := .tuple #[.agg #[.int .i64 0, .string ⟨#[]⟩], .bool false]) (results_cell_tmp Try.results11 _ _ (w.heap.size + 3) 35 #[.int .i64 0, .string ⟨#[]⟩] (0, 0) _ rfl (by refine Eq.trans (blk_set (cs := #[.int .i64 0, .string ⟨#[]⟩]) (t := 35) (fr := (0, 0)) ?_) rfl; refine Eq.trans (blk_set (cs := #[.int .i64 0, .string ⟨#[]⟩]) (t := 35) (fr := (0, 0)) ?_) rfl; exact HK2.out) Try.underlying35 rfl (by kernel_rfl)) rfl ⟨FR.out _ _ fin.out rfl, (by repeat (first | (with_reducible exact HB2.out) | (with_reducible apply Below.drew) | (refine Below.setCell ?_ (by simp <;> omega) _) | (refine Below.alloc ?_ (by simp <;> omega) _)))⟩
end Go.Proofs.Ytbaibioifmbchaa
