/-
  The least heights of symbols, as the program reckons them.
-/
import Derived.Test.YtakajfhkgjhnpaaHts
import Derived.Test.YtakajfhkgjhnpaaMapF
import Derived.Test.YtakajfhkgjhnpaaGrow
import Derived.Test.YtakajfhkgjhnpaaGInv
import Derived.Test.YtakajfhkgjhnpaaFreeA
import Derived.Maps.AppendAt
import Derived.Laws.EntriesVeiled
namespace Go.Proofs.Ytakajfhkgjhnpaa
open Go.ChangeShapes Go.WideShapes Go.ChangeAt Go.RowKit Go.Deep

theorem zero_intH (w : World) : (zeroValue 3).run Try.prog w = .ok (.int .i64 0) w := by kernel_rfl
theorem mapSI : MapK Try.prog 42 9 3 okMS embS okMI valI litI 0 := mapK_SI Try.underlying42 Try.underlying9 Try.underlying3 zero_intH
theorem info_strH : (Try.prog.info? 9).map (fun i => (i.zero, i.size, i.bytes)) = some (some (.string ⟨#[]⟩), 1, 16) := by kernel_rfl
def vSt (s : ByteArray) : List Value := [.string s]
theorem vSt_len (s : ByteArray) : (vSt s).length = 1 := rfl
theorem vSt_ct (s : ByteArray) (c : Nat) (h : c < 1) : ictS s c = .lit ((vSt s).getD c .nilFunc) := match c, h with | 0, _ => rfl
theorem own_later {w w' : World} {base : Nat} {e : TypeId} {size : Nat} {v : Value} {n : Nat} {xs : List Value} (h : w.ownsRow base e size v n xs) (hb : Below w.heap.size w w') : w'.ownsRow base e size v n xs :=
  h.kept (row := none) ⟨hb.os, hb.tape, hb.output, hb.size, fun k hk _ => hb.block k hk⟩ (by cases v.ownBlock <;> simp)
theorem idx_anyV {α : Type} [Inhabited α] (p : α → Bool) (l : List α) : decide (0 ≤ idxI p l) = l.any p := by
  unfold idxI
  cases h : l.findIdx? p with
  | none =>
    rw [List.findIdx?_eq_none_iff] at h
    have : l.any p = false := by rw [List.any_eq_false]; intro a ha; simp [h a ha]
    rw [this]; rfl
  | some k =>
    rw [List.findIdx?_eq_some_iff_getElem] at h
    obtain ⟨h1, h2, _⟩ := h
    have : l.any p = true := List.any_eq_true.2 ⟨l[k], List.getElem_mem _, h2⟩
    rw [this]; simp
theorem all_anyV {α : Type} (p : α → Bool) (l : List α) : (!(l.any fun x => !p x)) = l.all p := by
  induction l with
  | nil => rfl
  | cons a l ih => rw [List.any_cons, List.all_cons, ← ih, Bool.not_or, Bool.not_not]

set_option maxHeartbeats 1600000 in
set_option maxRecDepth 100000 in
theorem impl_hasHeight (h : ByteArray → Int) (bm n bp : Nat) (s : ByteArray) (hss : s.size ≤ 1048576) (w : World) (hm : MapF Try.prog 9 3 okMS embS litI 0 w (bm) (n) (h)) (hc : w.cell? ⟨bp, 0, none⟩ = some (.map (some bm))) (b : Bool) (hb : decide (0 < h s) = b) :
    Calls Try.prog 40 #[.string s, .pointer (some ⟨bp, 0, none⟩)] w fun e w' => e = .returned (.bool b) ∧ Below w.heap.size w w' := by
  have hrun : (Instr.lookup 42 (.map (some bm)) (.string s) false).run Try.prog w = .ok (.int .i64 (h s)) w := hm.look mapSI (x := s) (show okMS s from by unfold okMS maxLen; omega)
  have HB := Lib.hid (Below.refl w.heap.size w)
  have hd : decide (h s > 0) = b := hb
  clear hm hb
  generalize h s = z at *
  cases b
  · have hz : ¬ (0 < z) := of_decide_eq_false hd
    clear hd
    go_enter Try.func40, Try.ntmps40
    go_wp2
    go_ret
    exact ⟨rfl, HB.out⟩
  · have hz : 0 < z := of_decide_eq_true hd
    clear hd
    go_enter Try.func40, Try.ntmps40
    go_wp2
    go_ret
    exact ⟨rfl, HB.out⟩

set_option maxHeartbeats 3200000 in
set_option maxRecDepth 100000 in
theorem not_pos (s : ByteArray) (q : Nat)  (v : Bool) (q1 : Nat) (w : World) (hq : w.cell? ⟨q1, 0, none⟩ = some (.func (.func 40) #[] #[.pointer (some ⟨q, 0, none⟩)])) (_ : q1 < w.heap.size)
    (hc : ∀ W, Below w.heap.size w W → Calls Try.prog 40 #[.string s, .pointer (some ⟨q, 0, none⟩)] W fun e W' => e = .returned (.bool v) ∧ Below W.heap.size W W') :
    Calls Try.prog 52 #[.string s, .pointer (some ⟨q1, 0, none⟩)] w fun e w' => e = .returned (.bool (!v)) ∧ Below w.heap.size w w' := by
  have HB := Lib.hid (Below.refl w.heap.size w)
  have HC := Lib.hid (hc _ HB.out)
  clear hc
  go_enter Try.func52, Try.ntmps52
  go_wp2_with fail
  refine HC.out.mono ?_
  rintro e w1 ⟨rfl, hb1⟩
  have HB1 := Lib.hid (HB.out.trans (hb1.mono HB.out.size))
  clear hb1
  go_wp2
  go_ret
  exact ⟨rfl, HB1.out⟩

set_option maxHeartbeats 3200000 in
set_option maxRecDepth 100000 in
theorem index_pos {hi c : Nat} {a : Option Addr} (q : ByteArray → Bool) (q1 : Nat) (l : List ByteArray) (hl : l.length ≤ 1048577) (w : World) (hhi : hi ≤ w.heap.size) (hs : Sl 0 hi w 1 l.length (fun k => ictS (l.getD k default)) a) (HP : ∀ k, k < l.length → ∀ (W : World), Below w.heap.size w W → Calls Try.prog 52 #[.string (l.getD k default), .pointer (some ⟨q1, 0, none⟩)] W fun e W' => e = .returned (.bool (q (l.getD k default))) ∧ Below W.heap.size W W') :
    Calls Try.prog 60 #[.slice a l.length c, .func (.func 52) #[] #[.pointer (some ⟨q1, 0, none⟩)]] w fun e w' => e = .returned (.int .i64 (idxI q l)) ∧ Below w.heap.size w w' := by
  have HS := Lib.hid hs
  have HPX := Lib.hid HP
  clear hs HP
  go_enter Try.func60, Try.ntmps60
  go_wp2
  go_loopw [8] (fun i wr => ∃ k : Nat, k ≤ l.length ∧ i = .int .i64 (k : Int) ∧ noneBelow q l k ∧ Below w.heap.size w wr) (fun i _ => l.length - (intOf i).toNat)
  case atStart => exact ⟨0, Nat.zero_le _, rfl, noneBelow_zero _ _, Below.refl _ _⟩
  case round =>
    obtain ⟨k, hk, rfl, hno, hbl⟩ := hrel
    have HBL := Lib.hid hbl
    have HNO := Lib.hid hno
    clear hno
    by_cases hlt : k < l.length
    · obtain ⟨b, off, rfl, _, _, hc⟩ := (HS.out.later (hbl.mono hhi) (Nat.le_refl _)).at k hlt
      obtain ⟨u, hu, hl⟩ := hc 0 (by decide)
      obtain rfl := lies_lit hl
      rw [Nat.mul_one, Nat.add_zero] at hu
      have HC := Lib.hid (HPX.out k hlt wr hbl)
      clear hc hl
      clear hbl
      cases hr : q (l.getD k default)
      · have HPS := Lib.hid (noneBelow_succ HNO.out hr)
        rw [hr] at HC
        clear hr
        generalize l.getD k default = x at *
        go_wp2_with fail
        refine HC.out.mono ?_
        rintro e w1 ⟨rfl, hb1⟩
        have HB1 := Lib.hid (HBL.out.trans (hb1.mono HBL.out.size))
        clear hb1
        go_wp2
        go_roundw
        case rel => exact ⟨k + 1, by omega, by go_num, HPS.out, HB1.out⟩
        case measure => simp [intOf]; omega
      · have FIN := Lib.hid (idxI_at hlt hr HNO.out)
        rw [hr] at HC
        clear hr
        generalize l.getD k default = x at *
        go_wp2_with fail
        refine HC.out.mono ?_
        rintro e w1 ⟨rfl, hb1⟩
        have HB1 := Lib.hid (HBL.out.trans (hb1.mono HBL.out.size))
        clear hb1
        go_wp2
        go_ret
        exact ⟨ret_i FIN.out.symm, HB1.out⟩
    · obtain rfl : k = l.length := by omega
      have FIN := Lib.hid (idxI_none HNO.out)
      go_wp2
      go_ret
      exact ⟨ret_i FIN.out.symm, HBL.out⟩

set_option maxHeartbeats 3200000 in
set_option maxRecDepth 100000 in
theorem contains_pos {hi c : Nat} {a : Option Addr} (q : ByteArray → Bool) (q1 : Nat) (l : List ByteArray) (hl : l.length ≤ 1048577) (w : World) (hhi : hi ≤ w.heap.size) (hs : Sl 0 hi w 1 l.length (fun k => ictS (l.getD k default)) a) (HP : ∀ k, k < l.length → ∀ (W : World), Below w.heap.size w W → Calls Try.prog 52 #[.string (l.getD k default), .pointer (some ⟨q1, 0, none⟩)] W fun e W' => e = .returned (.bool (q (l.getD k default))) ∧ Below W.heap.size W W') :
    Calls Try.prog 51 #[.slice a l.length c, .func (.func 52) #[] #[.pointer (some ⟨q1, 0, none⟩)]] w fun e w' => e = .returned (.bool (l.any q)) ∧ Below w.heap.size w w' := by
  have HI := Lib.hid (index_pos (c := c) q q1 l hl w hhi hs HP)
  have HD := Lib.hid (idx_anyV q l)
  clear hs HP
  generalize idxI q l = z at *
  generalize l.any q = r at *
  generalize l.length = n at *
  go_enter Try.func51, Try.ntmps51
  go_wp2_with fail
  refine HI.out.mono ?_
  rintro e w1 ⟨rfl, hb1⟩
  go_wp2
  go_ret
  exact ⟨ret_b HD.out, hb1⟩

set_option maxHeartbeats 3200000 in
set_option maxRecDepth 100000 in
theorem allValid_pos {hi c : Nat} {a : Option Addr} (p : ByteArray → Bool) (q : Nat)  (l : List ByteArray) (hl : l.length ≤ 1048577) (w : World) (hhi : hi ≤ w.heap.size) (hs : Sl 0 hi w 1 l.length (fun k => ictS (l.getD k default)) a) (HP : ∀ k, k < l.length → ∀ (W : World), Below w.heap.size w W → Calls Try.prog 40 #[.string (l.getD k default), .pointer (some ⟨q, 0, none⟩)] W fun e W' => e = .returned (.bool (p (l.getD k default))) ∧ Below W.heap.size W W') :
    Calls Try.prog 39 #[.slice a l.length c, .func (.func 40) #[] #[.pointer (some ⟨q, 0, none⟩)]] w fun e w' => e = .returned (.bool (l.all p)) ∧ Below w.heap.size w w' := by
  have HB := Lib.hid ((Below.refl w.heap.size w).alloc (Nat.le_refl _) (.cells #[.func (.func 40) #[] #[.pointer (some ⟨q, 0, none⟩)]] 81))
  have HD := Lib.hid (all_anyV p l)
  have HI := Lib.hid (contains_pos (c := c) (fun x => !p x) w.heap.size l hl (w.alloc (.cells #[.func (.func 40) #[] #[.pointer (some ⟨q, 0, none⟩)]] 81)) (Nat.le_trans hhi HB.out.size) (hs.later HB.out hhi) (fun k hk  W hW  => not_pos _ q  _ _ W ((hW.cell (p := ⟨w.heap.size, 0, none⟩) (by simp)).trans (by go_simp)) (Nat.lt_of_lt_of_le (by simp) hW.size) (fun W2 hW2 => HP k hk  W2 (HB.out.trans ((hW.trans (hW2.mono hW.size)).mono HB.out.size)) )))
  clear hs HP
  generalize l.all p = r at *
  generalize (l.any fun x => !p x) = z at *
  generalize l.length = n at *
  go_enter Try.func39, Try.ntmps39
  go_wp2_with fail
  refine HI.out.mono ?_
  rintro e w1 ⟨rfl, hb1⟩
  have HB1 := Lib.hid (HB.out.trans (hb1.mono HB.out.size))
  clear hb1
  go_wp2
  go_ret
  exact ⟨ret_b HD.out, HB1.out⟩

set_option maxHeartbeats 12800000 in
set_option maxRecDepth 100000 in
theorem impl_newlyProductive {lo hi : Nat} {a0 a1 : Option Addr} {c0_0 c0_1 : Nat} (g : DGrammar) (hszg : g.sz ≤ 1048576) (h : ByteArray → Int) (bm n : Nat) (w : World) (hhi : hi ≤ w.heap.size) (hs0 : Sl lo hi w 2 g.fSymbols.length (fun k => DSymbol.ct (g.fSymbols.getD k default)) a0) (hs1 : Sl lo hi w 6 g.fRules.length (fun k => DRule.ct (g.fRules.getD k default)) a1) (hm : MapF Try.prog 9 3 okMS embS litI 0 w (bm) (n) (h)) :
    Calls Try.prog 26 #[.agg #[.slice a0 g.fSymbols.length c0_0, .slice a1 g.fRules.length c0_1], .map (some bm)] w fun e w' => ∃ a c, e = .returned (.slice a (newl g h g.fRules).length c) ∧ Own w' (fun z => w.heap.size ≤ z ∧ z < w'.heap.size) (.sl 1 (newl g h g.fRules).length (fun k => ictS ((newl g h g.fRules).getD k default))) (.slice a (newl g h g.fRules).length c) ∧ Below w.heap.size w w' := by
  have hzs : lsz DSymbol.sz g.fSymbols ≤ 1048576 := by unfold DGrammar.sz at hszg; omega
  have hzr : lsz DRule.sz g.fRules ≤ 1048576 := by unfold DGrammar.sz at hszg; omega
  have hnr : g.fRules.length ≤ 1048576 := by unfold lsz at hzr; omega
  have HB := Lib.hid (((Below.refl w.heap.size w).alloc (Nat.le_refl _) (.cells #[.slice a0 g.fSymbols.length c0_0, .slice a1 g.fRules.length c0_1] 31)).alloc (by simp) (.cells #[.map (some bm)] 42))
  have hbm : bm < w.heap.size := hm.lt
  have HM := Lib.hid hm
  have HS0 := Lib.hid (hs0.later HB.out hhi)
  have HS1 := Lib.hid (hs1.later HB.out hhi)
  have HHI := Lib.hid hhi
  have HZS := Lib.hid hzs
  have HZR := Lib.hid hzr
  have HGO := Lib.hid (fun (w' : World) (v : Value) (K : List ByteArray) (h : w'.ownsRow (w.heap.size + 2) 9 1 v (K).length ((K).flatMap vSt)) => grown_own (ct := ictS) (by decide) vSt_len vSt_ct h)
  have HCG := Lib.hid (show ((w.alloc (.cells #[.slice a0 g.fSymbols.length c0_0, .slice a1 g.fRules.length c0_1] 31)).alloc (.cells #[.map (some bm)] 42)).heap[w.heap.size]? = some (.cells #[.slice a0 g.fSymbols.length c0_0, .slice a1 g.fRules.length c0_1] 31) from blk_alloc (by simp) (blk_new rfl))
  have HCM := Lib.hid (show ((w.alloc (.cells #[.slice a0 g.fSymbols.length c0_0, .slice a1 g.fRules.length c0_1] 31)).alloc (.cells #[.map (some bm)] 42)).heap[w.heap.size + 1]? = some (.cells #[.map (some bm)] 42) from blk_new (by simp))
  have HZ0 := Lib.hid (show ((w.alloc (.cells #[.slice a0 g.fSymbols.length c0_0, .slice a1 g.fRules.length c0_1] 31)).alloc (.cells #[.map (some bm)] 42)).heap.size = w.heap.size + 2 by simp)
  obtain ⟨i0, hi', hz0, hz1, hz2⟩ := info_parts info_strH
  clear hs0 hs1 hhi hszg hzs hzr hm
  go_enter Try.func26, Try.ntmps26
  go_wp2
  go_loopw [5, 13] (fun v i wr => ∃ j : Nat, j ≤ g.fRules.length ∧ i = .int .i64 (j : Int) ∧ wr.ownsRow (w.heap.size + 2) 9 1 v (newl g h (g.fRules.take j)).length ((newl g h (g.fRules.take j)).flatMap vSt) ∧ Below (w.heap.size + 2) ((w.alloc (.cells #[.slice a0 g.fSymbols.length c0_0, .slice a1 g.fRules.length c0_1] 31)).alloc (.cells #[.map (some bm)] 42)) wr) (fun _ i _ => g.fRules.length - (intOf i).toNat)
  case atStart => exact ⟨0, Nat.zero_le _, rfl, grown_nil, Below.refl _ _⟩
  case round =>
    obtain ⟨j, hj, rfl, hown, hbl⟩ := hrel
    have HO := Lib.hid hown
    have HBL := Lib.hid hbl
    have hsz1 : w.heap.size + 2 ≤ wr.heap.size := by have := hbl.size; rw [HZ0.out] at this; exact this
    have hk0 : w.heap.size < wr.heap.size := by omega
    have hk1 : w.heap.size + 1 < wr.heap.size := by omega
    have g0 : wr.cell? ⟨w.heap.size, 0, none⟩ = some (.slice a0 g.fSymbols.length c0_0) := pblk_cell (j := 0) (v := .slice a0 g.fSymbols.length c0_0) ((hbl.block w.heap.size (by omega)).trans HCG.out) rfl
    have g1 : wr.cell? ⟨w.heap.size, 1, none⟩ = some (.slice a1 g.fRules.length c0_1) := pblk_cell (j := 1) (v := .slice a1 g.fRules.length c0_1) ((hbl.block w.heap.size (by omega)).trans HCG.out) rfl
    have m0 : wr.cell? ⟨w.heap.size + 1, 0, none⟩ = some (.map (some bm)) := pblk_cell (j := 0) (v := .map (some bm)) ((hbl.block (w.heap.size + 1) (by omega)).trans HCM.out) rfl
    have HMR := Lib.hid (HM.out.block (w' := wr) ((hbl.block bm (by omega)).trans (HB.out.block bm hbm)))
    have HB1 := Lib.hid (show Below w.heap.size w wr from HB.out.trans (hbl.mono (by omega)))
    have hlen : (newl g h (g.fRules.take j)).length ≤ 1048576 := by have h1 := newl_len g h (g.fRules.take j); rw [List.length_take] at h1; omega
    clear hown hbl
    by_cases hlt : j < g.fRules.length
    · obtain ⟨b, off, rfl, _, hbh, hc⟩ := (HS1.out.later (HBL.out.mono (by omega)) HHI.out).at j hlt
      obtain ⟨a2, c2, a4, c4, a5, c5, hc0, hc1, hc2, hc3, hc4, hc5, hR, _, _⟩ := DRule.open hc
      have hbw : b < wr.heap.size := by have := HHI.out; omega
      have hjI : (0 : Int) ≤ (j : Int) ∧ (j : Int) < (g.fRules.length : Int) := by omega
      have HST := Lib.hid (show newl g h (g.fRules.take (j + 1)) = newl g h (g.fRules.take j) ++ newOf g h (g.fRules.getD j default) from by rw [take_snoc hlt, newl_snoc])
      have HRZ := Lib.hid (Nat.le_trans (szle_at (f := DRule.sz) g.fRules j hlt) HZR.out)
      have HRR := Lib.hid (hR.mono (Nat.zero_le _) HHI.out)
      clear hc hR
      generalize newl g h (g.fRules.take j) = K at *
      generalize g.fRules.getD j default = y at *
      have HLZ := Lib.hid (show y.fLeft.size ≤ 1048576 by have h1 := HRZ.out; unfold DRule.sz at h1; omega)
      have HRL := Lib.hid (show y.fRight.length ≤ 1048576 by have h1 := HRZ.out; unfold DRule.sz lsz at h1; omega)
      have HRS := Lib.hid (fun k (hk : k < y.fRight.length) => (show (y.fRight.getD k default).size ≤ 1048576 by
        have h1 := HRZ.out
        have h2 : lsz ByteArray.size y.fRight ≤ 1048576 := by unfold DRule.sz at h1; omega
        have h3 := szle_at (f := ByteArray.size) y.fRight k hk
        omega))
      have HY := Lib.hid (fun h1 h2 h3 => newOf_yes (g := g) (h := h) (r := y) h1 h2 h3)
      have HN1 := Lib.hid (fun h1 => newOf_no1 (g := g) (h := h) (r := y) h1)
      have HN2 := Lib.hid (fun h1 => newOf_no2 (g := g) (h := h) (r := y) h1)
      have HN3 := Lib.hid (fun h1 => newOf_no3 (g := g) (h := h) (r := y) h1)
      clear HRZ
      go_wp2_with fail
      refine (impl_symbolNamed (c0 := c0_0) (c1 := c0_1) (a1 := some ⟨b, off, none⟩) (n1 := g.fRules.length) g.fSymbols HZS.out y.fLeft _ (Nat.le_trans (Nat.le_trans HHI.out (by omega)) (Below.size (show Below wr.heap.size wr _ from (by repeat (first | (with_reducible exact Below.refl _ _) | (with_reducible apply Below.drew) | (with_reducible refine below_drewN ?_ _) | (refine Below.setCell ?_ (by first | omega | (simp <;> omega)) _) | (refine Below.alloc ?_ (by first | omega | (simp <;> omega)) _)))))) (HS0.out.later (HBL.out.mono (by omega) |>.trans ((show Below wr.heap.size wr _ from (by repeat (first | (with_reducible exact Below.refl _ _) | (with_reducible apply Below.drew) | (with_reducible refine below_drewN ?_ _) | (refine Below.setCell ?_ (by first | omega | (simp <;> omega)) _) | (refine Below.alloc ?_ (by first | omega | (simp <;> omega)) _)))).mono (by omega))) HHI.out)).mono ?_
      rintro e w1 ⟨⟨a9, c9, rfl, -⟩, hb0⟩
      have hb1 : Below wr.heap.size wr w1 := (show Below wr.heap.size wr _ from (by repeat (first | (with_reducible exact Below.refl _ _) | (with_reducible apply Below.drew) | (with_reducible refine below_drewN ?_ _) | (refine Below.setCell ?_ (by first | omega | (simp <;> omega)) _) | (refine Below.alloc ?_ (by first | omega | (simp <;> omega)) _)))).trans (hb0.mono (Below.size (show Below wr.heap.size wr _ from (by repeat (first | (with_reducible exact Below.refl _ _) | (with_reducible apply Below.drew) | (with_reducible refine below_drewN ?_ _) | (refine Below.setCell ?_ (by first | omega | (simp <;> omega)) _) | (refine Below.alloc ?_ (by first | omega | (simp <;> omega)) _))))))
      have hsr : wr.heap.size < w1.heap.size := Nat.lt_of_lt_of_le (by first | (simp; done) | (simp [World.setCell]; done)) hb0.size
      have r0 : w1.cell? ⟨wr.heap.size, 0, none⟩ = some (.string y.fName) := (hb0.cell (p := ⟨wr.heap.size, 0, none⟩) (by first | (simp; done) | (simp [World.setCell]; done))).trans (by go_simp)
      have r1 : w1.cell? ⟨wr.heap.size, 1, none⟩ = some (.string y.fLeft) := (hb0.cell (p := ⟨wr.heap.size, 1, none⟩) (by first | (simp; done) | (simp [World.setCell]; done))).trans (by go_simp)
      have r2 : w1.cell? ⟨wr.heap.size, 2, none⟩ = some (.slice a2 y.fRight.length c2) := (hb0.cell (p := ⟨wr.heap.size, 2, none⟩) (by first | (simp; done) | (simp [World.setCell]; done))).trans (by go_simp)
      have r3 : w1.cell? ⟨wr.heap.size, 3, none⟩ = some (.bool y.fLiteral) := (hb0.cell (p := ⟨wr.heap.size, 3, none⟩) (by first | (simp; done) | (simp [World.setCell]; done))).trans (by go_simp)
      have r4 : w1.cell? ⟨wr.heap.size, 4, none⟩ = some (.slice a4 y.fEquations.length c4) := (hb0.cell (p := ⟨wr.heap.size, 4, none⟩) (by first | (simp; done) | (simp [World.setCell]; done))).trans (by go_simp)
      have r5 : w1.cell? ⟨wr.heap.size, 5, none⟩ = some (.slice a5 y.fContributions.length c5) := (hb0.cell (p := ⟨wr.heap.size, 5, none⟩) (by first | (simp; done) | (simp [World.setCell]; done))).trans (by go_simp)
      have m1 : w1.cell? ⟨w.heap.size + 1, 0, none⟩ = some (.map (some bm)) := (hb1.cell (p := ⟨w.heap.size + 1, 0, none⟩) hk1).trans m0
      have HM1 := Lib.hid (HMR.out.later hb1)
      have HO1 := Lib.hid (own_later HO.out hb1)
      have HBL1 := Lib.hid (HBL.out.trans (hb1.mono hsz1))
      have HR1 := Lib.hid (HRR.out.later (hb1.mono (Nat.le_of_lt hk0)) (Nat.le_refl _))
      have HLK := Lib.hid (fun (W : World) (hW : Below w1.heap.size w1 W) => (show (Instr.lookup 42 (.map (some bm)) (.string y.fLeft) false).run Try.prog W = .ok (.int .i64 (h y.fLeft)) W from (HM1.out.later hW).look mapSI (x := y.fLeft) (show okMS y.fLeft from by have := HLZ.out; unfold okMS maxLen; omega)))
      have hwm : w.heap.size + 1 < w1.heap.size := by omega
      clear hb0 hb1 g0 g1 m0 hc0 hc1 hc2 hc3 hc4 hc5 HLZ
      cases hsb : symB g.fSymbols y.fLeft
      · have HE := Lib.hid (HN1.out hsb)
        clear hsb HY HN1 HN2 HN3 HLK HRS
        go_wp2
        go_roundw
        case rel =>
          refine ⟨j + 1, by omega, by go_num, ?_, ?_⟩
          · rw [HST.out, HE.out, List.append_nil]; exact own_later HO1.out (by repeat (first | (with_reducible exact Below.refl _ _) | (with_reducible apply Below.drew) | (with_reducible refine below_drewN ?_ _) | (refine Below.setCell ?_ (by first | omega | (simp <;> omega)) _) | (refine Below.alloc ?_ (by first | omega | (simp <;> omega)) _)))
          · exact HBL1.out.trans ((show Below w1.heap.size w1 _ from (by repeat (first | (with_reducible exact Below.refl _ _) | (with_reducible apply Below.drew) | (with_reducible refine below_drewN ?_ _) | (refine Below.setCell ?_ (by first | omega | (simp <;> omega)) _) | (refine Below.alloc ?_ (by first | omega | (simp <;> omega)) _)))).mono (by omega))
        case measure => simp [intOf]; omega
      · by_cases hz : h y.fLeft = 0
        · have hlk := HLK.out (w1.alloc (.cells #[.string (symS g.fSymbols y.fLeft).fName, .slice a9 (symS g.fSymbols y.fLeft).fAttributes.length c9] 58)) (by repeat (first | (with_reducible exact Below.refl _ _) | (with_reducible apply Below.drew) | (with_reducible refine below_drewN ?_ _) | (refine Below.setCell ?_ (by first | omega | (simp <;> omega)) _) | (refine Below.alloc ?_ (by first | omega | (simp <;> omega)) _)))
          rw [hz] at hlk
          have HAV := Lib.hid (fun (W : World) (hW : Below w1.heap.size w1 W) => allValid_pos (c := c2) (fun s => decide (0 < h s)) (w.heap.size + 1) y.fRight (Nat.le_trans HRL.out (by decide)) W (Nat.le_trans (show w.heap.size ≤ w1.heap.size by omega) hW.size) (HR1.out.later hW (by omega)) (fun k hk W2 hW2 => impl_hasHeight h bm n (w.heap.size + 1) _ (HRS.out k hk) W2 (HM1.out.later (hW.trans (hW2.mono hW.size))) (((hW.trans (hW2.mono hW.size)).cell (p := ⟨w.heap.size + 1, 0, none⟩) hwm).trans m1) _ rfl))
          cases hap : allPos h y.fRight
          · have HE := Lib.hid (HN3.out hap)
            have HAX := Lib.hid (show (y.fRight.all fun s => decide (0 < h s)) = false from hap)
            clear hsb HY HN1 HN2 HN3 HLK HRS hz hap
            go_wp2_with fail
            refine (HAV.out _ (by repeat (first | (with_reducible exact Below.refl _ _) | (with_reducible apply Below.drew) | (with_reducible refine below_drewN ?_ _) | (refine Below.setCell ?_ (by first | omega | (simp <;> omega)) _) | (refine Below.alloc ?_ (by first | omega | (simp <;> omega)) _)))).mono ?_
            rintro e w2 ⟨rfl, hb2⟩
            rw [HAX.out]
            have hst2 : Below w1.heap.size w1 w2 := (show Below w1.heap.size w1 _ from (by repeat (first | (with_reducible exact Below.refl _ _) | (with_reducible apply Below.drew) | (with_reducible refine below_drewN ?_ _) | (refine Below.setCell ?_ (by first | omega | (simp <;> omega)) _) | (refine Below.alloc ?_ (by first | omega | (simp <;> omega)) _)))).trans (hb2.mono (Below.size (show Below w1.heap.size w1 _ from (by repeat (first | (with_reducible exact Below.refl _ _) | (with_reducible apply Below.drew) | (with_reducible refine below_drewN ?_ _) | (refine Below.setCell ?_ (by first | omega | (simp <;> omega)) _) | (refine Below.alloc ?_ (by first | omega | (simp <;> omega)) _))))))
            have HO2 := Lib.hid (own_later HO1.out hst2)
            have HBL2 := Lib.hid (HBL1.out.trans (hst2.mono (by omega)))
            clear hb2 hst2
            go_wp2
            go_roundw
            case rel => exact ⟨j + 1, by omega, by go_num, by rw [HST.out, HE.out, List.append_nil]; exact HO2.out, HBL2.out⟩
            case measure => simp [intOf]; omega
          · have HE := Lib.hid (HY.out hsb hz hap)
            have HAX := Lib.hid (show (y.fRight.all fun s => decide (0 < h s)) = true from hap)
            clear hsb HY HN1 HN2 HN3 HLK HRS hz hap
            go_wp2_with fail
            refine (HAV.out _ (by repeat (first | (with_reducible exact Below.refl _ _) | (with_reducible apply Below.drew) | (with_reducible refine below_drewN ?_ _) | (refine Below.setCell ?_ (by first | omega | (simp <;> omega)) _) | (refine Below.alloc ?_ (by first | omega | (simp <;> omega)) _)))).mono ?_
            rintro e w2 ⟨rfl, hb2⟩
            rw [HAX.out]
            have hst2 : Below w1.heap.size w1 w2 := (show Below w1.heap.size w1 _ from (by repeat (first | (with_reducible exact Below.refl _ _) | (with_reducible apply Below.drew) | (with_reducible refine below_drewN ?_ _) | (refine Below.setCell ?_ (by first | omega | (simp <;> omega)) _) | (refine Below.alloc ?_ (by first | omega | (simp <;> omega)) _)))).trans (hb2.mono (Below.size (show Below w1.heap.size w1 _ from (by repeat (first | (with_reducible exact Below.refl _ _) | (with_reducible apply Below.drew) | (with_reducible refine below_drewN ?_ _) | (refine Below.setCell ?_ (by first | omega | (simp <;> omega)) _) | (refine Below.alloc ?_ (by first | omega | (simp <;> omega)) _))))))
            have HO2 := Lib.hid (own_later HO1.out hst2)
            have HBL2 := Lib.hid (HBL1.out.trans (hst2.mono (by omega)))
            have r1 : w2.cell? ⟨wr.heap.size, 1, none⟩ = some (.string y.fLeft) := (hst2.cell (p := ⟨wr.heap.size, 1, none⟩) hsr).trans r1
            have hsz2 := hst2.size
            have hrw : wr.heap.size < w2.heap.size := by omega
            clear hb2 hst2 r0 r2 r3 r4 r5
            go_wp2_with (at_builtin; refine wpList_append_own_at _ rfl (.tmp 38) (.tmp 41) 51 rfl (w.heap.size + 2) 9 i0 (.string ⟨#[]⟩) 1 16 Try.underlying51 hi' hz0 hz1 hz2 rfl (by decide) _ _ _ rfl (HO2.out.alloc _) ⟨w2.heap.size, 0, none⟩ 1 1 [.string y.fLeft] rfl rfl (by intro q u hu; rcases q with _ | q <;> simp at hu; subst hu; first | (go_simp; done) | exact (cell_of_row _ _ _ _ _ _ (blk_new (by simp))).trans rfl) (by intro u hu; simp at hu; subst hu; rfl) (by unfold maxLen; omega) (by omega) (by simp <;> omega) ?_; intro v' w9 hown' hgrow hnil hat)
            have R1 := Lib.hid (grown_one (l := K) (x := y.fLeft) (vals := vSt) hown' rfl)
            rw [show K ++ [y.fLeft] = newl g h (g.fRules.take (j + 1)) from by rw [HST.out, HE.out]] at R1
            have R3 := Lib.hid ((HBL2.out.alloc (by omega) _).grown hgrow (by first | omega | (simp <;> omega)) (fun g hg => (HO2.out.lt g hg).1))
            clear hown' hgrow hnil hat
            go_wp2
            go_roundw
            case rel => exact ⟨j + 1, by omega, by go_num, R1.out, R3.out⟩
            case measure => simp [intOf]; omega
        · have HE := Lib.hid (HN2.out hz)
          have hlk := HLK.out (w1.alloc (.cells #[.string (symS g.fSymbols y.fLeft).fName, .slice a9 (symS g.fSymbols y.fLeft).fAttributes.length c9] 58)) (by repeat (first | (with_reducible exact Below.refl _ _) | (with_reducible apply Below.drew) | (with_reducible refine below_drewN ?_ _) | (refine Below.setCell ?_ (by first | omega | (simp <;> omega)) _) | (refine Below.alloc ?_ (by first | omega | (simp <;> omega)) _)))
          clear hsb HY HN1 HN2 HN3 HLK HRS
          generalize h y.fLeft = z at *
          have hzd : (z == 0) = false := by simpa using hz
          clear hz
          go_wp2
          go_roundw
          case rel =>
            refine ⟨j + 1, by omega, by go_num, ?_, ?_⟩
            · rw [HST.out, HE.out, List.append_nil]; exact own_later HO1.out (by repeat (first | (with_reducible exact Below.refl _ _) | (with_reducible apply Below.drew) | (with_reducible refine below_drewN ?_ _) | (refine Below.setCell ?_ (by first | omega | (simp <;> omega)) _) | (refine Below.alloc ?_ (by first | omega | (simp <;> omega)) _)))
            · exact HBL1.out.trans ((show Below w1.heap.size w1 _ from (by repeat (first | (with_reducible exact Below.refl _ _) | (with_reducible apply Below.drew) | (with_reducible refine below_drewN ?_ _) | (refine Below.setCell ?_ (by first | omega | (simp <;> omega)) _) | (refine Below.alloc ?_ (by first | omega | (simp <;> omega)) _)))).mono (by omega))
          case measure => simp [intOf]; omega
    · obtain rfl : j = g.fRules.length := by omega
      go_wp2
      go_ret
      have ho := HO.out
      rw [List.take_length] at ho
      obtain ⟨a, c, h1, h2⟩ := HGO.out _ _ _ ho
      exact ⟨a, c, congrArg Ending.returned h1, h2.sub fun z hz => ⟨by omega, hz.2⟩, HB1.out⟩
end Go.Proofs.Ytakajfhkgjhnpaa
