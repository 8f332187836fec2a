/-
  AttributeUses of the model and of the program.
-/
import Derived.Test.YtnmepemmpeboeaaGreatZz12
import Derived.Test.YtnmepemmpeboeaaGreatZz11
import Derived.Test.YtnmepemmpeboeaaGreatZSortRow
import Derived.Test.YtnmepemmpeboeaaGreatZCmpS
import Derived.Test.YtnmepemmpeboeaaGreatZGInv
import Derived.Test.YtnmepemmpeboeaaGreatZShelfSf
namespace Go.Proofs.YtnmepemmpeboeaaGreat
open Go.ChangeShapes Go.WideShapes Go.ChangeAt Go.RowKit Go.Deep Go.Shelf Go.Sort

theorem occE_len (x : DExpr) : (occE x).length ≤ cntX x := by
  have h : ∀ N : List ENode, (N.flatMap occOf).length ≤ N.length := by
    intro N
    induction N with
    | nil => exact Nat.zero_le _
    | cons n N ih =>
      rw [List.flatMap_cons, List.length_append, List.length_cons]
      have : (occOf n).length ≤ 1 := by unfold occOf; split <;> simp
      omega
  have h1 := h (nodesX x 0)
  rw [len_nodesX] at h1
  exact h1
theorem attrUses_len {x : DExpr} (h : x.sz ≤ 1048576) : (attrUses x).length ≤ 1048577 := by
  have h1 := putAll_len (lt := ltO) (occE x) []
  have h2 := occE_len x
  have h3 := cntX_le x
  unfold attrUses
  rw [List.length_nil] at h1
  omega
theorem valsocc_ct (x : DOccurrence) (c : Nat) (h : c < 2) : x.ct c = .lit ((valsocc x).getD c .nilFunc) := match c, h with | 0, _ => rfl | 1, _ => rfl
theorem swoO : SWO (ltOf cmpO) where
  irrefl x := by show decide _ = _; rw [cmpO_lt, strictO.irrefl]
  trans x y z h1 h2 := by
    have e1 : ltO x y = true := (cmpO_lt x y).symm.trans h1
    have e2 : ltO y z = true := (cmpO_lt y z).symm.trans h2
    exact (cmpO_lt x z).trans (strictO.trans x y z e1 e2)
  ntrans x y z h1 h2 := by
    have e1 : ltO x y = false := (cmpO_lt x y).symm.trans h1
    have e2 : ltO y z = false := (cmpO_lt y z).symm.trans h2
    exact (cmpO_lt x z).trans (strictO.ge_trans e2 e1)
theorem ltOf_cmpO : ltOf cmpO = ltO := by funext x y; exact cmpO_lt x y
theorem sort_occ {B : Nat} {a : Option Addr} {cap : Nat} (zs : List DOccurrence) (hz : zs.length ≤ 1099511627776) (w : World) (hown : w.ownsRow B 68 2 (.slice a zs.length cap) zs.length (zs.flatMap valsocc)) :
    Calls Tryz.prog 69 #[.slice a zs.length cap, .func (.func 70) #[] #[]] w fun x w' => x = .returned (.tuple #[]) ∧ w'.ownsRow B 68 2 (.slice a zs.length cap) zs.length ((zs.mergeSort fun x y => !ltO y x).flatMap valsocc) ∧ ∀ b0, (∀ g, a = some ⟨g, 0, none⟩ → b0 ≤ g) → b0 ≤ w.heap.size → Below b0 w w' := by
  have h := sortfunc_row Tryz.sortOcc 2 (fun W => by kernel_rfl) (fun W => by kernel_rfl) valsocc valsocc_len (fun x u hu => by simp only [valsocc, List.mem_cons, List.not_mem_nil, or_false] at hu; rcases hu with rfl | rfl <;> rfl) cmpO swoO (fun x y h1 h2 => strictO.total x y ((cmpO_lt x y).symm.trans h1) ((cmpO_lt y x).symm.trans h2)) 70 #[] (enters_of Tryz.func70 (by kernel_rfl) rfl) (fun blk size W m os dk _ x y => compareOcc x y _) B cap 68 a zs w hz hown
  rw [ltOf_cmpO] at h
  exact h

set_option maxHeartbeats 6400000 in
set_option maxRecDepth 100000 in
theorem spec_AttrUsesL {lo hi c0_0 : Nat} {a6 : Option Addr} (x : DExpr) (hsz : x.sz ≤ 1048576) (w : World) (hhi : hi ≤ w.heap.size) (hs6 : Sl lo hi w 7 x.fArgs.length (ctE x.fArgs) a6) :
    Calls Tryz.prog 25 #[.agg #[.int .i64 x.fKind, .int .i64 x.fN, .int .i64 x.fPos, .int .i64 x.fType, .string x.fSymbol, .string x.fName, .slice a6 x.fArgs.length c0_0]] w fun e w' => ∃ a c, e = .returned (.slice a (attrUses x).length c) ∧ Own w' (fun z => w.heap.size ≤ z ∧ z < w'.heap.size) (.sl 2 (attrUses x).length (fun k => DOccurrence.ct ((attrUses x).getD k default))) (.slice a (attrUses x).length c) ∧ Below w.heap.size w w' := by
  have hl := occE_len x
  have hcl := cntX_le x
  have HB := Lib.hid (((Below.refl w.heap.size w).alloc (Nat.le_refl _) (.cells #[.int .i64 x.fKind, .int .i64 x.fN, .int .i64 x.fPos, .int .i64 x.fType, .string x.fSymbol, .string x.fName, .slice a6 x.fArgs.length c0_0] 64)).alloc (by simp) (.cells #[] 68))
  have HO : ((w.alloc (.cells #[.int .i64 x.fKind, .int .i64 x.fN, .int .i64 x.fPos, .int .i64 x.fType, .string x.fSymbol, .string x.fName, .slice a6 x.fArgs.length c0_0] 64)).alloc (.cells #[] 68)).ownsRow (w.heap.size + 1) 68 2 (.slice (some ⟨w.heap.size + 1, 0, none⟩) 0 0) ([] : List DOccurrence).length (([] : List DOccurrence).flatMap valsocc) := by
    have h := grown_made (w := w.alloc (.cells #[.int .i64 x.fKind, .int .i64 x.fN, .int .i64 x.fPos, .int .i64 x.fType, .string x.fSymbol, .string x.fName, .slice a6 x.fArgs.length c0_0] 64)) (e := 68) (n := 2) (vals := valsocc)
    rw [show (w.alloc (.cells #[.int .i64 x.fKind, .int .i64 x.fN, .int .i64 x.fPos, .int .i64 x.fType, .string x.fSymbol, .string x.fName, .slice a6 x.fArgs.length c0_0] 64)).heap.size = w.heap.size + 1 by simp] at h
    exact h
  have HC := Lib.hid (spec_l4Uses x (lo := lo) (hi := hi) (B := w.heap.size + 1) (g := w.heap.size + 1) (c6 := c0_0) (c := 0) (a6 := a6) hsz [] (by rw [List.length_nil]; omega) ((w.alloc (.cells #[.int .i64 x.fKind, .int .i64 x.fN, .int .i64 x.fPos, .int .i64 x.fType, .string x.fSymbol, .string x.fName, .slice a6 x.fArgs.length c0_0] 64)).alloc (.cells #[] 68)) (Nat.le_trans hhi HB.out.size) (hs6.later HB.out hhi) HO)
  have HGO := Lib.hid (fun (w' : World) (v : Value) (K : List DOccurrence) (h : w'.ownsRow (w.heap.size + 1) 68 2 v (K).length ((K).flatMap valsocc)) => grown_own (ct := DOccurrence.ct) (by decide) valsocc_len valsocc_ct h)
  have HRS := Lib.hid (show attrUses x = putAll ltO [] (occE x) from rfl)
  clear hsz hhi hs6 HO hl hcl
  generalize attrUses x = R at *
  generalize putAll ltO [] (occE x) = R2 at *
  obtain rfl := HRS.out
  go_enter Tryz.func25, Tryz.ntmps25
  go_wp2_with fail
  refine HC.out.mono ?_
  rintro e w1 ⟨g', c', rfl, ho, hb⟩
  have HO1 := Lib.hid ho
  have HBN := Lib.hid (HB.out.trans (hb.mono HB.out.size))
  clear ho hb HC
  go_wp2
  go_ret
  obtain ⟨a, c, h1, h2⟩ := HGO.out _ _ _ HO1.out
  exact ⟨a, c, congrArg Ending.returned h1, h2.sub fun z hz => ⟨by omega, hz.2⟩, HBN.out⟩

theorem info_Occ8 : (Tryz.prog.info? 68).map (fun i => (i.zero, i.size, i.bytes)) = some (some (.agg #[.int .i64 0, .string ⟨#[]⟩]), 2, 24) := by kernel_rfl
theorem occN_yes {N : List ENode} {k : Nat} (hk : k < N.length) (h : (N.getD k default).fKind = 3) : (N.take (k + 1)).flatMap occOf = (N.take k).flatMap occOf ++ [⟨(N.getD k default).fPos, (N.getD k default).fName⟩] := by
  rw [List.take_succ_eq_append_getElem hk, List.flatMap_append, List.flatMap_singleton]
  rw [List.getD_eq_getElem?_getD, List.getElem?_eq_getElem hk, Option.getD_some] at *
  unfold occOf
  rw [if_pos h]
theorem occN_no {N : List ENode} {k : Nat} (hk : k < N.length) (h : (N.getD k default).fKind ≠ 3) : (N.take (k + 1)).flatMap occOf = (N.take k).flatMap occOf := by
  rw [List.take_succ_eq_append_getElem hk, List.flatMap_append, List.flatMap_singleton]
  rw [List.getD_eq_getElem?_getD, List.getElem?_eq_getElem hk, Option.getD_some] at h
  unfold occOf
  rw [if_neg h, List.append_nil]
theorem occN_len : ∀ N : List ENode, (N.flatMap occOf).length ≤ N.length
  | [] => Nat.zero_le _
  | n :: N => by
    have ih := occN_len N
    rw [List.flatMap_cons, List.length_append, List.length_cons]
    have : (occOf n).length ≤ 1 := by unfold occOf; split <;> simp
    omega

set_option maxHeartbeats 12800000 in
set_option maxRecDepth 100000 in
theorem impl_AttrUsesL {lo hi c0_0 : Nat} {a6 : Option Addr} (x : DExpr) (hsz : x.sz ≤ 1048576) (w : World) (hhi : hi ≤ w.heap.size) (hs6 : Sf lo hi w 7 x.fArgs.length (ctE x.fArgs) a6) :
    Calls Tryz.prog 36 #[.agg #[.int .i64 x.fKind, .int .i64 x.fN, .int .i64 x.fPos, .int .i64 x.fType, .string x.fSymbol, .string x.fName, .slice a6 x.fArgs.length c0_0]] w fun e w' => ∃ a c, e = .returned (.slice a (attrUses x).length c) ∧ Own w' (fun z => w.heap.size ≤ z ∧ z < w'.heap.size) (.sl 2 (attrUses x).length (fun k => DOccurrence.ct ((attrUses x).getD k default))) (.slice a (attrUses x).length c) ∧ Below w.heap.size w w' := by
  have hbox : Below w.heap.size w (w.alloc (.cells #[.int .i64 x.fKind, .int .i64 x.fN, .int .i64 x.fPos, .int .i64 x.fType, .string x.fSymbol, .string x.fName, .slice a6 x.fArgs.length c0_0] 64)) := (Below.refl _ _).alloc (Nat.le_refl _) _
  have HC := Lib.hid (impl_allNodesOf (c6 := c0_0) x hsz (w.alloc (.cells #[.int .i64 x.fKind, .int .i64 x.fN, .int .i64 x.fPos, .int .i64 x.fType, .string x.fSymbol, .string x.fName, .slice a6 x.fArgs.length c0_0] 64)) (Nat.le_trans hhi hbox.size) ((hs6.mono (Nat.zero_le _) (Nat.le_refl _)).later hbox hhi))
  have HB := Lib.hid hbox
  have HSZ0 := Lib.hid (show (w.alloc (.cells #[.int .i64 x.fKind, .int .i64 x.fN, .int .i64 x.fPos, .int .i64 x.fType, .string x.fSymbol, .string x.fName, .slice a6 x.fArgs.length c0_0] 64)).heap.size = w.heap.size + 1 by simp)
  have hl := len_nodesX x 1
  have hcl := cntX_le x
  have hnl : (nodesX x 1).length ≤ 1048577 := by omega
  have HE := Lib.hid (show compactL ltO (((nodesX x 1).flatMap occOf).mergeSort fun x y => !ltO y x) = attrUses x by rw [occE_at, compact_sort strictO]; rfl)
  have HGO := Lib.hid (fun (w' : World) (v : Value) (K : List DOccurrence) (h : w'.ownsRow (w.heap.size + 1) 68 2 v (K).length ((K).flatMap valsocc)) => grown_own (ct := DOccurrence.ct) (by decide) valsocc_len valsocc_ct h)
  obtain ⟨i0, hi', hz0, hz1, hz2⟩ := info_parts info_Occ8
  clear hbox hs6 hl hcl
  generalize attrUses x = R at *
  generalize nodesX x 1 = N at *
  go_enter Tryz.func36, Tryz.ntmps36
  go_wp2_with fail
  refine HC.out.mono ?_
  rintro e w1 ⟨v, rfl, hown, hb1⟩
  obtain ⟨a, c, rfl⟩ := own_slice hown
  have R2 := Lib.hid (HB.out.trans (hb1.mono HB.out.size))
  have hsz1 : w.heap.size + 1 ≤ w1.heap.size := by have := hb1.size; rw [HSZ0.out] at this; exact this
  have HO := Lib.hid hown
  clear hown hb1 HC
  go_wp2
  go_loopw [3, 9] (fun v i wr => ∃ k : Nat, k ≤ N.length ∧ i = .int .i64 (k : Int) ∧ wr.ownsRow (w.heap.size + 1) 68 2 v ((N.take k).flatMap occOf).length (((N.take k).flatMap occOf).flatMap valsocc) ∧ GInv (.slice none 0 0) w1 v wr) (fun _ i _ => N.length - (intOf i).toNat)
  case atStart => exact ⟨0, Nat.zero_le _, rfl, grown_nil, GInv.start (Below.refl _ _)⟩
  case round =>
    obtain ⟨k, hk, rfl, hor, hinv⟩ := hrel
    have HOR := Lib.hid hor
    have HIR := Lib.hid hinv
    have hszr : w1.heap.size ≤ wr.heap.size := hinv.1.size
    have HBL := Lib.hid (hinv.below (B := w1.heap.size) (fun g hg => by cases hg) (Below.refl _ _) (Nat.le_refl _))
    have hlen : ((N.take k).flatMap occOf).length ≤ 1048577 := by have h1 := occN_len (N.take k); rw [List.length_take] at h1; omega
    clear hor hinv
    by_cases hlt : k < N.length
    · obtain ⟨g, c2, e2, _, _⟩ := own_some HO.out (by omega)
      simp only [Value.slice.injEq, true_and] at e2
      obtain ⟨rfl, rfl⟩ := e2
      obtain ⟨d0, d1, d2, d3, d4, d5, d6, d7⟩ := own_nodes (ownsRow_below HO.out HBL.out) hlt
      have HY := Lib.hid (fun h => occN_yes hlt h)
      have HN := Lib.hid (fun h => occN_no hlt h)
      generalize N.getD k default = nd at *
      generalize (N.take k).flatMap occOf = K at *
      by_cases hk3 : nd.fKind = 3
      · have HE3 := Lib.hid (HY.out hk3)
        rw [hk3] at d0
        clear HY HN hk3
        have hgb : w.heap.size + 1 ≤ wr.heap.size := by omega
        go_wp2_with (at_builtin; refine wpList_append_own_at _ rfl (.tmp 17) (.tmp 25) 59 rfl (w.heap.size + 1) 68 i0 (.agg #[.int .i64 0, .string ⟨#[]⟩]) 2 24 Tryz.underlying59 hi' hz0 hz1 hz2 rfl (by decide) _ _ _ rfl ((HOR.out.alloc _).alloc _) ⟨wr.heap.size + 1, 0, none⟩ 1 1 [.int .i64 nd.fPos, .string nd.fName] rfl rfl (by intro q u hu; rcases q with _ | _ | q <;> simp at hu <;> subst hu <;> first | (go_simp; done) | exact (cell_of_row _ _ _ _ _ _ (blk_new (by simp))).trans rfl) (by intro u hu; simp at hu; rcases hu with rfl | rfl <;> rfl) (by unfold maxLen; omega) (by omega) (by simp <;> omega) ?_; intro v' w9 hown' hgrow hnil hat)
        have R1 := Lib.hid (grown_one (l := K) (x := (⟨nd.fPos, nd.fName⟩ : DOccurrence)) (vals := valsocc) hown' rfl)
        rw [← HE3.out] at R1
        have R3 := Lib.hid ((HIR.out.later (show Below wr.heap.size wr _ from (by repeat (first | (with_reducible exact Below.refl _ _) | (with_reducible apply Below.drew) | (with_reducible refine below_drewN ?_ _) | (refine Below.setCell ?_ (by first | omega | (simp <;> omega)) _) | (refine Below.alloc ?_ (by first | omega | (simp <;> omega)) _))))).grow hgrow hat)
        clear hown' hgrow hnil hat
        go_wp2
        go_roundw
        case rel => exact ⟨k + 1, by omega, by go_num, R1.out, R3.out⟩
        case measure => simp [intOf]; omega
      · have HE3 := Lib.hid (HN.out hk3)
        have hd : (nd.fKind == 3) = false := beq_eq_false_iff_ne.2 hk3
        clear HY HN hk3
        go_wp2
        go_roundw
        case rel => exact ⟨k + 1, by omega, by go_num, by rw [HE3.out]; exact ownsRow_below HOR.out (by repeat (first | (with_reducible exact Below.refl _ _) | (with_reducible apply Below.drew) | (with_reducible refine below_drewN ?_ _) | (refine Below.setCell ?_ (by first | omega | (simp <;> omega)) _) | (refine Below.alloc ?_ (by first | omega | (simp <;> omega)) _))), HIR.out.later (by repeat (first | (with_reducible exact Below.refl _ _) | (with_reducible apply Below.drew) | (with_reducible refine below_drewN ?_ _) | (refine Below.setCell ?_ (by first | omega | (simp <;> omega)) _) | (refine Below.alloc ?_ (by first | omega | (simp <;> omega)) _)))⟩
        case measure => simp [intOf]; omega
    · obtain rfl : k = N.length := by omega
      rw [List.take_length] at HOR hlen
      have hor := HOR.out
      obtain ⟨a8, c8, rfl⟩ := own_slice hor
      have hbl : ∀ g, a8 = some ⟨g, 0, none⟩ → w.heap.size ≤ g := fun g hg => by have := (hor.lt g (by rw [hg]; rfl)).1; omega
      have HSO := Lib.hid (sort_occ (N.flatMap occOf) (by omega) wr hor)
      have HBW := Lib.hid (R2.out.trans (HBL.out.mono (by have := R2.out.size; omega)))
      have HHB := Lib.hid hbl
      have hwz : w.heap.size ≤ wr.heap.size := HBW.out.size
      have hml : ((N.flatMap occOf).mergeSort fun x y => !ltO y x).length = (N.flatMap occOf).length := List.length_mergeSort _
      clear hor hbl HOR
      generalize ((N.flatMap occOf).mergeSort fun x y => !ltO y x) = M at *
      rw [← hml] at HSO hlen ⊢
      clear hml
      go_wp2_with fail
      refine HSO.out.mono ?_
      rintro e w3 ⟨rfl, ho3, hb3⟩
      have HB3 := Lib.hid (HBW.out.trans ((hb3 w.heap.size HHB.out hwz).mono (Nat.le_refl _)))
      have HCO := Lib.hid (Compact_occ M (by omega) w3 ho3)
      clear ho3 hb3 HSO
      go_wp2_with fail
      refine HCO.out.mono ?_
      rintro e w4 ⟨rfl, ho4, hb4⟩
      have HB4 := Lib.hid (HB3.out.trans (hb4 w.heap.size HHB.out))
      rw [HE.out] at ho4 ⊢
      have HO4 := Lib.hid ho4
      clear ho4 hb4 HCO
      go_wp2
      go_ret
      obtain ⟨a, c, h1, h2⟩ := HGO.out _ _ _ HO4.out
      exact ⟨a, c, congrArg Ending.returned h1, h2.sub fun z hz => ⟨by omega, hz.2⟩, HB4.out⟩
end Go.Proofs.YtnmepemmpeboeaaGreat
