/-
  impl.foldExpr at int: what the stack of results computes.
-/
import Derived.Test.YtpipdlgnedhhaaaFoldB
import Derived.Test.YtpipdlgnedhhaaaRevE
import Derived.Test.YtpipdlgnedhhaaaShelfRi
namespace Go.Proofs.Ytpipdlgnedhhaaa
open Go.ChangeShapes Go.WideShapes Go.ChangeAt Go.RowKit Go.Deep
attribute [local go_sem] Oper.semAt_some

def valsint (x : Int) : List Value := [.int .i64 x]
theorem valsint_len (x : Int) : (valsint x).length = 1 := rfl
theorem valsint_one (x : Int) : ∀ u ∈ valsint x, u.oneCell' = true := by
  intro u hu
  simp only [valsint, List.mem_cons, List.not_mem_nil, or_false] at hu
  rcases hu with rfl <;> rfl
theorem info_int : (Try.prog.info? 3).map (fun i => (i.zero, i.size, i.bytes)) = some (some (.int .i64 0), 1, 8) := by kernel_rfl

/-- The results behind k rounds: in the box R and in a row of the call's own. -/
def FoldIint (comb : ENode → List (Int) → Int) (N : List ENode) (wl : World) (R : Nat) (k : Nat) (W : World) : Prop :=
  ∃ v, W.heap[R]? = some (.cells #[v] 80) ∧ W.ownsRow wl.heap.size 3 1 v (stackOf comb (N.drop (N.length - k))).length ((stackOf comb (N.drop (N.length - k))).flatMap valsint) ∧ WritesF (fun y => y = R) wl W

theorem foldIint_own {comb : ENode → List (Int) → Int} {N : List ENode} {wl : World} {R : Nat} (hR : R < wl.heap.size) : OwnFrom wl.heap.size (FoldIint comb N wl R) := by
  rintro k W W' row ⟨v, h1, hown, hwr⟩ hg hr
  refine ⟨v, (hg.block R (Array.getElem?_eq_some_iff.1 h1).1 (fun e => ?_)).trans h1, ownsRow_keptAt hown (fun g hv => hg.block g (hown.lt g hv).2 (fun e => ?_)), hg.os.trans hwr.os, hg.tape.trans hwr.tape, hg.output.trans hwr.output, Nat.le_trans hwr.size hg.size, fun b hb hn => (hg.block b (Nat.lt_of_lt_of_le hb hwr.size) (fun e => ?_)).trans (hwr.block b hb hn)⟩
  · have := (hr R e.symm).1; omega
  · obtain ⟨_, o', ho', hc'⟩ := hr g e.symm
    rcases hown.2 with ⟨rfl, _⟩ | ⟨g', cap, cur, rfl, _, hg', _⟩
    · cases hv
    · have e1 : g' = g := by simpa [Value.ownBlock] using hv
      subst e1
      rw [hg'] at ho'
      cases ho'
      cases hc'
  · have := (hr b e.symm).1; omega

set_option maxRecDepth 100000 in
set_option maxHeartbeats 1600000 in
theorem foldExpr_int {hi c6 : Nat} {a6 : Option Addr} (comb : ENode → List (Int) → Int) (q0 q1 : Nat) (x : DExpr) (hsz : x.sz ≤ 1048576) (w : World) (hhi : hi ≤ w.heap.size) (hs6 : Sf 0 hi w 7 x.fArgs.length (ctE x.fArgs) a6)
    (hcomb : ∀ (nd : ENode) (zs : List (Int)) (a : Option Addr) (c B : Nat) (W : World), nd ∈ nodesX x 1 → zs.length = nd.fArgs → zs.length ≤ 1048577 → Below w.heap.size w W → w.heap.size ≤ B → W.ownsRow B 3 1 (.slice a zs.length c) zs.length (zs.flatMap valsint) →
      Calls Try.prog 34 #[.agg #[.int .i64 nd.fKind, .int .i64 nd.fN, .int .i64 nd.fPos, .int .i64 nd.fType, .string nd.fSymbol, .string nd.fName, .int .i64 (nd.fArgs : Int), .int .i64 (nd.fDepth : Int)], .slice a zs.length c, .pointer (some ⟨q0, 0, none⟩), .pointer (some ⟨q1, 0, none⟩)] W fun e W' => e = .returned (.int .i64 (comb nd zs)) ∧ Below W.heap.size W W') :
    Calls Try.prog 33 #[.agg #[.int .i64 x.fKind, .int .i64 x.fN, .int .i64 x.fPos, .int .i64 x.fType, .string x.fSymbol, .string x.fName, .slice a6 x.fArgs.length c6], .func (.func 34) #[] #[.pointer (some ⟨q0, 0, none⟩), .pointer (some ⟨q1, 0, none⟩)]] w fun e w' => e = .returned (.int .i64 (foldX comb x 1)) ∧ Below w.heap.size w w' := by
  have hbox : Below w.heap.size w (((w.alloc (.cells #[.int .i64 x.fKind, .int .i64 x.fN, .int .i64 x.fPos, .int .i64 x.fType, .string x.fSymbol, .string x.fName, .slice a6 x.fArgs.length c6] 50)).alloc (.cells #[.func (.func 34) #[] #[.pointer (some ⟨q0, 0, none⟩), .pointer (some ⟨q1, 0, none⟩)]] 83)).alloc (.cells #[.slice none 0 0] 80)) := (((Below.refl _ w).alloc (Nat.le_refl _) _).alloc (by simp) _).alloc (by simp <;> omega) _
  have HB := Lib.hid hbox
  have HC := Lib.hid (impl_allNodesOf (c6 := c6) x hsz _ (Nat.le_trans hhi hbox.size) (hs6.later hbox hhi))
  have HF := Lib.hid (fitsX x 1 [] trivial)
  have HS := Lib.hid (stackX comb x 1 [])
  have HCB := Lib.hid hcomb
  have hl := len_nodesX x 1
  have hcl := cntX_le x
  have hnl : (nodesX x 1).length ≤ 1048577 := by omega
  have hn1 : 1 ≤ (nodesX x 1).length := by have := cntX_pos x; omega
  rw [List.append_nil] at HS HF
  clear hbox hs6 hl hcl hcomb
  generalize foldX comb x 1 = res at *
  generalize nodesX x 1 = N at *
  have HNL := Lib.hid hnl
  have HN1 := Lib.hid hn1
  obtain ⟨iq, hi', hz0, hz1, hz2⟩ := info_parts info_int
  clear hn1
  refine (callsIn_wide (n := 5)).1 ?_
  refine callsIn_of_wp_marks Try.func33 rfl trivial ?_ rfl
  simp only [Try.ntmps33, List.size_toArray, List.length_cons, List.length_nil, Nat.reduceAdd, Nat.reduceSub, Array.replicate_succ, Array.replicate_zero, List.push_toArray, List.append_toArray, List.nil_append, List.cons_append]
  gi_wp2_with (first | (refine ⟨trivial, ?_⟩; gi_at_call 59; refine (callsIn_wide.2 HC.out).mono ?_; rintro e w1 ⟨v, rfl, hown, hb1⟩; obtain ⟨na, nc, rfl⟩ := own_slice hown) | (refine ⟨trivial, ?_⟩; gi_at_call 58; refine (back_in Fence.wide 4 trivial rfl _ _ _ _).mono ?_; rintro e wx ⟨rfl, rfl⟩))
  have HW1 := Lib.hid hb1
  have hsz1 : w.heap.size + 3 ≤ w1.heap.size := by have h := hb1.size; simp at h; omega
  have HO := Lib.hid (show (w1.alloc (.cells #[.slice na N.length nc] 124)).ownsRow (w.heap.size + 3) 79 8 (.slice na N.length nc) N.length (nodeCells N) from by
    refine ownsRow_below ?_ ((Below.refl w1.heap.size w1).alloc (Nat.le_refl _) _)
    simpa using hown)
  have HBX := Lib.hid (show (w1.alloc (.cells #[.slice na N.length nc] 124)).cell? ⟨w1.heap.size, 0, none⟩ = some (.slice na N.length nc) by go_simp)
  have hblk : ∀ b o, b < w.heap.size + 3 → (((w.alloc (.cells #[.int .i64 x.fKind, .int .i64 x.fN, .int .i64 x.fPos, .int .i64 x.fType, .string x.fSymbol, .string x.fName, .slice a6 x.fArgs.length c6] 50)).alloc (.cells #[.func (.func 34) #[] #[.pointer (some ⟨q0, 0, none⟩), .pointer (some ⟨q1, 0, none⟩)]] 83)).alloc (.cells #[.slice none 0 0] 80)).heap[b]? = some o → (w1.alloc (.cells #[.slice na N.length nc] 124)).heap[b]? = some o := fun b o hb h => by
    refine blk_alloc (by omega) ((hb1.block b (by simp; omega)).trans h)
  have HRB := Lib.hid (hblk (w.heap.size + 2) (.cells #[.slice none 0 0] 80) (by omega) (blk_new (by simp)))
  have HFB := Lib.hid (hblk (w.heap.size + 1) (.cells #[.func (.func 34) #[] #[.pointer (some ⟨q0, 0, none⟩), .pointer (some ⟨q1, 0, none⟩)]] 83) (by omega) (blk_alloc (by simp) (blk_new (by simp))))
  have HB2 := Lib.hid (show Below w.heap.size w (w1.alloc (.cells #[.slice na N.length nc] 124)) from (HB.out.trans (hb1.mono (by simp <;> omega))).trans ((Below.refl w.heap.size w1).alloc (by omega) _))
  have HS2 := Lib.hid (show (w1.alloc (.cells #[.slice na N.length nc] 124)).heap.size = w1.heap.size + 1 by simp)
  clear hblk hb1 hown HC HB HW1
  generalize hw2 : w1.alloc (.cells #[.slice na N.length nc] 124) = wl at *
  clear hw2
  generalize w1.heap.size = bs at *
  have hs2 : bs < wl.heap.size := by rw [HS2.out]; exact Nat.lt_succ_self _
  have hs3 : w.heap.size + 4 ≤ wl.heap.size := by rw [HS2.out]; omega
  clear HS2
  have e1 : w.heap.size + 1 + 1 = w.heap.size + 2 := rfl

  refine wpIn_rangeFunc_on (F := Fence.wide) rfl (by omega) (gf := 74) (lb := #[.pointer (some ⟨bs, 0, none⟩)]) rfl trivial (enters_of Try.func74 (by kernel_rfl) rfl) (back_on Fence.wide 4 trivial rfl (by omega) bs nc (w.heap.size + 3) na N hnl (fun b => b < wl.heap.size ∧ b ≠ w.heap.size + 2) wl ⟨by omega, by omega⟩ ?hpg (by omega) HBX.out HO.out) KeepsAt.trans (keepsAt_b (fun b hb => hb.1)) (Below.refl _ _) (fun _ _ => rfl) (FoldIint comb N wl (w.heap.size + 2)) (foldIint_own (by omega)) ?start (fun k a' W => ∃ b, wl.heap.size ≤ b ∧ W.heap[b]? = some (.cells #[.int .i64 (N.getD (N.length - 1 - k) default).fKind, .int .i64 (N.getD (N.length - 1 - k) default).fN, .int .i64 (N.getD (N.length - 1 - k) default).fPos, .int .i64 (N.getD (N.length - 1 - k) default).fType, .string (N.getD (N.length - 1 - k) default).fSymbol, .string (N.getD (N.length - 1 - k) default).fName, .int .i64 ((N.getD (N.length - 1 - k) default).fArgs : Int), .int .i64 ((N.getD (N.length - 1 - k) default).fDepth : Int)] 79) ∧ a' = { tmps := #[.agg #[.int .i64 x.fKind, .int .i64 x.fN, .int .i64 x.fPos, .int .i64 x.fType, .string x.fSymbol, .string x.fName, .slice a6 x.fArgs.length c6], .func (.func 34) #[] #[.pointer (some ⟨q0, 0, none⟩), .pointer (some ⟨q1, 0, none⟩)], .pointer (some ⟨w.heap.size, 0, none⟩), .pointer (some ⟨w.heap.size + 1, 0, none⟩), .int .i64 0, .pointer (some ⟨w.heap.size + 1 + 1, 0, none⟩), undef, .pointer (some ⟨b, 0, none⟩), undef, undef, .agg #[.int .i64 x.fKind, .int .i64 x.fN, .int .i64 x.fPos, .int .i64 x.fType, .string x.fSymbol, .string x.fName, .slice a6 x.fArgs.length c6], .slice na N.length nc, .func (.func 74) #[] #[.pointer (some ⟨bs, 0, none⟩)], .int .i64 ((N.length - 1 - k : Nat) : Int), (N.getD (N.length - 1 - k) default).agg, undef, undef, undef, undef, undef, undef, undef, undef, undef, undef, undef, undef, undef, undef, undef, undef, undef, undef, undef, undef, undef, undef, undef], defers := [] }) ?hax ?assign ?body ?done
  case hpg =>
    rintro g o rfl
    rcases HO.out.2 with ⟨h, _⟩ | ⟨g', cap, cur, h, hB, hg, _⟩
    · cases h
    · have e3 : g = g' := by simp only [Value.slice.injEq, Option.some.injEq, Addr.mk.injEq] at h; exact h.1.1
      subst e3
      exact ⟨(Array.getElem?_eq_some_iff.1 hg).1, by omega⟩
  case start =>
    refine ⟨.slice none 0 0, HRB.out, ?_, WritesF.refl _ _⟩
    rw [Nat.sub_zero, List.drop_length]
    exact World.ownsRow_nil _ _ _ _
  case hax =>
    rintro k a' _ W W' row ⟨b, hb, h1, h2⟩ hg hr
    refine ⟨b, hb, (hg.block b (Array.getElem?_eq_some_iff.1 h1).1 (fun e => ?_)).trans h1, h2⟩
    obtain ⟨_, o', ho', hc'⟩ := hr b e.symm
    rw [h1] at ho'
    cases ho'
    cases hc'
  case assign =>
    intro l k W K hk hI hK
    have HK := Lib.hid hK
    have HI := Lib.hid hI
    clear hK hI
    dsimp only [ENode.agg]
    gi_wp2
    refine HK.out _ _ (KeepsFrom.of_grownBy (row := none) (World.grownBy_alloc _ _ _) (fun j e => by cases e)) ?_ ((foldIint_own (by omega)).alloc _ HI.out) ⟨W.heap.size, ?_, blk_new rfl, rfl⟩
    · obtain ⟨_, _, _, hwr⟩ := HI.out
      intro b o hb
      have := hwr.size
      exact World.cell?_of_block (a := ⟨b, o, none⟩) (Below.heap_alloc _ _ _ (by have := hb.1; show b < W.heap.size; omega))
    · obtain ⟨_, _, _, hwr⟩ := HI.out
      exact hwr.size

  case body =>
    rintro l k a' W hk hl ⟨v, hRB, hown, hwr⟩ ⟨b, hb, hbx, rfl⟩
    have hm : N.length - k = (N.length - 1 - k) + 1 := by omega
    have hst := stackOf_at comb (N := N) (m := N.length - 1 - k) (by omega)
    have hfit := fits_at HF.out (m := N.length - 1 - k) (by omega)
    rw [← len_stackOf comb, ← hm] at hfit
    rw [← hm] at hst
    have HMEM := Lib.hid (show (N.getD (N.length - 1 - k) default) ∈ N from by rw [List.getD_eq_getElem?_getD, List.getElem?_eq_getElem (show N.length - 1 - k < N.length by omega)]; exact List.getElem_mem _)
    have hpost : N.length - (k + 1) = N.length - 1 - k := by omega
    have hlst : (stackOf comb (N.drop (N.length - k))).length ≤ 1048577 := by
      have := len_le_stack comb (N.drop (N.length - k))
      rw [List.length_drop] at this
      omega
    have HPO := Lib.hid (fun v (W' : World) (h1 : W'.heap[w.heap.size + 2]? = some (.cells #[v] 80)) (h2 : W'.ownsRow wl.heap.size 3 1 v (stepS comb (N.getD (N.length - 1 - k) default) (stackOf comb (N.drop (N.length - k)))).length ((stepS comb (N.getD (N.length - 1 - k) default) (stackOf comb (N.drop (N.length - k)))).flatMap valsint)) (h3 : WritesF (fun y => y = w.heap.size + 2) wl W') => show FoldIint comb N wl (w.heap.size + 2) (k + 1) W' from ⟨v, h1, by rw [hpost, hst]; exact h2, h3⟩)
    clear hst hpost hm
    generalize stackOf comb (N.drop (N.length - k)) = st at *
    generalize (N.getD (N.length - 1 - k) default) = nd at *
    generalize (N.length - 1 - k : Nat) = kk at *
    obtain ⟨a, c, rfl⟩ := own_slice hown
    have HOW := Lib.hid hown
    have HRB1 := Lib.hid hRB
    have HBN := Lib.hid hbx
    have HWR := Lib.hid hwr
    have hWs : wl.heap.size ≤ W.heap.size := hwr.size
    have hFB : W.heap[w.heap.size + 1]? = some (.cells #[.func (.func 34) #[] #[.pointer (some ⟨q0, 0, none⟩), .pointer (some ⟨q1, 0, none⟩)]] 83) := (hwr.block (w.heap.size + 1) (by omega) (by show ¬ _ = _; omega)).trans HFB.out
    have HFB1 := Lib.hid hFB
    have hbW : b < W.heap.size := (Array.getElem?_eq_some_iff.1 hbx).1
    have r0 := pblk_cell (j := 0) (v := .slice a st.length c) hRB rfl
    have n6 := pblk_cell (j := 6) (v := .int .i64 (nd.fArgs : Int)) hbx rfl
    clear hown hRB hbx hwr hFB

    have hz : ((st.length : Nat) : Int) - (nd.fArgs : Int) = ((st.length - nd.fArgs : Nat) : Int) := by omega
    have hrl : st.length - nd.fArgs ≤ st.length := Nat.sub_le _ _
    have HPS := Lib.hid (show stepS comb nd st = st.take (st.length - nd.fArgs) ++ [comb nd (st.drop (st.length - nd.fArgs)).reverse] from rfl)
    have hda : (st.drop (st.length - nd.fArgs)).length = nd.fArgs := by rw [List.length_drop]; omega
    rw [HPS.out] at HPO
    clear HPS
    generalize st.length - nd.fArgs = r at *
    have HZ := Lib.hid hz
    have HRL := Lib.hid hrl
    have HDA := Lib.hid hda
    have hfm := own_form2 HOW.out
    have HFM := Lib.hid hfm
    have hrc : r ≤ c := by rcases hfm with ⟨_, h2, h3⟩ | ⟨g, _, h2, _⟩ <;> omega
    have hrci : (r : Int) ≤ (c : Int) := by omega
    have HNEWS := Lib.hid (show ∀ p, (if c = r then a else a.map (·.add (r * 1))) = some p → ∀ j u, ((st.drop r).flatMap valsint)[j]? = some u → W.cell? (p.add j) = some u from by
      intro p hp j u hj
      rcases HFM.out with ⟨rfl, h2, rfl⟩ | ⟨g, rfl, h2, h3, h4, h5⟩
      · split at hp <;> cases hp
      · by_cases hcr : c = r
        · have e3 : st.drop r = [] := List.drop_eq_nil_of_le (by omega)
          rw [e3] at hj
          simp at hj
        · rw [if_neg hcr] at hp
          simp only [Option.map_some, Option.some.injEq] at hp
          rw [add_plain, Nat.zero_add] at hp
          subst hp
          exact own_from valsint_len HOW.out hrl j u hj)
    have HNIL := Lib.hid (show (if c = r then a else a.map (·.add (r * 1))) = none → (st.drop r).length = 0 from by
      intro hp
      rcases HFM.out with ⟨rfl, h2, rfl⟩ | ⟨g, rfl, h2, h3, h4, h5⟩
      · rw [List.length_drop, h2]; omega
      · split at hp <;> cases hp)
    obtain ⟨ad, had⟩ : ∃ ad, (if c = r then a else a.map (·.add (r * 1))) = ad := ⟨_, rfl⟩
    have HAD := Lib.hid had
    rw [had] at HNEWS HNIL
    obtain ⟨aA, cA, WA, hrun, hownA, hbA⟩ := run_append_args W 80 80 3 iq (.int .i64 0) 1 8 Try.underlying80 hi' hz0 hz1 hz2 rfl (by decide) ad (st.drop r).length (c - r) ((st.drop r).flatMap valsint) (flatR_len valsint 1 valsint_len _) HNIL.out HNEWS.out (by intro u hu; obtain ⟨y, _, hy⟩ := List.mem_flatMap.1 hu; exact valsint_one y u hy) (by unfold maxLen; rw [hda]; omega) (by rw [hda]; omega)
    have hrev := reverse_row1 Try.reverseInt (fun z : Int => .int .i64 z) (fun _ => rfl) W.heap.size cA 3 aA (st.drop r) WA (by rw [hda]; omega) hownA
    rw [List.length_drop] at hrun hrev
    have HREV := Lib.hid hrev
    have HRUN := Lib.hid hrun
    have HBA := Lib.hid hbA
    have HOA := Lib.hid hownA
    clear hrev hrun hbA hownA hz hrl hda hfm had
    gi_wp2_with (first | (refine wpListIn_slice_from rfl (.tmp 20) (.tmp 21) 80 3 rfl iq 1 Try.underlying80 hi' hz1 a st.length c r _ HZ.out HRL.out ad HAD.out rfl rfl ?_) | (refine wpListIn_append_run rfl (.const (.slice none 0 0)) (.tmp 22) 80 rfl (.slice none 0 0) (.slice ad (st.length - r) (c - r)) (.slice aA (st.length - r) cA) WA rfl rfl HRUN.out ?_))
    refine ⟨trivial, ?_⟩
    refine (CallsIn.inRound l (callsIn_wide.2 HREV.out)).mono ?_
    rintro e W2 ⟨rfl, hownR, hbR⟩
    have HOR := Lib.hid hownR
    have HW2 := Lib.hid (show Below W.heap.size W W2 from HBA.out.trans (hbR W.heap.size (fun g hg => by
      rcases own_form2 HOA.out with ⟨h1, _⟩ | ⟨g', h1, _, _, h4, _⟩
      · rw [h1] at hg; cases hg
      · rw [h1] at hg; cases hg; exact h4)))
    clear hownR hbR HREV HRUN HBA HOA HNEWS HNIL
    have hs2' : W.heap.size ≤ W2.heap.size := HW2.out.size
    have HRB2 := Lib.hid ((HW2.out.block (w.heap.size + 2) (by omega)).trans HRB1.out)
    have HFB2 := Lib.hid ((HW2.out.block (w.heap.size + 1) (by omega)).trans HFB1.out)
    have HBN2 := Lib.hid ((HW2.out.block b hbW).trans HBN.out)
    have HOW2 := Lib.hid (own_take valsint_len (ownsRow_below HOW.out HW2.out) HRL.out)
    have HLT2 := Lib.hid (show w.heap.size + 2 < W2.heap.size by omega)
    have HGL := Lib.hid (show rowAt (.slice a r c) w.heap.size < W2.heap.size from rowAt_lt (by omega) fun z hz => (HOW2.out.lt z hz).2)
    have hgn : rowAt (.slice a r c) w.heap.size ≠ w.heap.size + 2 := rowAt_ne (by omega) fun z hz => by have := (HOW2.out.lt z hz).1; omega
    have hlt : (st.take r).length ≤ 1048577 := by rw [List.length_take]; omega
    have HBW := Lib.hid (show Below w.heap.size w W2 from (HB2.out.trans ⟨HWR.out.os, HWR.out.tape, HWR.out.output, HWR.out.size, fun z hz => HWR.out.block z (by have := HB2.out.size; omega) (by show ¬ z = _; omega)⟩).trans (HW2.out.mono (Nat.le_trans HB2.out.size HWR.out.size)))
    have HCW := Lib.hid (fun (W' : World) (F : Nat → Prop) (hw : WritesF F W2 W') (hk : Kept (fun y => y < W2.heap.size ∧ ¬ False ∧ True) W2 W') => HCB.out nd (st.drop r).reverse aA cA W.heap.size W' HMEM.out (by rw [List.length_reverse]; exact HDA.out) (by rw [List.length_reverse, HDA.out]; omega) ⟨hw.os.trans HBW.out.os, hw.tape.trans HBW.out.tape, hw.output.trans HBW.out.output, Nat.le_trans HBW.out.size hw.size, fun z hz => (hk.2 z ⟨by have := HBW.out.size; omega, id, trivial⟩ (by have := HBW.out.size; omega)).trans (HBW.out.block z hz)⟩ (by omega) (by rw [List.length_reverse, List.length_drop]; exact ownsRow_keptAt HOR.out fun g hg => hk.2 g ⟨(HOR.out.lt g hg).2, id, trivial⟩ (HOR.out.lt g hg).2))
    rw [List.length_reverse, List.length_drop] at HCW
    gi_wp2_with fail
    rw [HZ.out]
    clear HZ HDA HRL HFM HAD
    generalize (st.drop r).reverse = dr at *
    generalize st.take r = tk at *


    refine wpIn_region_freeK [([], .none, []), ([], .none, []), ([0, 1], .none, []), ([], .none, []), ([], .none, []), ([], .none, []), ([3, 4, 5], .none, []), ([6], .none, []), ([2, 6, 7], .old, []), ([6, 8], .old, [8])] [0, 1, 2, 3, 4, 5, 6, 7, 8, 9] [8, 9] (fun _ => False) (fun _ => True) (fun jq9 => match jq9 with | 8 => rowAt (Value.slice a r c) w.heap.size | 9 => (w.heap.size + 2) | _ => 0) (fun jq9 V L H wx => match jq9 with | 0 => V 0 = .slice a st.length c | 1 => V 1 = .int .i64 (r : Int) | 2 => V 2 = .slice a r c | 3 => V 3 = .func (.func 34) #[] #[.pointer (some ⟨q0, 0, none⟩), .pointer (some ⟨q1, 0, none⟩)] | 4 => V 4 = .agg #[.int .i64 nd.fKind, .int .i64 nd.fN, .int .i64 nd.fPos, .int .i64 nd.fType, .string nd.fSymbol, .string nd.fName, .int .i64 (nd.fArgs : Int), .int .i64 (nd.fDepth : Int)] | 5 => V 5 = .slice aA (st.length - r) cA | 6 => V 6 = .int .i64 (comb nd dr) | 7 => V 7 = .slice (some ⟨L, 0, none⟩) 1 1 ∧ L < H ∧ wx.heap[L]? = some (.cells #[V 6] 3) | 8 => wx.ownsRow (wl.heap.size) 3 1 (V 8) (tk.length + 1) ((tk.flatMap valsint) ++ [V 6]) ∧ (∀ g, (V 8).ownBlock = some g → (g = rowAt (Value.slice a r c) w.heap.size ∧ ((Value.slice a r c)).ownBlock = some g) ∨ (L ≤ g ∧ g < H)) ∧ (((Value.slice a r c)).ownBlock ≠ some (rowAt (Value.slice a r c) w.heap.size) → wx.heap[rowAt (Value.slice a r c) w.heap.size]? = (W2).heap[rowAt (Value.slice a r c) w.heap.size]?) | 9 => (wx.heap[(w.heap.size + 2)]? = (World.setCell W2 ⟨(w.heap.size + 2), 0, none⟩ (V 8)).heap[(w.heap.size + 2)]?) | _ => True) (by kernel_rfl) (by kernel_rfl) ?obs (fun _ h => h.elim) trivial (fun _ _ _ _ _ => trivial) ?loc ?lasts ?walk
    case obs =>
      exact (And.intro (And.intro HGL.out (fun h => h)) (And.intro (And.intro hgn (trivial)) (And.intro (And.intro HLT2.out (fun h => h)) (And.intro (trivial) (trivial)))))
    case loc =>
      intro k V V' L H wx h0 h1 hG
      match k with
      | 0 =>
        try dsimp only at hG ⊢
        rw [← h0]
        exact hG
      | 1 =>
        try dsimp only at hG ⊢
        rw [← h0]
        exact hG
      | 2 =>
        try dsimp only at hG ⊢
        rw [← h0]
        exact hG
      | 3 =>
        try dsimp only at hG ⊢
        rw [← h0]
        exact hG
      | 4 =>
        try dsimp only at hG ⊢
        rw [← h0]
        exact hG
      | 5 =>
        try dsimp only at hG ⊢
        rw [← h0]
        exact hG
      | 6 =>
        try dsimp only at hG ⊢
        rw [← h0]
        exact hG
      | 7 =>
        have e6 := h1 6 (by decide)
        try dsimp only at hG ⊢
        rw [← h0, ← e6]
        exact hG
      | 8 =>
        have e6 := h1 6 (by decide)
        try dsimp only at hG ⊢
        rw [← h0, ← e6]
        exact hG
      | 9 =>
        have e8 := h1 8 (by decide)
        try dsimp only at hG ⊢
        rw [← e8]
        exact hG
      | n + 10 => trivial
    case lasts =>
      intro i hi V L H wx wy hB hH hk
      match i, hi with
      | 0, _ => exact fun h => h
      | 1, _ => exact fun h => h
      | 2, _ => exact fun h => h
      | 3, _ => exact fun h => h
      | 4, _ => exact fun h => h
      | 5, _ => exact fun h => h
      | 6, _ => exact fun h => h
      | 7, _ => exact fun h => ⟨h.1, h.2.1, (hk.2 L (.inr (.inl ⟨Nat.le_refl _, h.2.1⟩)) (Nat.lt_of_lt_of_le h.2.1 hH)).trans h.2.2⟩
      | 8, _ => exact fun h => ⟨ownsRow_keptAt h.1 fun g hg => hk.2 g ((h.2.1 g hg).elim (fun e => .inr (.inr ⟨rfl, e.1⟩)) fun e => .inr (.inl e)) (h.1.lt g hg).2, h.2.1, fun hne => (hk.2 (rowAt (Value.slice a r c) w.heap.size) (.inr (.inr ⟨rfl, rfl⟩)) (Nat.lt_of_lt_of_le HGL.out hB)).trans (h.2.2 hne)⟩
      | 9, _ => exact fun h => (hk.2 ((w.heap.size + 2)) (.inr (.inr ⟨rfl, rfl⟩)) (Nat.lt_of_lt_of_le HLT2.out hB)).trans h
      | n + 10, hn => exact absurd hn (by simp)
    case walk =>
      simp (maxSteps := 4000000) only [freeKIn, Nat.reduceAdd, Act.put, List.setIfInBounds_toArray, List.set_cons_succ, List.set_cons_zero]
      refine ⟨?_, ?_, ?_, ?_, ?_, ?_, ?_, ?_, ?_, ?_, ?_⟩
      · intro V L H wq hw hk hj hd
        clear hd
        have r0 : wq.cell? ⟨w.heap.size + 2, 0, none⟩ = some (.slice a st.length c) := (hk.cell (p := ⟨w.heap.size + 2, 0, none⟩) ⟨(show w.heap.size + 2 < W2.heap.size by omega), id, trivial⟩ (show w.heap.size + 2 < W2.heap.size by omega)).trans (pblk_cell HRB2.out rfl)
        gi_wp2_with fail
        exact freePost _ rfl ⟨⟨WritesF.refl _ _, hj⟩, upd_self⟩
      · intro V L H wq hw hk hj hd
        clear hd
        gi_wp2_with fail
        exact freePost _ rfl ⟨⟨WritesF.refl _ _, hj⟩, upd_self⟩
      · intro V L H wq hw hk hj hd
        obtain ⟨⟨hL0, hM0, hH0, hv0⟩, ⟨hL1, hM1, hH1, hv1⟩, -⟩ := hd
        rw [hv0, hv1]
        have HV0 := Lib.hid hv0
        have HV1 := Lib.hid hv1
        clear hv0 hv1
        gi_wp2_with fail
        exact freePost _ rfl ⟨⟨WritesF.refl _ _, hj⟩, upd_self⟩
      · intro V L H wq hw hk hj hd
        clear hd
        have f0 : wq.cell? ⟨w.heap.size + 1, 0, none⟩ = some (.func (.func 34) #[] #[.pointer (some ⟨q0, 0, none⟩), .pointer (some ⟨q1, 0, none⟩)]) := (hk.cell (p := ⟨w.heap.size + 1, 0, none⟩) ⟨(show w.heap.size + 1 < W2.heap.size by omega), id, trivial⟩ (show w.heap.size + 1 < W2.heap.size by omega)).trans (pblk_cell HFB2.out rfl)
        gi_wp2_with fail
        exact freePost _ rfl ⟨⟨WritesF.refl _ _, hj⟩, upd_self⟩
      · intro V L H wq hw hk hj hd
        clear hd
        have n0 : wq.cell? ⟨b, 0, none⟩ = some (.int .i64 nd.fKind) := (hk.cell (p := ⟨b, 0, none⟩) ⟨(show b < W2.heap.size by omega), id, trivial⟩ (show b < W2.heap.size by omega)).trans (pblk_cell HBN2.out rfl)
        have n1 : wq.cell? ⟨b, 1, none⟩ = some (.int .i64 nd.fN) := (hk.cell (p := ⟨b, 1, none⟩) ⟨(show b < W2.heap.size by omega), id, trivial⟩ (show b < W2.heap.size by omega)).trans (pblk_cell HBN2.out rfl)
        have n2 : wq.cell? ⟨b, 2, none⟩ = some (.int .i64 nd.fPos) := (hk.cell (p := ⟨b, 2, none⟩) ⟨(show b < W2.heap.size by omega), id, trivial⟩ (show b < W2.heap.size by omega)).trans (pblk_cell HBN2.out rfl)
        have n3 : wq.cell? ⟨b, 3, none⟩ = some (.int .i64 nd.fType) := (hk.cell (p := ⟨b, 3, none⟩) ⟨(show b < W2.heap.size by omega), id, trivial⟩ (show b < W2.heap.size by omega)).trans (pblk_cell HBN2.out rfl)
        have n4 : wq.cell? ⟨b, 4, none⟩ = some (.string nd.fSymbol) := (hk.cell (p := ⟨b, 4, none⟩) ⟨(show b < W2.heap.size by omega), id, trivial⟩ (show b < W2.heap.size by omega)).trans (pblk_cell HBN2.out rfl)
        have n5 : wq.cell? ⟨b, 5, none⟩ = some (.string nd.fName) := (hk.cell (p := ⟨b, 5, none⟩) ⟨(show b < W2.heap.size by omega), id, trivial⟩ (show b < W2.heap.size by omega)).trans (pblk_cell HBN2.out rfl)
        have n6 : wq.cell? ⟨b, 6, none⟩ = some (.int .i64 (nd.fArgs : Int)) := (hk.cell (p := ⟨b, 6, none⟩) ⟨(show b < W2.heap.size by omega), id, trivial⟩ (show b < W2.heap.size by omega)).trans (pblk_cell HBN2.out rfl)
        have n7 : wq.cell? ⟨b, 7, none⟩ = some (.int .i64 (nd.fDepth : Int)) := (hk.cell (p := ⟨b, 7, none⟩) ⟨(show b < W2.heap.size by omega), id, trivial⟩ (show b < W2.heap.size by omega)).trans (pblk_cell HBN2.out rfl)
        gi_wp2_with fail
        exact freePost _ rfl ⟨⟨WritesF.refl _ _, hj⟩, upd_self⟩
      · intro V L H wq hw hk hj hd
        clear hd
        gi_wp2_with fail
        exact freePost _ rfl ⟨⟨WritesF.refl _ _, hj⟩, upd_self⟩
      · intro V L H wq hw hk hj hd
        obtain ⟨⟨hL3, hM3, hH3, hv3⟩, ⟨hL4, hM4, hH4, hv4⟩, ⟨hL5, hM5, hH5, hv5⟩, -⟩ := hd
        rw [hv3, hv4, hv5]
        have HV3 := Lib.hid hv3
        have HV4 := Lib.hid hv4
        have HV5 := Lib.hid hv5
        clear hv3 hv4 hv5
        gi_wp2_with fail
        refine ⟨trivial, ?_⟩
        refine (CallsIn.inRound l (callsIn_wide.2 (HCW.out wq _ hw hk))).mono ?_
        rintro e w2 ⟨rfl, hb2⟩
        gi_wp2_with fail
        exact freePost _ rfl ⟨⟨(WritesF.refl _ _).later hb2, trivial⟩, upd_self⟩
      · intro V L H wq hw hk hj hd
        obtain ⟨⟨hL6, hM6, hH6, hv6⟩, -⟩ := hd
        rw [hv6]
        have HV6 := Lib.hid hv6
        clear hv6
        gi_wp2_with fail
        refine freePost _ rfl ⟨⟨(WritesF.refl _ _).later ((Below.refl _ _).alloc (Nat.le_refl _) _), trivial⟩, ?_⟩
        exact ⟨upd_self, by simp, by rw [upd_ne (by decide), HV6.out]; exact blk_new rfl⟩
      · intro V L H wq hw hk hj hd
        obtain ⟨⟨hL2, hM2, hH2, hv2⟩, ⟨hL6, hM6, hH6, hv6⟩, ⟨hL7, hM7, hH7, hst7_⟩, -⟩ := hd
        rw [hv2, hv6]
        have HV2 := Lib.hid hv2
        have HV6 := Lib.hid hv6
        clear hv2 hv6
        obtain ⟨hv7, hlt7, hc7⟩ := hst7_
        rw [HV6.out] at hc7
        rw [hv7]
        have hown1 : wq.ownsRow (wl.heap.size) 3 1 ((Value.slice a r c)) (tk.length) ((tk.flatMap valsint)) := ownsRow_keptAt HOW2.out fun g hg => hk.2 g ⟨(HOW2.out.lt g hg).2, fun h => h, trivial⟩ (HOW2.out.lt g hg).2
        have HOWN1 := Lib.hid hown1
        clear hown1
        have hnews := cells_at hc7
        have HNEWS := Lib.hid hnews
        clear hnews hc7
        have hbw1 : (wl.heap.size) ≤ wq.heap.size := by have := hk.1; omega
        gi_wp2_with (refine wpListIn_append_at rfl (.tmp 28) (.tmp 33) 80 rfl (wl.heap.size) 3 iq (.int .i64 0) 1 8 Try.underlying80 hi' hz0 hz1 hz2 rfl (by decide) _ _ _ rfl HOWN1.out ⟨L 7, 0, none⟩ 1 1 [.int .i64 (comb nd dr)] rfl rfl HNEWS.out (by intro u hu; simp at hu; rcases hu with rfl <;> rfl) (by unfold maxLen; omega) (by omega) hbw1 ?_; intro v' w2 hown' hgrow hat)
        refine freePost v' rfl ⟨touches_grown hgrow (fun x h => rowAt_of x h), ?_⟩
        refine ⟨by rw [upd_self, upd_ne (by decide), HV6.out]; exact hown', fun g hg => ?_, fun hne => (hgrow.block (rowAt (Value.slice a r c) w.heap.size) (Nat.lt_of_lt_of_le HGL.out hk.1) (fun e => hne e.symm)).trans (hk.2 (rowAt (Value.slice a r c) w.heap.size) ⟨HGL.out, fun h => h, trivial⟩ HGL.out)⟩
        rw [upd_self] at hg
        rcases hat with e | e
        · left; exact ⟨(fun x h => rowAt_of x h) g (e ▸ hg), e ▸ hg⟩
        · right; rw [e] at hg; simp only [Option.some.injEq] at hg; have := (hown'.lt g (by rw [e, hg])).2; omega
      · intro V L H wq hw hk hj hd
        obtain ⟨⟨hL6, hM6, hH6, hv6⟩, ⟨hL8, hM8, hH8, hst8_⟩, -⟩ := hd
        rw [hv6]
        have HV6 := Lib.hid hv6
        clear hv6
        obtain ⟨hownS, -⟩ := hst8_
        obtain ⟨aS, cS, hvS⟩ := own_form hownS
        rw [hvS]
        clear hownS
        have hbe : wq.heap[(w.heap.size + 2)]? = W2.heap[(w.heap.size + 2)]? := hk.2 (w.heap.size + 2) ⟨HLT2.out, fun h => h, ⟨Ne.symm hgn, trivial⟩⟩ HLT2.out
        have hc_0 := (World.cell?_of_block (a := ⟨(w.heap.size + 2), 0, none⟩) hbe).trans (pblk_cell (v := .slice a st.length c) HRB2.out rfl)
        have hf_0 := (World.frozen?_of_block (a := ⟨(w.heap.size + 2), 0, none⟩) hbe).trans (pblk_frozen HRB2.out)
        have HBE := Lib.hid hbe
        clear hbe
        gi_wp2_with fail
        exact freePost undef rfl ⟨Touches.put (L := (w.heap.size + 2)) (H := (w.heap.size + 2) + 1) Touches.refl (p := ⟨(w.heap.size + 2), 0, none⟩) ⟨Nat.le_refl _, Nat.lt_succ_self _⟩ _, by show _ = (World.setCell W2 ⟨(w.heap.size + 2), 0, none⟩ (upd V 9 undef 8)).heap[(w.heap.size + 2)]?; rw [upd_ne (by decide)]; exact (by rw [hvS]; exact heap_set_sameR HBE.out)⟩
      · intro V L H wq hw hj hd hap hdead
        obtain ⟨⟨hL0, hM0, hH0, hv0⟩, ⟨hL1, hM1, hH1, hv1⟩, ⟨hL2, hM2, hH2, hv2⟩, ⟨hL3, hM3, hH3, hv3⟩, ⟨hL4, hM4, hH4, hv4⟩, ⟨hL5, hM5, hH5, hv5⟩, ⟨hL6, hM6, hH6, hv6⟩, ⟨hL7, hM7, hH7, hst7_⟩, ⟨hL8, hM8, hH8, hst8_⟩, ⟨hL9, hM9, hH9, hst9_⟩, -⟩ := hd
        obtain ⟨hv7, -, -⟩ := hst7_  
        obtain ⟨hown8, hrow8, hgb8⟩ := hst8_  
        rw [hv6] at hown8
        obtain ⟨vA8, hv8⟩ : ∃ z, V 8 = z := ⟨_, rfl⟩
        rw [hv8] at hown8 hrow8
        have pb9 := hst9_
        rw [hv8] at pb9
        rw [hv0, hv1, hv2, hv3, hv4, hv5, hv6, hv7, hv8]
        clear hv0 hv1 hv2 hv3 hv4 hv5 hv6 hv7 hv8
        obtain ⟨aV, capV, rfl⟩ := own_form hown8
        have hq1 : ∀ z, z < W.heap.size → z ≠ w.heap.size + 2 → (Value.slice a r c).ownBlock ≠ some z → wq.heap[z]? = W.heap[z]? := fun z hz hne hnb => by
          refine Eq.trans ?_ (HW2.out.block z hz)
          by_cases hbg : z = rowAt (Value.slice a r c) w.heap.size
          · subst hbg
            exact hgb8 hnb
          · exact hw.block z (Nat.lt_of_lt_of_le hz hs2') (fun hfa => hfa.elim id (fun h => h ⟨hbg, hne, trivial⟩))
        have HQ1 := Lib.hid hq1
        have HOWN := Lib.hid (show wq.ownsRow wl.heap.size 3 1 (.slice aV (tk.length + 1) capV) (tk ++ [comb nd dr]).length ((tk ++ [comb nd dr]).flatMap valsint) from grown_one (vals := valsint) (x := comb nd dr) hown8 rfl)
        have HRBQ := Lib.hid (show wq.heap[w.heap.size + 2]? = some (.cells #[.slice aV (tk.length + 1) capV] 80) from pb9.trans (pblk_put HRB2.out rfl))
        have HWQ := Lib.hid (show W.heap.size ≤ wq.heap.size ∧ wq.os = W.os ∧ wq.tape = W.tape ∧ wq.output = W.output from ⟨Nat.le_trans hs2' hw.size, hw.os.trans HW2.out.os, hw.tape.trans HW2.out.tape, hw.output.trans HW2.out.output⟩)
        have HIB := Lib.hid (fun g (h : (Value.slice a r c).ownBlock = some g) => (show wl.heap.size ≤ g ∧ ∃ cur, W.heap[g]? = some (.cells cur 3 (0, 0)) from by
          have h' : (Value.slice a st.length c).ownBlock = some g := by rw [← h]; cases a <;> rfl
          exact ⟨(HOW.out.lt g h').1, own_isCells HOW.out h'⟩))
        clear hq1 hown8 hrow8 hgb8 pb9 hw hj hap hdead
        gi_wp2
        refine ⟨⟨HWQ.out.1, fun z ob hz hob hoc => ?_⟩, fun z ob hz => ?_, HPO.out _ wq HRBQ.out HOWN.out ?_⟩
        · refine (HQ1.out z (Array.getElem?_eq_some_iff.1 hob).1 (by omega) (fun e => ?_)).trans hob
          obtain ⟨_, cur, hcur⟩ := HIB.out z e
          rw [hcur] at hob
          cases hob
          cases hoc
        · exact World.cell?_of_block (a := ⟨z, ob, none⟩) (HQ1.out z (Nat.lt_of_lt_of_le hz.1 hWs) hz.2 (fun e => by have := (HIB.out z e).1; have := hz.1; omega))
        · exact ⟨HWQ.out.2.1.trans HWR.out.os, HWQ.out.2.2.1.trans HWR.out.tape, HWQ.out.2.2.2.trans HWR.out.output, Nat.le_trans hWs HWQ.out.1, fun z hz hne => (HQ1.out z (Nat.lt_of_lt_of_le hz hWs) hne (fun e => by have := (HIB.out z e).1; omega)).trans (HWR.out.block z hz hne)⟩
  case done =>
    rintro D W hD ⟨v, hRB, hown, hwr⟩ hDW
    rw [Nat.sub_self, List.drop_zero, HS.out] at hown
    have hown1 : W.ownsRow wl.heap.size 3 1 v 1 (valsint res) := by
      have e3 : stackOf comb [] ++ [res] = [res] := rfl
      rw [e3, List.flatMap_cons, List.flatMap_nil, List.append_nil] at hown
      exact hown
    obtain ⟨g, c, rfl, hg1, hg2⟩ := own_some hown1 (by decide)
    have hcl := fun j hj => hown1.cellAt j hj
    have k0 : W.cell? ⟨g, 0, none⟩ = some (.int .i64 res) := hcl 0 (by decide)
    have hWs : wl.heap.size ≤ W.heap.size := hwr.size
    have HWR := Lib.hid hwr
    have r0 := pblk_cell (j := 0) (v := .slice (some ⟨g, 0, none⟩) 1 c) hRB rfl
    have HDW := Lib.hid hDW
    clear hown hown1 hcl hRB hwr hDW
    gi_wp2

    have hbw : Below w.heap.size w W := HB2.out.trans ⟨HWR.out.os, HWR.out.tape, HWR.out.output, HWR.out.size, fun z hz => HWR.out.block z (by have := HB2.out.size; omega) (by show ¬ z = _; omega)⟩
    refine ⟨by simp, .inl ⟨_, _, rfl, run_takeDeferred HDW.out, ?_⟩⟩
    refine ⟨_, by simp [results, Try.results33], rfl, ?_⟩
    refine ⟨hbw.os, hbw.tape, hbw.output, Nat.le_trans hbw.size (by simp [World.putObj]), fun z hz => (World.putObj_heap_other (by omega)).trans (hbw.block z hz)⟩
end Go.Proofs.Ytpipdlgnedhhaaa
