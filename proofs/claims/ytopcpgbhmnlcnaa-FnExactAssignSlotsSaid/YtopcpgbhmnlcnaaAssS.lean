/-
  AssignSlots of the model.
-/
import Derived.Test.YtopcpgbhmnlcnaaAssI
import Derived.Laws.MakeOwn
import Derived.Laws.OwnMore
namespace Go.Proofs.Ytopcpgbhmnlcnaa
open Go.ChangeShapes Go.WideShapes Go.ChangeAt Go.RowKit Go.Deep

def vB (x : Bool) : List Value := [.bool x]
/-- Which cells are taken at step k, by the first j steps. -/
def usL (tr : List DTraceStep) (kp : List DInstance) (k m : Nat) : Nat → List Bool
  | 0 => List.replicate (m + 1) false
  | j + 1 => if (k : Int) < freeT tr kp j then (usL tr kp k m j).set (asgC j (asg tr kp j).2) true else usL tr kp k m j
theorem usL_len (tr : List DTraceStep) (kp : List DInstance) (k m : Nat) : ∀ j, (usL tr kp k m j).length = m + 1
  | 0 => List.length_replicate
  | j + 1 => by
    have ih := usL_len tr kp k m j
    unfold usL
    split
    · rw [List.length_set]; exact ih
    · exact ih
theorem usL_iff (tr : List DTraceStep) (kp : List DInstance) (k m : Nat) : ∀ j c, c < m + 1 → ((usL tr kp k m j).getD c default = true ↔ ∃ q, q < j ∧ asgC q (asg tr kp q).2 = c ∧ (k : Int) < freeT tr kp q)
  | 0, c, hc => by
    have e : (usL tr kp k m 0).getD c default = false := by
      show (List.replicate (m + 1) false).getD c default = false
      rw [List.getD_eq_getElem?_getD, List.getElem?_replicate, if_pos hc]; rfl
    rw [e]
    exact ⟨(fun h => nomatch h), fun ⟨q, h, _⟩ => absurd h (Nat.not_lt_zero _)⟩
  | j + 1, c, hc => by
    have ih := usL_iff tr kp k m j c hc
    have hl := usL_len tr kp k m j
    unfold usL
    split
    · next h =>
      by_cases e : asgC j (asg tr kp j).2 = c
      · rw [e, List.getD_eq_getElem?_getD, List.getElem?_set_self (by omega)]
        exact ⟨fun _ => ⟨j, by omega, e, h⟩, fun _ => rfl⟩
      · rw [List.getD_eq_getElem?_getD, List.getElem?_set_ne e, ← List.getD_eq_getElem?_getD, ih]
        refine ⟨fun ⟨q, a, b, d⟩ => ⟨q, by omega, b, d⟩, fun ⟨q, a, b, d⟩ => ?_⟩
        rcases Nat.lt_or_ge q j with hq | hq
        · exact ⟨q, hq, b, d⟩
        · obtain rfl : q = j := by omega
          exact absurd b e
    · next h =>
      rw [ih]
      refine ⟨fun ⟨q, a, b, d⟩ => ⟨q, by omega, b, d⟩, fun ⟨q, a, b, d⟩ => ?_⟩
      rcases Nat.lt_or_ge q j with hq | hq
      · exact ⟨q, hq, b, d⟩
      · obtain rfl : q = j := by omega
        exact absurd d h
theorem asgC_le (k : Nat) (fr : List Int) : asgC k fr ≤ fr.length := by
  unfold asgC
  rcases asgAt_cases k fr with ⟨h, _⟩ | ⟨q, h1, h2, _⟩
  · rw [if_pos (by omega)]; exact Nat.le_refl _
  · rw [if_neg (by omega), h2]; omega
theorem used_lt (tr : List DTraceStep) (kp : List DInstance) (k : Nat) {c : Nat} (hc : c < asgC k (asg tr kp k).2) : (usL tr kp k (asg tr kp k).2.length k).getD c default = true := by
  have hle := asgC_le k (asg tr kp k).2
  rw [usL_iff _ _ _ _ _ _ (by omega), ← asg_used tr kp k k c (by omega) (by omega)]
  unfold asgC at hc
  rcases asgAt_cases k (asg tr kp k).2 with ⟨h, h2⟩ | ⟨q, h1, h2, h3, h4⟩
  · exact h2 c (by rw [if_pos (by omega)] at hc; exact hc)
  · exact h4 c (by rw [if_neg (by omega), h2] at hc; omega)
theorem used_at (tr : List DTraceStep) (kp : List DInstance) (k : Nat) : (usL tr kp k (asg tr kp k).2.length k).getD (asgC k (asg tr kp k).2) default = false := by
  have hle := asgC_le k (asg tr kp k).2
  rw [← Bool.not_eq_true, usL_iff _ _ _ _ _ _ (by omega)]
  rintro ⟨q, hq, he, hf⟩
  rcases asgAt_cases k (asg tr kp k).2 with ⟨h, h2⟩ | ⟨c, h1, h2, h3, h4⟩
  · have e : asgC k (asg tr kp k).2 = (asg tr kp k).2.length := by unfold asgC; rw [if_pos (by omega)]
    have := asg_lt tr kp hq
    omega
  · have e : asgC k (asg tr kp k).2 = c := by unfold asgC; rw [if_neg (by omega), h2]; rfl
    rw [e] at he
    have := (asg_used tr kp k k c (by omega) h1).2 ⟨q, hq, he, hf⟩
    omega
theorem asg_count (k : Nat) (f : Int) (fr : List Int) : ((asgF k f fr).length : Int) = max (fr.length : Int) ((asgC k fr : Nat) + 1 : Int) := by
  rw [asgF_len]
  unfold asgC
  rcases asgAt_cases k fr with ⟨h, _⟩ | ⟨q, h1, h2, _⟩
  · rw [if_pos (by omega), if_pos (by omega)]; omega
  · rw [if_neg (by omega), if_neg (by omega), h2]; omega
theorem rep_flat : ∀ n, (List.replicate n false).flatMap vB = List.replicate n (Value.bool false)
  | 0 => rfl
  | n + 1 => by rw [List.replicate_succ, List.flatMap_cons, rep_flat n, List.replicate_succ]; rfl
theorem made_bools (n : Nat) : (madeCells (Value.cells (.bool false)) (n * 1)).toList = (List.replicate n false).flatMap vB := by
  rw [rep_flat]
  unfold madeCells
  simp [Value.cells, Nat.mod_one, List.map_const']
theorem flat_setB (f : Bool) : ∀ (l : List Bool) (k : Nat), (l.set k f).flatMap vB = (l.flatMap vB).set k (.bool f)
  | [], _ => by simp
  | y :: l, 0 => by simp [vB]
  | y :: l, k + 1 => by
    have ih := flat_setB f l k
    rw [List.set_cons_succ, List.flatMap_cons, List.flatMap_cons, ih]
    rfl
theorem row_setB {w : World} {B g c k n : Nat} {l : List Bool} (f : Bool) (h : w.ownsRow B 4 1 (.slice (some ⟨g, 0, none⟩) n c) n (l.flatMap vB)) :
    (w.setCell ⟨g, k, none⟩ (.bool f)).ownsRow B 4 1 (.slice (some ⟨g, 0, none⟩) n c) n ((l.set k f).flatMap vB) := by
  rw [flat_setB]
  exact (h.stored k _).1
theorem flat_getB {l : List Bool} {k : Nat} (h : k < l.length) : (l.flatMap vB).getD k .nilFunc = .bool (l.getD k default) := by
  have h1 := flat_get (n := 1) (vals := vB) (fun _ => rfl) l k 0 h (by decide)
  rw [Nat.mul_one, Nat.add_zero] at h1
  rw [List.getD_eq_getElem?_getD, h1]
  rfl
theorem flat_getU {l : List Int} {k : Nat} (h : k < l.length) : (l.flatMap vU).getD k .nilFunc = .int .i64 (l.getD k default) := by
  have h1 := flat_get (n := 1) (vals := vU) vU_len l k 0 h (by decide)
  rw [Nat.mul_one, Nat.add_zero] at h1
  rw [List.getD_eq_getElem?_getD, h1]
  rfl
theorem info_boolA : (Try.prog.info? 4).map (fun i => (i.zero, i.size, i.bytes)) = some (some (.bool false), 1, 1) := by kernel_rfl

set_option maxHeartbeats 1600000 in
set_option maxRecDepth 100000 in
theorem spec_l1MaxA (a b : Int) (w : World) : Calls Try.prog 35 #[.int .i64 a, .int .i64 b] w fun e w' => e = .returned (.int .i64 (max a b)) ∧ w = w' := by
  by_cases h : b < a
  · have HM := Lib.hid (show max a b = a by omega)
    go_enter Try.func35, Try.ntmps35
    go_wp2
    go_ret
    exact ⟨congrArg (fun z => Ending.returned (Value.int .i64 z)) HM.out.symm, rfl⟩
  · have HM := Lib.hid (show max a b = b by omega)
    go_enter Try.func35, Try.ntmps35
    go_wp2
    go_ret
    exact ⟨congrArg (fun z => Ending.returned (Value.int .i64 z)) HM.out.symm, rfl⟩

theorem ownsRow_atS {w : World} {B B' n len g c : Nat} {e : TypeId} {xs : List Value} (h : w.ownsRow B e n (.slice (some ⟨g, 0, none⟩) len c) len xs) (hB : B' ≤ g) : w.ownsRow B' e n (.slice (some ⟨g, 0, none⟩) len c) len xs := by
  obtain ⟨h1, h2⟩ := h
  refine ⟨h1, ?_⟩
  rcases h2 with ⟨h2, _⟩ | ⟨g', cap, cur, hv, _, hg, h3⟩
  · cases h2
  · have e1 : g = g' := by simp only [Value.slice.injEq, Option.some.injEq, Addr.mk.injEq, and_true] at hv; exact hv.1
    subst e1
    exact Or.inr ⟨g, cap, cur, hv, hB, hg, h3⟩

set_option maxHeartbeats 25600000 in
set_option maxRecDepth 100000 in
theorem spec_AssignSlotsU {lo hi : Nat} {aT aK : Option Addr} {cT cK : Nat} (tr : List DTraceStep) (hn : tr.length ≤ 1048576) (hin : ∀ k, k < tr.length → (tr.getD k default).fInputs.length ≤ 1048576) (kp : List DInstance) (hkn : kp.length ≤ 1048576) (w : World) (hhi : hi ≤ w.heap.size) (hs : Sl lo hi w 3 tr.length (fun k => DTraceStep.ct (tr.getD k default)) aT) (hsk : Sl lo hi w 2 kp.length (fun k => DInstance.ct (kp.getD k default)) aK) :
    Calls Try.prog 18 #[.slice aT tr.length cT, .slice aK kp.length cK] w fun e w' => ∃ (ac : Option Addr) (cc : Nat), e = .returned (.tuple #[.slice ac tr.length cc, .int .i64 ((asg tr kp tr.length).2.length : Nat)]) ∧
      Own w' (fun y => w.heap.size ≤ y ∧ y < w'.heap.size) (.sl 1 tr.length (fun q => ictI ((asg tr kp tr.length).1.getD q default))) (.slice ac tr.length cc) ∧ Below w.heap.size w w' := by
  have HST := Lib.hid (fun (W : World) (hW : Below w.heap.size w W) => hs.later hW hhi)
  have HSK := Lib.hid (fun (W : World) (hW : Below w.heap.size w W) => hsk.later hW hhi)
  have HLU := Lib.hid (fun (m : Nat) (hm : m < tr.length) (W : World) (hh : hi ≤ W.heap.size) (h : Sl lo hi W 3 tr.length (fun k => DTraceStep.ct (tr.getD k default)) aT) => (show Calls Try.prog 7 #[.slice aT tr.length cT, .int .i64 (m : Int)] W fun e w' => e = .returned (.int .i64 (lastU tr m)) ∧ Below W.heap.size W w' from by
    have h9 := spec_LastUseU (cT := cT) tr hn hin W hh h (m : Int) ⟨by omega, by omega⟩
    rw [lastUse_in hm] at h9
    exact h9))
  have HHS := Lib.hid (fun (x : DInstance) (W : World) (hh : hi ≤ W.heap.size) (h : Sl lo hi W 2 kp.length (fun k => DInstance.ct (kp.getD k default)) aK) => spec_l31Has (c0 := cK) kp hkn x W hh h)
  have HL2 := Lib.hid (fun k => asg_len2 tr kp k)
  have HC1 := Lib.hid (fun k => show (asg tr kp (k + 1)).1 = (asg tr kp k).1 ++ [(asgC k (asg tr kp k).2 : Int)] from rfl)
  have HC2 := Lib.hid (fun k => show (asg tr kp (k + 1)).2 = asgF k (freeT tr kp k) (asg tr kp k).2 from rfl)
  have HL1 := Lib.hid (asg_len1 tr kp)
  have HLLS := Lib.hid (fun k => show (lastL tr (k + 1)).flatMap vU = (lastL tr k).flatMap vU ++ [.int .i64 (lastU tr k)] from by rw [lastL_step, List.flatMap_append]; rfl)
  obtain ⟨iq, hi', hz0, hz1, hz2⟩ := info_parts info_Int
  obtain ⟨ib, hi2, hy0, hy1, hy2⟩ := info_parts info_boolA
  have HHI := Lib.hid hhi
  have HB0 := Lib.hid (show Below w.heap.size w ((w.alloc (.cells #[] 3)).alloc (.cells #[] 3)) from ((Below.refl _ _).alloc (Nat.le_refl _) _).alloc (by simp) _)
  have HR1 := Lib.hid (show ((w.alloc (.cells #[] 3)).alloc (.cells #[] 3)).ownsRow w.heap.size 3 1 (.slice (some ⟨w.heap.size, 0, none⟩) 0 0) 0 [] from ownsRow_below (World.ownsRow_made w #[] 0 (Nat.le_refl _) (Nat.zero_le _) (by simp)) ((Below.refl _ _).alloc (Nat.le_refl _) _))
  have HR2 := Lib.hid (show ((w.alloc (.cells #[] 3)).alloc (.cells #[] 3)).ownsRow w.heap.size 3 1 (.slice (some ⟨w.heap.size + 1, 0, none⟩) 0 0) 0 [] from by
    have h := ownsRow_atS (B' := w.heap.size) (World.ownsRow_made (w.alloc (.cells #[] 3)) (e := 3) (size := 1) #[] 0 (Nat.le_refl _) (Nat.zero_le _) (by simp)) (by simp)
    simpa using h)
  clear hs hsk hin hhi
  go_enter Try.func18, Try.ntmps18
  go_wp2
  go_loopw [6, 7, 8, 9] (fun vc vl cnt i wr => ∃ (k : Nat) (ac : Option Addr) (cc : Nat) (al : Option Addr) (cl : Nat), k ≤ tr.length ∧ i = .int .i64 (k : Int) ∧ vc = .slice ac k cc ∧ vl = .slice al k cl ∧ cnt = .int .i64 ((asg tr kp k).2.length : Int) ∧ wr.ownsRow w.heap.size 3 1 (.slice ac k cc) k ((asg tr kp k).1.flatMap vU) ∧ wr.ownsRow w.heap.size 3 1 (.slice al k cl) k ((lastL tr k).flatMap vU) ∧ Apt ac al ∧ Below w.heap.size w wr) (fun _ _ _ i _ => tr.length - (intOf i).toNat)
  case atStart => exact ⟨0, _, 0, _, 0, Nat.zero_le _, rfl, rfl, rfl, rfl, HR1.out, HR2.out, (fun g h1 h2 => by have e1 : some w.heap.size = some g := h1; have e2 : some (w.heap.size + 1) = some g := h2; simp only [Option.some.injEq] at e1 e2; omega), HB0.out⟩
  case round =>
    obtain ⟨k, ac, cc, al, cl, hk, rfl, rfl, rfl, rfl, hoc, hol, hap, hb⟩ := hrel
    obtain ⟨wo, rfl⟩ : ∃ wo : World, wo = wr := ⟨_, rfl⟩
    have HOC := Lib.hid hoc
    have HOL := Lib.hid hol
    have HAP := Lib.hid hap
    have HB := Lib.hid hb
    have hszo := hb.size
    clear hoc hol hap hb
    by_cases hlt : k < tr.length
    · have HC1K := Lib.hid (HC1.out k)
      have HC2K := Lib.hid (HC2.out k)
      have hfl := HL2.out k
      have HCNT := Lib.hid (asg_count k (freeT tr kp k) (asg tr kp k).2)
      have HCLE := Lib.hid (asgC_le k (asg tr kp k).2)
      have HULT := Lib.hid (fun c (hc : c < asgC k (asg tr kp k).2) => used_lt tr kp k hc)
      have HUAT := Lib.hid (used_at tr kp k)
      have HUL := Lib.hid (fun j => usL_len tr kp k (asg tr kp k).2.length j)
      have HUS := Lib.hid (fun j => show usL tr kp k (asg tr kp k).2.length (j + 1) = if (k : Int) < freeT tr kp j then (usL tr kp k (asg tr kp k).2.length j).set (asgC j (asg tr kp j).2) true else usL tr kp k (asg tr kp k).2.length j from rfl)
      have HU0 := Lib.hid (show usL tr kp k (asg tr kp k).2.length 0 = List.replicate ((asg tr kp k).2.length + 1) false from rfl)
      have HCJ := Lib.hid (fun j (hj : j < k) => asg_lt tr kp hj)
      have HCS := Lib.hid (fun j (hj : j < k) => asg_same tr kp hj)
      have HCL := Lib.hid (HL1.out k)
      have HLLK := Lib.hid (HLLS.out k)
      have HLL := Lib.hid (lastL_len tr k)
      have HLAT := Lib.hid (fun i (hi : i < k + 1) => lastL_at tr hi)
      have HFT := Lib.hid (fun j => freeT_gt tr kp (j := j) hlt hn)
      have HLUK := Lib.hid (HLU.out k hlt)
      generalize hcs0 : (asg tr kp k).1 = cs at HOC HC1K HCS HCL
      generalize hfr0 : (asg tr kp k).2 = fr at HC1K HC2K hfl HCNT HCLE HULT HUAT HUL HUS HU0 HCJ ⊢
      clear hcs0 hfr0 HLU
      have hnk : k ≤ 1048576 := by omega
      have hkI : (0 : Int) ≤ (k : Int) ∧ (k : Int) < (tr.length : Int) := by omega
      go_wp2_with fail
      refine (HLUK.out wo (by have := HHI.out; omega) (HST.out wo HB.out)).mono ?_
      rintro e W1 ⟨rfl, hb1⟩
      have hs1 := hb1.size
      have HB1 := Lib.hid (HB.out.trans (hb1.mono hszo))
      have HZ1 := Lib.hid (show (W1.alloc (.cells #[.int .i64 (lastU tr k)] 3)).heap.size = W1.heap.size + 1 by simp)
      have hzz := HZ1.out
      have HBA := Lib.hid (show Below W1.heap.size W1 (W1.alloc (.cells #[.int .i64 (lastU tr k)] 3)) from (Below.refl _ _).alloc (Nat.le_refl _) _)
      have HOC1 := Lib.hid (ownsRow_below (ownsRow_below HOC.out hb1) HBA.out)
      have HOL1 := Lib.hid (ownsRow_below (ownsRow_below HOL.out hb1) HBA.out)
      have HNB1 := Lib.hid (show (W1.alloc (.cells #[.int .i64 (lastU tr k)] 3)).heap[W1.heap.size]? = some (.cells [.int .i64 (lastU tr k)].toArray 3) from blk_new rfl)
      have HB1A := Lib.hid (HB1.out.trans (HBA.out.mono (by omega)))
      clear hb1 HOC HOL HB HBA HLUK
      go_wp2_with (first | (at_builtin; refine wpList_append_at rfl (.tmp 21) (.tmp 25) 30 rfl (w.heap.size) 3 iq (.int .i64 0) 1 8 Try.underlying30 hi' hz0 hz1 hz2 rfl (by decide) _ _ _ rfl HOL1.out ⟨W1.heap.size, 0, none⟩ 1 1 [.int .i64 (lastU tr k)] rfl rfl (cells_at HNB1.out) (by intro u hu; simp at hu; subst hu; rfl) (by unfold maxLen; omega) (by omega) (by omega) ?_; intro v2 W2 hown2 hgrow2 hat2) | (at_make; refine wpList_make_full _ rfl (.tmp 28) (.tmp 28) 77 rfl (W2.heap.size) 4 ib (.bool false) 1 Try.underlying77 hi2 hy0 hy1 .i64 .i64 ((fr.length : Int) + 1) ((fr.length : Int) + 1) (fr.length + 1) rfl rfl rfl rfl (by rw [hy2]; omega) (by unfold maxLen; omega) (by omega) ?_; intro W3 hown3 hgrow3))
      obtain ⟨a2, cl2, rfl⟩ := own_form hown2
      have hs2 := hgrow2.size
      have hs3 := hgrow3.size
      rw [← HLLK.out] at hown2
      have HOL3 := Lib.hid (ownsRow_keptAt hown2 fun g hg => hgrow3.block g (hown2.lt g hg).2 (fun e => nomatch e))
      have hoc2 := ownsRow_keptAt HOC1.out fun g hg => hgrow2.block g (HOC1.out.lt g hg).2 (fun e => HAP.out g (ob_eq.symm.trans hg) (ob_eq.symm.trans e.symm))
      have HOC3 := Lib.hid (ownsRow_keptAt hoc2 fun g hg => hgrow3.block g (hoc2.lt g hg).2 (fun e => nomatch e))
      have HOLU := Lib.hid (fun g (hg : (Value.slice a2 (k + 1) cl2).ownBlock = some g) => (hown2.lt g hg).2)
      have HOCU := Lib.hid (fun g (hg : (Value.slice ac k cc).ownBlock = some g) => (hoc2.lt g hg).2)
      have HAP3 := Lib.hid (grown_apt HAP.out hat2 (fun g hg => (HOC1.out.lt g (ob_eq.trans hg)).2))
      have HU3 := Lib.hid (show W3.ownsRow W2.heap.size 4 1 (.slice (some ⟨W2.heap.size, 0, none⟩) (fr.length + 1) (fr.length + 1)) (fr.length + 1) ((usL tr kp k fr.length 0).flatMap vB) from by rw [HU0.out, ← made_bools]; exact hown3)
      have HB3 := Lib.hid (HB1A.out.trans ((show Below w.heap.size (W1.alloc (.cells #[.int .i64 (lastU tr k)] 3)) W2 from ⟨hgrow2.os, hgrow2.tape, hgrow2.output, hgrow2.size, fun y hy => hgrow2.block y (by omega) (fun e => by have := (HOL1.out.lt y e.symm).1; omega)⟩).trans (show Below w.heap.size W2 W3 from ⟨hgrow3.os, hgrow3.tape, hgrow3.output, hgrow3.size, fun y hy => hgrow3.block y (by omega) (fun e => nomatch e)⟩)))
      have hwu : w.heap.size ≤ W2.heap.size := by omega
      have hUlt : W2.heap.size < W3.heap.size := (ownsRow_block hown3).1
      obtain ⟨gL, rfl⟩ := row_some HOL3.out (by omega)
      clear hown2 hgrow2 hat2 hown3 hgrow3 hoc2 HOC1 HOL1 HNB1 HB1A HB1 HZ1 hzz HU0
      go_loopw [11] (fun i wr => ∃ j : Nat, j ≤ k ∧ i = .int .i64 (j : Int) ∧ wr.ownsRow W2.heap.size 4 1 (.slice (some ⟨W2.heap.size, 0, none⟩) (fr.length + 1) (fr.length + 1)) (fr.length + 1) ((usL tr kp k fr.length j).flatMap vB) ∧ WritesF (fun y => y = W2.heap.size) W3 wr) (fun i _ => k - (intOf i).toNat)
      case atStart => exact ⟨0, Nat.zero_le _, rfl, HU3.out, WritesF.refl _ _⟩
      case round =>
        obtain ⟨j, hj, rfl, hou, hw⟩ := hrel
        obtain ⟨wu, rfl⟩ : ∃ wu : World, wu = wr := ⟨_, rfl⟩
        have HOU := Lib.hid hou
        have HW := Lib.hid hw
        have hsu := hw.size
        have HOLR := Lib.hid (ownsRow_keptAt HOL3.out fun g hg => hw.block g (HOL3.out.lt g hg).2 (by have := HOLU.out g hg; show ¬ g = W2.heap.size; omega))
        have HOCR := Lib.hid (ownsRow_keptAt HOC3.out fun g hg => hw.block g (HOC3.out.lt g hg).2 (by have := HOCU.out g hg; show ¬ g = W2.heap.size; omega))
        have HBR := Lib.hid (HB3.out.trans (hw.below (B := w.heap.size) (fun x hx => by omega) (by omega)))
        clear hou hw
        by_cases hlj : j < k
        · have hjt : j < tr.length := by omega
          obtain ⟨gC, rfl⟩ := row_some HOCR.out (by omega)
          have hcl := (ownsRow_block HOLR.out).2.2.1 j (by omega)
          rw [flat_getU (by rw [lastL_len]; omega), HLAT.out j (by omega)] at hcl
          have hcc := (ownsRow_block HOCR.out).2.2.1 j (by omega)
          rw [flat_getU (by rw [HCL.out]; omega), HCS.out j hlj] at hcc
          have hub := ownsRow_block HOU.out
          have hc9 := HCJ.out j hlj
          have hcu := hub.2.2.1 (asgC j (asg tr kp j).2) (by omega)
          have hzu := hub.2.2.2 (asgC j (asg tr kp j).2)
          have hgCU : gC ≠ W2.heap.size := by have := HOCU.out gC rfl; omega
          have HSET := Lib.hid (fun (W : World) (h : W.ownsRow W2.heap.size 4 1 (.slice (some ⟨W2.heap.size, 0, none⟩) (fr.length + 1) (fr.length + 1)) (fr.length + 1) ((usL tr kp k fr.length j).flatMap vB)) => row_setB (k := asgC j (asg tr kp j).2) true h)
          have HUSJ := Lib.hid (HUS.out j)
          have HFTJ := Lib.hid (HFT.out j)
          obtain ⟨bt, off, rfl, _, hbt, hc⟩ := (HST.out wu HBR.out).at j hjt
          obtain ⟨x2, y2, h0, h1, h2, _⟩ := DTraceStep.open hc
          have hjI : (0 : Int) ≤ (j : Int) ∧ (j : Int) < (k : Int) ∧ (j : Int) < (k : Int) + 1 ∧ (j : Int) < (tr.length : Int) := by omega
          clear hc h2 hub HCJ HCS HLAT HUS HFT
          generalize asgC j (asg tr kp j).2 = c9 at *
          have hcI : (0 : Int) ≤ (c9 : Int) ∧ (c9 : Int) < (fr.length : Int) + 1 := by omega
          generalize freeT tr kp j = ft at *
          generalize lastU tr j = lu at *
          generalize (tr.getD j default).fAt = x at *
          generalize (usL tr kp k fr.length j) = us at *
          generalize hus1 : (usL tr kp k fr.length (j + 1)) = us1 at HUSJ
          have HUS1 := Lib.hid hus1
          clear hus1
          generalize ((us.flatMap vB).getD c9 .nilFunc) = uold at hcu
          by_cases hgt : (k : Int) < lu
          · have HE := Lib.hid (show us1 = us.set c9 true by
              have h := HFTJ.out
              rw [decide_eq_true hgt, Bool.true_or, decide_eq_true_eq] at h
              rw [HUSJ.out, if_pos h])
            have HN := Lib.hid (HSET.out wu HOU.out)
            go_wp2
            go_roundw
            case rel => exact ⟨j + 1, by omega, by go_num, by rw [HUS1.out, HE.out]; exact HN.out, HW.out.setCell rfl⟩
            case measure => simp [intOf]; omega
          · have HHX := Lib.hid (HHS.out x wu (by have := HHI.out; have := HBR.out.size; omega) (HSK.out wu HBR.out))
            go_wp2_with fail
            refine HHX.out.mono ?_
            rintro e W4 ⟨rfl, hb4⟩
            have hou4 := ownsRow_below HOU.out hb4
            have hzu4 := (ownsRow_block hou4).2.2.2 c9
            have hcu4 := (hb4.cell (p := ⟨W2.heap.size, c9, none⟩) (by show W2.heap.size < _; omega)).trans hcu
            have hcc4 := (hb4.cell (p := ⟨gC, j, none⟩) (ownsRow_block HOCR.out).1).trans hcc
            have HN := Lib.hid (HSET.out W4 hou4)
            have HO4 := Lib.hid hou4
            have HW4 := Lib.hid (HW.out.later hb4)
            clear hcu hcc hzu hb4 hou4 HHX
            cases hv : hasI kp x with
            | true =>
              have HE := Lib.hid (show us1 = us.set c9 true by
                have h := HFTJ.out
                rw [hv, Bool.or_true, decide_eq_true_eq] at h
                rw [HUSJ.out, if_pos h])
              go_wp2
              go_roundw
              case rel => exact ⟨j + 1, by omega, by go_num, by rw [HUS1.out, HE.out]; exact HN.out, HW4.out.setCell rfl⟩
              case measure => simp [intOf]; omega
            | false =>
              have HE := Lib.hid (show us1 = us by
                have h := HFTJ.out
                rw [hv, show decide ((k : Int) < lu) = false from decide_eq_false (by omega), Bool.or_false, decide_eq_false_iff_not] at h
                rw [HUSJ.out, if_neg h])
              go_wp2
              go_roundw
              case rel => exact ⟨j + 1, by omega, by go_num, by rw [HUS1.out, HE.out]; exact HO4.out, HW4.out⟩
              case measure => simp [intOf]; omega
        · obtain rfl : j = k := by omega
          go_wp2
          go_loopw [12] (fun i wr => ∃ c : Nat, c ≤ asgC j fr ∧ i = .int .i64 (c : Int) ∧ Below wu.heap.size wu wr) (fun i _ => fr.length + 1 - (intOf i).toNat)
          case atStart => exact ⟨0, Nat.zero_le _, rfl, Below.refl _ _⟩
          case round =>
            obtain ⟨c, hc, rfl, hb⟩ := hrel
            have hle := HCLE.out
            have hsr := hb.size
            have HBC := Lib.hid hb
            have hcu := (ownsRow_block (ownsRow_below HOU.out hb)).2.2.1 c (by omega)
            rw [flat_getB (by rw [HUL.out]; omega)] at hcu
            have hcI : (0 : Int) ≤ (c : Int) ∧ (c : Int) < (fr.length : Int) + 1 := by omega
            clear hb
            by_cases hcl : c < asgC j fr
            · rw [HULT.out c hcl] at hcu
              go_wp2
              go_roundw
              case rel => exact ⟨c + 1, by omega, by go_num, HBC.out⟩
              case measure => simp [intOf]; omega
            · obtain rfl : c = asgC j fr := by omega
              rw [HUAT.out] at hcu
              have HZ9 := Lib.hid (show (wr.alloc (.cells #[.int .i64 (asgC j fr : Int)] 3)).heap.size = wr.heap.size + 1 by simp)
              have hz9 := HZ9.out
              have HBA := Lib.hid (show Below wr.heap.size wr (wr.alloc (.cells #[.int .i64 (asgC j fr : Int)] 3)) from (Below.refl _ _).alloc (Nat.le_refl _) _)
              have HOC9 := Lib.hid (ownsRow_below (ownsRow_below HOCR.out HBC.out) HBA.out)
              have HOL9 := Lib.hid (ownsRow_below (ownsRow_below HOLR.out HBC.out) HBA.out)
              have HNB9 := Lib.hid (show (wr.alloc (.cells #[.int .i64 (asgC j fr : Int)] 3)).heap[wr.heap.size]? = some (.cells [.int .i64 (asgC j fr : Int)].toArray 3) from blk_new rfl)
              have HB9 := Lib.hid (HBR.out.trans ((HBC.out.trans (HBA.out.mono hsr)).mono HBR.out.size))
              have hwr : w.heap.size ≤ wr.heap.size := Nat.le_trans HBR.out.size hsr
              clear hcl
              go_wp2_with (at_builtin; refine wpList_append_at rfl (.tmp 62) (.tmp 64) 30 rfl (w.heap.size) 3 iq (.int .i64 0) 1 8 Try.underlying30 hi' hz0 hz1 hz2 rfl (by decide) _ _ _ rfl HOC9.out ⟨wr.heap.size, 0, none⟩ 1 1 [.int .i64 (asgC j fr : Int)] rfl rfl (cells_at HNB9.out) (by intro u hu; simp at hu; subst hu; rfl) (by unfold maxLen; omega) (by omega) (by omega) ?_; intro v8 W8 hown8 hgrow8 hat8)
              refine (spec_l1MaxA (fr.length : Int) ((asgC j fr : Int) + 1) W8).mono ?_
              rintro e w' ⟨rfl, rfl⟩
              obtain ⟨a8, c8, rfl⟩ := own_form hown8
              have R1 := Lib.hid hown8
              have R2 := Lib.hid (ownsRow_keptAt HOL9.out fun g hg => hgrow8.block g (HOL9.out.lt g hg).2 (fun e => HAP3.out g (ob_eq.symm.trans e.symm) (ob_eq.symm.trans hg)))
              have R3 := Lib.hid (grown_apt HAP3.out.symm hat8 (fun g hg => (HOL9.out.lt g (ob_eq.trans hg)).2)).symm
              have R4 := Lib.hid (HB9.out.trans (show Below w.heap.size (wr.alloc (.cells #[.int .i64 (asgC j fr : Int)] 3)) W8 from ⟨hgrow8.os, hgrow8.tape, hgrow8.output, hgrow8.size, fun y hy => hgrow8.block y (by omega) (fun e => by have := (HOC9.out.lt y e.symm).1; omega)⟩))
              clear hown8 hgrow8 hat8 hcu
              go_wp2
              go_roundw
              case rel => exact ⟨j + 1, a8, c8, _, cl2, by omega, by go_num, rfl, rfl, by rw [HC2K.out, HCNT.out], by rw [HC1K.out, List.flatMap_append]; exact R1.out, R2.out, R3.out, R4.out⟩
              case measure => simp [intOf]; omega
    · obtain rfl : k = tr.length := by omega
      obtain ⟨a', c', he, ho⟩ := grown_own (l := (asg tr kp tr.length).1) (ct := ictI) (by decide) vU_len vU_ct (by rw [HL1.out tr.length]; exact HOC.out)
      rw [HL1.out tr.length] at he ho
      cases he
      have HO := Lib.hid ho
      clear ho
      go_wp2
      go_ret2
      exact ⟨ac, cc, rfl, HO.out, HB.out⟩
end Go.Proofs.Ytopcpgbhmnlcnaa
