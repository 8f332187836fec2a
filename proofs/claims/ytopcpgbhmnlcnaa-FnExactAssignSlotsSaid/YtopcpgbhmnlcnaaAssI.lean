/-
  AssignSlots of the program.
-/
import Derived.Test.YtopcpgbhmnlcnaaAssT
namespace Go.Proofs.Ytopcpgbhmnlcnaa
open Go.ChangeShapes Go.WideShapes Go.ChangeAt Go.RowKit Go.Deep

theorem impl_atMost (z k : Int) (bx : Nat) (w : World) (h : w.cell? ⟨bx, 0, none⟩ = some (.int .i64 k)) :
    Calls Try.prog 37 #[.int .i64 z, .pointer (some ⟨bx, 0, none⟩)] w fun e w' => e = .returned (.bool (decide (z ≤ k))) ∧ w' = w := by
  by_cases hz : z ≤ k
  · have HE := Lib.hid (decide_eq_true hz)
    go_enter Try.func37, Try.ntmps37
    go_wp2
    go_ret
    exact ⟨congrArg (fun q => Ending.returned (Value.bool q)) HE.out.symm, rfl⟩
  · have HE := Lib.hid (decide_eq_false hz)
    go_enter Try.func37, Try.ntmps37
    go_wp2
    go_ret
    exact ⟨congrArg (fun q => Ending.returned (Value.bool q)) HE.out.symm, rfl⟩

set_option maxHeartbeats 3200000 in
set_option maxRecDepth 100000 in
theorem impl_IndexFunc {lo hi c bx k : Nat} {a : Option Addr} (fr : List Int) (hfn : fr.length ≤ 1048576) (w : World) (hhi : hi ≤ w.heap.size) (hs : Sl lo hi w 1 fr.length (fun q => ictI (fr.getD q default)) a) (hb : w.cell? ⟨bx, 0, none⟩ = some (.int .i64 (k : Int))) (hbx : bx < w.heap.size) :
    Calls Try.prog 36 #[.slice a fr.length c, .func (.func 37) #[] #[.pointer (some ⟨bx, 0, none⟩)]] w fun e w' => e = .returned (.int .i64 (asgAt k fr)) ∧ Below w.heap.size w w' := by
  have HS := Lib.hid (fun (W : World) (hW : Below w.heap.size w W) => hs.later hW hhi)
  have HC := Lib.hid (fun (W : World) (hW : Below w.heap.size w W) (z : Int) => impl_atMost z k bx W ((hW.cell (p := ⟨bx, 0, none⟩) hbx).trans hb))
  clear hs hb
  go_enter Try.func36, Try.ntmps36
  go_wp2
  go_loopw [8] (fun i wr => ∃ q : Nat, q ≤ fr.length ∧ i = .int .i64 (q : Int) ∧ noneBelow (fun z => decide (z ≤ (k : Int))) fr q ∧ Below w.heap.size w wr) (fun i _ => fr.length - (intOf i).toNat)
  case atStart => exact ⟨0, Nat.zero_le _, rfl, noneBelow_zero _ _, Below.refl _ _⟩
  case round =>
    obtain ⟨q, hq, rfl, hno, hbl⟩ := hrel
    have HBL := Lib.hid hbl
    have HNO := Lib.hid hno
    clear hno
    by_cases hlt : q < fr.length
    · obtain ⟨b, off, rfl, _, _, hc⟩ := (HS.out wr hbl).at q hlt
      obtain ⟨u, hcu, hlu⟩ := hc 0 (by decide)
      have hcs : wr.cell? ⟨b, off + q, none⟩ = some (.int .i64 (fr.getD q default)) := by rw [← lies_lit hlu]; simpa using hcu
      have HCQ := Lib.hid (HC.out wr hbl (fr.getD q default))
      have hqI : (0 : Int) ≤ (q : Int) ∧ (q : Int) < (fr.length : Int) := by omega
      clear hbl hc hcu hlu
      cases hr : decide (fr.getD q default ≤ (k : Int)) with
      | false =>
        have HPS := Lib.hid (noneBelow_succ HNO.out (p := fun z => decide (z ≤ (k : Int))) hr)
        rw [hr] at HCQ
        clear hr
        generalize fr.getD q default = x at *
        go_wp2_with fail
        refine HCQ.out.mono ?_
        rintro e w1 ⟨rfl, rfl⟩
        go_wp2
        go_roundw
        case rel => exact ⟨q + 1, by omega, by go_num, HPS.out, HBL.out⟩
        case measure => simp [intOf]; omega
      | true =>
        have FIN := Lib.hid (show asgAt k fr = (q : Int) from idxI_at hlt hr HNO.out)
        rw [hr] at HCQ
        clear hr
        generalize fr.getD q default = x at *
        go_wp2_with fail
        refine HCQ.out.mono ?_
        rintro e w1 ⟨rfl, rfl⟩
        go_wp2
        go_ret
        exact ⟨ret_i FIN.out.symm, HBL.out⟩
    · obtain rfl : q = fr.length := by omega
      have FIN := Lib.hid (show asgAt k fr = -1 from idxI_none HNO.out)
      go_wp2
      go_ret
      exact ⟨ret_i FIN.out.symm, HBL.out⟩

theorem ob_eq {a : Option Addr} {n c : Nat} : (Value.slice a n c).ownBlock = (Value.slice a 0 0).ownBlock := by cases a <;> rfl
/-- The blocks of two rows. -/
def XX (a a' : Option Addr) (g : Nat) : Prop := (Value.slice a 0 0).ownBlock = some g ∨ (Value.slice a' 0 0).ownBlock = some g
/-- Two rows of the call's own lie apart. -/
def Apt (a a' : Option Addr) : Prop := ∀ g, (Value.slice a 0 0).ownBlock = some g → (Value.slice a' 0 0).ownBlock ≠ some g

theorem row_some {w : World} {B n c : Nat} {e : TypeId} {a : Option Addr} {xs : List Value} (h : w.ownsRow B e 1 (.slice a n c) n xs) (hn : 0 < n) : ∃ g, a = some ⟨g, 0, none⟩ := by
  have h1 := h.1
  rcases h.2 with ⟨_, hx⟩ | ⟨g, cap, cur, he, _⟩
  · rw [hx] at h1
    simp at h1
    omega
  · simp only [Value.slice.injEq] at he
    exact ⟨g, he.1⟩
theorem set_end (fr : List Int) (f : Int) : (fr ++ [0]).set fr.length f = fr ++ [f] := by
  rw [List.set_append_right _ _ (Nat.le_refl _), Nat.sub_self]; rfl
/-- A row that grew: what is apart stays so, what was computed stays. -/
theorem grown_apt {W3 : World} {a a4 o : Option Addr} {n c n4 c4 : Nat} (hap : Apt o a) (hat : (Value.slice a4 n4 c4).ownBlock = (Value.slice a n c).ownBlock ∨ (Value.slice a4 n4 c4).ownBlock = some W3.heap.size) (ho : ∀ g, (Value.slice o 0 0).ownBlock = some g → g < W3.heap.size) : Apt o a4 := fun g hg h4 => by
  rcases hat with e | e
  · exact hap g hg (ob_eq.symm.trans (e.symm.trans (ob_eq.trans h4)))
  · rw [ob_eq, h4] at e
    simp only [Option.some.injEq] at e
    have := ho g hg
    omega
theorem Apt.symm {a a' : Option Addr} (h : Apt a a') : Apt a' a := fun g h1 h2 => h g h2 h1
theorem LU2.grown {W3 W4 : World} {a a4 o : Option Addr} {n c n4 c4 b : Nat} {aT : Option Addr} {cT : Nat} {tr : List DTraceStep} {kk : Option Value} (h : LU2 W3 b (XX o a) aT cT tr kk) (hg : W3.grownBy W4 (Value.slice a n c).ownBlock) (hat : (Value.slice a4 n4 c4).ownBlock = (Value.slice a n c).ownBlock ∨ (Value.slice a4 n4 c4).ownBlock = some W3.heap.size)
    (ho : ∀ g, (Value.slice o 0 0).ownBlock = some g → b < g) (ha : ∀ g, (Value.slice a 0 0).ownBlock = some g → b < g) (hb : b < W3.heap.size) : LU2 W4 b (XX o a4) aT cT tr kk := by
  have h4 : ∀ g, (Value.slice a4 0 0).ownBlock = some g → (Value.slice a 0 0).ownBlock = some g ∨ W3.heap.size = g := fun g h4 => by
    rcases hat with e | e
    · exact .inl (ob_eq.symm.trans (e.symm.trans (ob_eq.trans h4)))
    · rw [ob_eq, h4] at e
      simp only [Option.some.injEq] at e
      exact .inr e.symm
  have h1 : LU2 W3 b (fun g => XX o a g ∨ XX o a4 g) aT cT tr kk := h.sub fun g hg => hg.elim .inl fun hx => hx.elim (fun e => .inl (.inl e)) fun e => (h4 g e).elim (fun e => .inl (.inr e)) fun e => .inr (by omega)
  have h2 : LU2 W4 b (fun g => XX o a g ∨ XX o a4 g) aT cT tr kk := h1.keep ⟨hg.size, fun y hy hs => hg.block y hs (fun e => hy (.inl (.inr (ob_eq.symm.trans e.symm))))⟩ (fun hx => by
    rcases hx with (e | e) | (e | e)
    · exact absurd (ho b e) (Nat.lt_irrefl _)
    · exact absurd (ha b e) (Nat.lt_irrefl _)
    · exact absurd (ho b e) (Nat.lt_irrefl _)
    · rcases h4 b e with e | e
      · exact absurd (ha b e) (Nat.lt_irrefl _)
      · omega) hb
  exact h2.sub fun g hg => .inl (.inr hg)
theorem XX_comm {a a' : Option Addr} : ∀ g, XX a a' g → XX a' a g := fun _ h => h.symm

set_option maxHeartbeats 12800000 in
set_option maxRecDepth 100000 in
theorem impl_AssignSlotsU {lo hi : Nat} {aT aK : Option Addr} {cT cK : Nat} (tr : List DTraceStep) (hn : tr.length ≤ 1048576) (hin : ∀ k, k < tr.length → (tr.getD k default).fInputs.length ≤ 1048576) (hok : ∀ k, k < tr.length → okMO (tr.getD k default).fAt ∧ ∀ j, j < (tr.getD k default).fInputs.length → okMO ((tr.getD k default).fInputs.getD j default)) (kp : List DInstance) (hkn : kp.length ≤ 1048576) (hkok : ∀ j, j < kp.length → okMO (kp.getD j default)) (w : World) (hhi : hi ≤ w.heap.size) (hs : Sl lo hi w 3 tr.length (fun k => DTraceStep.ct (tr.getD k default)) aT) (hsk : Sl lo hi w 2 kp.length (fun k => DInstance.ct (kp.getD k default)) aK) :
    Calls Try.prog 19 #[.slice aT tr.length cT, .slice aK kp.length cK] w fun e w' => ∃ (ac : Option Addr) (cc : Nat), e = .returned (.tuple #[.slice ac tr.length cc, .int .i64 ((asg tr kp tr.length).2.length : Nat)]) ∧
      Own w' (fun y => w.heap.size ≤ y ∧ y < w'.heap.size) (.sl 1 tr.length (fun q => ictI ((asg tr kp tr.length).1.getD q default))) (.slice ac tr.length cc) ∧ Below w.heap.size w w' := by
  have HND := Lib.hid (impl_needsOf (aT := aT) (cT := cT) (cK := cK) tr kp hkn hkok w hhi hsk)
  have HFA := Lib.hid (fun (W : World) (hW : Below w.heap.size w W) (X : Nat → Prop) => impl_freeAt (lo := lo) (hi := hi) (aT := aT) (b := w.heap.size + 1) (mb := w.heap.size) (X := X) (cT := cT) tr hn hin hok kp W (by omega) (by omega))
  have HS := Lib.hid (fun (W : World) (hW : Below w.heap.size w W) => hs.later hW hhi)
  have HFB := Lib.hid (fun k (hk : k < tr.length) => freeT_bd tr kp hk hn)
  have HL2 := Lib.hid (fun k => asg_len2 tr kp k)
  have HC1 := Lib.hid (fun k => show (asg tr kp (k + 1)).1 = (asg tr kp k).1 ++ [(asgC k (asg tr kp k).2 : Int)] from rfl)
  have HC2 := Lib.hid (fun k => show (asg tr kp (k + 1)).2 = asgF k (freeT tr kp k) (asg tr kp k).2 from rfl)
  have HL1 := Lib.hid (asg_len1 tr kp tr.length)
  obtain ⟨iq, hi', hz0, hz1, hz2⟩ := info_parts info_Int
  have hmf : ∀ (fn : Fn) (first cap : Array Value) (w : World), (Instr.makeFunc fn first cap).run Try.prog w = .ok (.func fn first cap) w := fun _ _ _ _ => rfl
  clear hs hsk hin hok hkok
  go_enter Try.func19, Try.ntmps19
  go_wp2_with fail
  refine HND.out.mono ?_
  rintro e w2 ⟨rfl, hu, ⟨nm, hm⟩, hb⟩
  have hsz2 : w.heap.size + 1 < w2.heap.size := by
    rcases Nat.lt_or_ge (w.heap.size + 1) w2.heap.size with h | h
    · exact h
    · exact absurd hu.c0 (by simp [World.cell?, Array.getElem?_eq_none h])
  have HU2 := Lib.hid hu
  have HM2 := Lib.hid hm
  have HB2 := Lib.hid hb
  clear hu hm hb HND
  go_wp2
  go_loopw [7, 8, 16] (fun vc vf i wr => ∃ (k : Nat) (ac : Option Addr) (cc : Nat) (af : Option Addr) (cf : Nat), k ≤ tr.length ∧ i = .int .i64 (k : Int) ∧ vc = .slice ac k cc ∧ vf = .slice af (asg tr kp k).2.length cf ∧ wr.ownsRow w2.heap.size 3 1 (.slice ac k cc) k ((asg tr kp k).1.flatMap vU) ∧ wr.ownsRow w2.heap.size 3 1 (.slice af (asg tr kp k).2.length cf) (asg tr kp k).2.length ((asg tr kp k).2.flatMap vU) ∧ Apt ac af ∧
    LU2 wr (w.heap.size + 1) (XX ac af) aT cT tr (some (.map (some w.heap.size))) ∧ (∃ n, MapF Try.prog 51 4 okMO embO litB false wr w.heap.size n (hasI kp)) ∧ Below w.heap.size w wr ∧ w2.heap.size ≤ wr.heap.size) (fun _ _ i _ => tr.length - (intOf i).toNat)
  case atStart => exact ⟨0, none, 0, none, 0, Nat.zero_le _, rfl, rfl, rfl, grown_nil, grown_nil, (fun g h => nomatch h), .inl HU2.out, ⟨nm, HM2.out⟩, HB2.out, Nat.le_refl _⟩
  case round =>
    obtain ⟨k, ac, cc, af, cf, hk, rfl, rfl, rfl, hoc, hof, hap, hl, ⟨n1, hm⟩, hb, hszr⟩ := hrel
    have HOC := Lib.hid hoc
    have HOF := Lib.hid hof
    have HAP := Lib.hid hap
    have HL := Lib.hid hl
    have HM := Lib.hid hm
    have HB := Lib.hid hb
    have hszw0 : w.heap.size ≤ wr.heap.size := hb.size
    have HC1K := Lib.hid (HC1.out k)
    have HC2K := Lib.hid (HC2.out k)
    have hfl := HL2.out k
    clear hoc hof hap hl hm hb
    by_cases hlt : k < tr.length
    · have HKB := Lib.hid (HFB.out k hlt)
      generalize hcs0 : (asg tr kp k).1 = cs at HOC HC1K
      generalize hfr0 : (asg tr kp k).2 = fr at HOF HC1K HC2K hfl ⊢
      clear hcs0 hfr0
      have hnk : k ≤ 1048576 := by omega
      have hkI : (0 : Int) ≤ (k : Int) ∧ (k : Int) < (tr.length : Int) := by omega
      have HBA := Lib.hid (show Below wr.heap.size wr (wr.alloc (.cells #[.int .i64 (k : Int)] 3)) from (Below.refl _ _).alloc (Nat.le_refl _) _)
      have HBX := Lib.hid (show (wr.alloc (.cells #[.int .i64 (k : Int)] 3)).heap[wr.heap.size]? = some (.cells #[.int .i64 (k : Int)] 3) from blk_new rfl)
      have HZA := Lib.hid (show (wr.alloc (.cells #[.int .i64 (k : Int)] 3)).heap.size = wr.heap.size + 1 by simp)
      have HIF := Lib.hid (by
        obtain ⟨a', c', he, ho⟩ := grown_own (l := fr) (ct := ictI) (by decide) vU_len vU_ct (ownsRow_below HOF.out HBA.out)
        cases he
        exact impl_IndexFunc (lo := w2.heap.size) (hi := (wr.alloc (.cells #[.int .i64 (k : Int)] 3)).heap.size) (c := cf) (bx := wr.heap.size) (k := k) (a := af) fr (by omega) (wr.alloc (.cells #[.int .i64 (k : Int)] 3)) (Nat.le_refl _) (Sl.of (ho.lies fun y hy => hy)) (pblk_cell HBX.out rfl) (by rw [HZA.out]; omega))
      have HAC := Lib.hid (asgAt_cases k fr)
      have HOCL := Lib.hid (fun g (hg : (Value.slice ac 0 0).ownBlock = some g) => HOC.out.lt g (ob_eq.trans hg))
      have HOFL := Lib.hid (fun g (hg : (Value.slice af 0 0).ownBlock = some g) => HOF.out.lt g (ob_eq.trans hg))
      go_wp2_with fail
      refine HIF.out.mono ?_
      rintro e W2 ⟨rfl, hb1⟩
      have HBW := Lib.hid (HBA.out.trans (hb1.mono (by rw [HZA.out]; omega)))
      have HX2 := Lib.hid ((hb1.block wr.heap.size (by rw [HZA.out]; omega)).trans HBX.out)
      have hszw : wr.heap.size < W2.heap.size := by have := hb1.size; rw [HZA.out] at this; omega
      have HOC2 := Lib.hid (ownsRow_below HOC.out HBW.out)
      have HOF2 := Lib.hid (ownsRow_below HOF.out HBW.out)
      have HL2W := Lib.hid (HL.out.keep' (Kept.of_below_all (F := fun _ => True) HBW.out) (by omega))
      have HM2W := Lib.hid (HM.out.later HBW.out)
      have HB2W := Lib.hid (HB.out.trans (HBW.out.mono hszw0))
      clear hb1 HIF HBA HBX HZA HOC HOF HL HM HB HBW
      rcases HAC.out with ⟨h1, -⟩ | ⟨q, hq, h2, -, -⟩
      · have EC := Lib.hid (show asgC k fr = fr.length by unfold asgC; rw [if_pos (by omega)])
        have EF := Lib.hid (show asgF k (freeT tr kp k) fr = fr ++ [freeT tr kp k] by unfold asgF; rw [if_pos (by omega)])
        rw [h1]
        clear h1 HAC

        have HZ2 := Lib.hid (show (W2.alloc (.cells #[.int .i64 0] 3)).heap.size = W2.heap.size + 1 by simp)
        have HBB := Lib.hid (show Below W2.heap.size W2 (W2.alloc (.cells #[.int .i64 0] 3)) from (Below.refl _ _).alloc (Nat.le_refl _) _)
        have HOC3 := Lib.hid (ownsRow_below HOC2.out HBB.out)
        have HOF3 := Lib.hid (ownsRow_below HOF2.out HBB.out)
        have HNB3 := Lib.hid (show (W2.alloc (.cells #[.int .i64 0] 3)).heap[W2.heap.size]? = some (.cells [.int .i64 0].toArray 3) from blk_new rfl)
        have HX3 := Lib.hid ((HBB.out.block wr.heap.size hszw).trans HX2.out)
        have HL3 := Lib.hid (HL2W.out.keep' (Kept.of_below_all (F := fun _ => True) HBB.out) (by omega))
        have HM3 := Lib.hid (HM2W.out.later HBB.out)
        have HB3 := Lib.hid (HB2W.out.trans (HBB.out.mono HB2W.out.size))
        have hzz := HZ2.out
        clear HX2 HOC2 HOF2 HL2W HM2W HB2W HBB
        have hm1 : ((-1 : Int) < 0) := by decide
        go_wp2_with (at_builtin; refine wpList_append_at rfl (.tmp 26) (.tmp 27) 30 rfl w2.heap.size 3 iq (.int .i64 0) 1 8 Try.underlying30 hi' hz0 hz1 hz2 rfl (by decide) _ _ _ rfl HOF3.out ⟨W2.heap.size, 0, none⟩ 1 1 [.int .i64 0] rfl rfl (cells_at HNB3.out) (by intro u hu; simp at hu; subst hu; rfl) (by unfold maxLen; omega) (by omega) (by omega) ?_; intro v4 W4 hown hgrow hat; have HX4 := Lib.hid ((hgrow.block wr.heap.size (by omega) (fun e => by have := (HOFL.out _ (ob_eq.symm.trans e.symm)).2; omega)).trans HX3.out); have hx9 : W4.cell? ⟨wr.heap.size, 0, none⟩ = some (.int .i64 (k : Int)) := pblk_cell HX4.out rfl)
        obtain ⟨a4, cf4, rfl⟩ := own_form hown
        have HOC4 := Lib.hid (ownsRow_keptAt HOC3.out fun g hg => hgrow.block g (HOC3.out.lt g hg).2 (fun e => HAP.out g (ob_eq.symm.trans hg) (ob_eq.symm.trans e.symm)))
        have HOF4 := Lib.hid (show W4.ownsRow w2.heap.size 3 1 (.slice a4 (fr.length + 1) cf4) (fr.length + 1) ((fr ++ [0]).flatMap vU) from by rw [List.flatMap_append]; exact hown)
        have HAP4 := Lib.hid (grown_apt HAP.out hat (fun g hg => (HOC3.out.lt g (ob_eq.trans hg)).2))
        have HL4 := Lib.hid (LU2.grown (o := ac) HL3.out hgrow hat (fun g hg => by have := (HOC3.out.lt g (ob_eq.trans hg)).1; omega) (fun g hg => by have := (HOF3.out.lt g (ob_eq.trans hg)).1; omega) (by omega))
        have HM4 := Lib.hid (HM3.out.kept hgrow (fun e => by have := (HOF3.out.lt _ e.symm).1; omega))
        have HB4 := Lib.hid (HB3.out.trans (show Below w.heap.size (W2.alloc (.cells #[.int .i64 0] 3)) W4 from ⟨hgrow.os, hgrow.tape, hgrow.output, hgrow.size, fun y hy => hgrow.block y (by omega) (fun e => by have := (HOF3.out.lt y e.symm).1; omega)⟩))
        have HS4 := Lib.hid (show w2.heap.size ≤ W4.heap.size by have := hgrow.size; omega)
        clear hgrow hat hown HX3 HOC3 HOF3 HL3 HM3 HB3 HNB3 HOCL HOFL hm1 hzz HZ2 hx9
        have hx : W4.cell? ⟨wr.heap.size, 0, none⟩ = some (.int .i64 (k : Int)) := pblk_cell HX4.out rfl
        have HBT4 := Lib.hid HB4.out
        have hs4 : w2.heap.size ≤ W4.heap.size := HS4.out
        have HCALL := Lib.hid (HFA.out W4 HBT4.out (XX ac a4) (by omega) (fun g hg => hg.elim (fun e => (HOC4.out.lt g (ob_eq.trans e)).2) (fun e => (HOF4.out.lt g (ob_eq.trans e)).2)) (HS.out W4 HBT4.out) HL4.out ⟨n1, HM4.out⟩ k hlt)
        first | refine HCALL.out.mono ?_ | (go_wp2_with fail; refine HCALL.out.mono ?_)
        rintro e W5 ⟨rfl, hl5, hw5⟩
        have hs5 : w2.heap.size ≤ W5.heap.size := Nat.le_trans hs4 hw5.size
        have HL5 := Lib.hid hl5
        have HOC5 := Lib.hid (ownsRow_keptAt HOC4.out fun g hg => hw5.block g (HOC4.out.lt g hg).2 (by have := (HOC4.out.lt g hg).1; show ¬ g = w.heap.size + 1; omega))
        have HOF5 := Lib.hid (ownsRow_keptAt HOF4.out fun g hg => hw5.block g (HOF4.out.lt g hg).2 (by have := (HOF4.out.lt g hg).1; show ¬ g = w.heap.size + 1; omega))
        have HM5 := Lib.hid (HM4.out.block (hw5.block _ HM4.out.lt (by show ¬ w.heap.size = w.heap.size + 1; omega)))
        have HW5 := Lib.hid (HBT4.out.trans (hw5.below (B := w.heap.size) (fun x hx => by omega) HBT4.out.size))
        clear hl5 hw5 HCALL hx HX4 HL4 HM4 HOC4 HB4 HBT4
        obtain ⟨g4, rfl⟩ := row_some HOF5.out (by omega)
        have hrb := ownsRow_block HOF5.out
        have hrc := hrb.2.2.1 fr.length (by omega)
        have hrz := hrb.2.2.2 fr.length
        have HG4 := Lib.hid (And.intro hrb.1 hrb.2.1)
        have hixI : (0 : Int) ≤ (fr.length : Int) ∧ (fr.length : Int) < (((fr.length + 1) : Nat) : Int) := by omega
        have HOF6 := Lib.hid (row_set1 (k := fr.length) (freeT tr kp k) HOF5.out)
        have hna : (Value.slice ac k cc).ownBlock ≠ some g4 := fun e => HAP4.out g4 (ob_eq.symm.trans e) rfl
        have HOC6 := Lib.hid (ownsRow_setCell_other HOC5.out (a := ⟨g4, fr.length, none⟩) hna (.int .i64 (freeT tr kp k)))
        have HOC7 := Lib.hid (ownsRow_below HOC6.out ((Below.refl _ (W5.setCell ⟨g4, fr.length, none⟩ (.int .i64 (freeT tr kp k)))).alloc (Nat.le_refl _) (.cells #[.int .i64 (fr.length : Int)] 3)))
        have HOF7 := Lib.hid (ownsRow_below HOF6.out ((Below.refl _ (W5.setCell ⟨g4, fr.length, none⟩ (.int .i64 (freeT tr kp k)))).alloc (Nat.le_refl _) (.cells #[.int .i64 (fr.length : Int)] 3)))
        have hsz6 : (W5.setCell ⟨g4, fr.length, none⟩ (.int .i64 (freeT tr kp k))).heap.size = W5.heap.size := by simp [World.setCell]
        have HK6 := Lib.hid (show Kept (fun y => ¬ XX ac (some ⟨g4, 0, none⟩) y) W5 (W5.setCell ⟨g4, fr.length, none⟩ (.int .i64 (freeT tr kp k))) from Kept.setCell (fun h => h (.inr rfl)))
        have HL6 := Lib.hid (HL5.out.keep HK6.out (fun h => h.elim (fun e => by have := (HOC5.out.lt _ (ob_eq.trans e)).1; omega) (fun e => by have e' : some g4 = some (w.heap.size + 1) := e; simp only [Option.some.injEq] at e'; have := HG4.out.2; omega)) (by omega))
        have HL7 := Lib.hid (HL6.out.keep' (Kept.of_below_all (F := fun _ => True) ((Below.refl _ (W5.setCell ⟨g4, fr.length, none⟩ (.int .i64 (freeT tr kp k)))).alloc (Nat.le_refl _) (.cells #[.int .i64 (fr.length : Int)] 3))) (by omega))
        have HM6 := Lib.hid (HM5.out.block (Below.heap_setCell W5 ⟨g4, fr.length, none⟩ (.int .i64 (freeT tr kp k)) w.heap.size (by have := HG4.out.2; show ¬ w.heap.size = g4; omega)))
        have HM7 := Lib.hid (HM6.out.later ((Below.refl _ (W5.setCell ⟨g4, fr.length, none⟩ (.int .i64 (freeT tr kp k)))).alloc (Nat.le_refl _) (.cells #[.int .i64 (fr.length : Int)] 3)))
        have hsz7 : ((W5.setCell ⟨g4, fr.length, none⟩ (.int .i64 (freeT tr kp k))).alloc (.cells #[.int .i64 (fr.length : Int)] 3)).heap.size = W5.heap.size + 1 := by simp [World.setCell]
        have HNB7 := Lib.hid (show ((W5.setCell ⟨g4, fr.length, none⟩ (.int .i64 (freeT tr kp k))).alloc (.cells #[.int .i64 (fr.length : Int)] 3)).heap[W5.heap.size]? = some (.cells [.int .i64 (fr.length : Int)].toArray 3) from by rw [← hsz6]; exact blk_new rfl)
        go_wp2_with (at_builtin; refine wpList_append_at rfl (.tmp 35) (.tmp 37) 30 rfl w2.heap.size 3 iq (.int .i64 0) 1 8 Try.underlying30 hi' hz0 hz1 hz2 rfl (by decide) _ _ _ rfl HOC7.out ⟨W5.heap.size, 0, none⟩ 1 1 [.int .i64 (fr.length : Int)] rfl rfl (cells_at HNB7.out) (by intro u hu; simp at hu; subst hu; rfl) (by unfold maxLen; omega) (by omega) (by rw [hsz7]; omega) ?_; intro v8 W8 hown hgrow hat)
        obtain ⟨a8, c8, rfl⟩ := own_form hown
        have hap8 := (grown_apt (W3 := (W5.setCell ⟨g4, fr.length, none⟩ (.int .i64 (freeT tr kp k))).alloc (.cells #[.int .i64 (fr.length : Int)] 3)) (o := some ⟨g4, 0, none⟩) HAP4.out.symm hat (fun g hg => (HOF7.out.lt g (ob_eq.trans hg)).2)).symm
        have hl8 := LU2.grown (o := some ⟨g4, 0, none⟩) (HL7.out.sub fun g h => .inl (XX_comm g h)) hgrow hat (fun g hg => by have := (HOF7.out.lt g (ob_eq.trans hg)).1; omega) (fun g hg => by have := (HOC7.out.lt g (ob_eq.trans hg)).1; omega) (by omega)
        have hof8 := ownsRow_keptAt HOF7.out fun g hg => hgrow.block g (HOF7.out.lt g hg).2 (fun e => by have e' : some g4 = some g := hg; exact hna (e.symm.trans e'.symm))
        have hb8 : Below w.heap.size w W8 := HW5.out.trans (((((Below.refl w.heap.size W5).setCell (p := ⟨g4, fr.length, none⟩) (by have := HG4.out.2; show w.heap.size ≤ g4; omega) (.int .i64 (freeT tr kp k))).alloc (by rw [hsz6]; omega) (.cells #[.int .i64 (fr.length : Int)] 3))).trans ⟨hgrow.os, hgrow.tape, hgrow.output, hgrow.size, fun y hy => hgrow.block y (by omega) (fun e => by have := (HOC7.out.lt y e.symm).1; omega)⟩)
        have hlen8 : (asg tr kp (k + 1)).2.length = (fr.length + 1) := by rw [HC2K.out, EF.out]; simp
        refine ⟨⟨k + 1, a8, c8, some ⟨g4, 0, none⟩, cf4, by omega, by go_num, rfl, by rw [hlen8], ?_, ?_, hap8, hl8.sub fun g h => .inl (XX_comm g h), ⟨n1, HM7.out.kept hgrow (fun e => by have := (HOC7.out.lt _ e.symm).1; omega)⟩, hb8, by have := hgrow.size; omega⟩, by simp [intOf]; omega⟩
        · rw [HC1K.out, EC.out, List.flatMap_append]
          exact hown
        · rw [hlen8, HC2K.out, EF.out]
          exact (by rw [set_end] at hof8; exact hof8)
      · have EC := Lib.hid (show asgC k fr = q by unfold asgC; rw [if_neg (by omega), h2]; rfl)
        have EF := Lib.hid (show asgF k (freeT tr kp k) fr = fr.set q (freeT tr kp k) by unfold asgF; rw [if_neg (by omega), h2]; rfl)
        have hqn : ¬ ((q : Int) < 0) := by omega
        rw [h2]
        clear h2 HAC
        have HX4 := Lib.hid HX2.out
        have HOC4 := Lib.hid HOC2.out
        have HOF4 := Lib.hid HOF2.out
        have HAP4 := Lib.hid HAP.out
        have HL4 := Lib.hid HL2W.out
        have HM4 := Lib.hid HM2W.out
        have HB4 := Lib.hid HB2W.out
        have HS4 := Lib.hid (show w2.heap.size ≤ W2.heap.size by omega)
        clear HX2 HOC2 HOF2 HL2W HM2W HB2W HOCL HOFL
        have hx : W2.cell? ⟨wr.heap.size, 0, none⟩ = some (.int .i64 (k : Int)) := pblk_cell HX4.out rfl
        have HBT4 := Lib.hid HB4.out
        have hs4 : w2.heap.size ≤ W2.heap.size := HS4.out
        have HCALL := Lib.hid (HFA.out W2 HBT4.out (XX ac af) (by omega) (fun g hg => hg.elim (fun e => (HOC4.out.lt g (ob_eq.trans e)).2) (fun e => (HOF4.out.lt g (ob_eq.trans e)).2)) (HS.out W2 HBT4.out) HL4.out ⟨n1, HM4.out⟩ k hlt)
        first | refine HCALL.out.mono ?_ | (go_wp2_with fail; refine HCALL.out.mono ?_)
        rintro e W5 ⟨rfl, hl5, hw5⟩
        have hs5 : w2.heap.size ≤ W5.heap.size := Nat.le_trans hs4 hw5.size
        have HL5 := Lib.hid hl5
        have HOC5 := Lib.hid (ownsRow_keptAt HOC4.out fun g hg => hw5.block g (HOC4.out.lt g hg).2 (by have := (HOC4.out.lt g hg).1; show ¬ g = w.heap.size + 1; omega))
        have HOF5 := Lib.hid (ownsRow_keptAt HOF4.out fun g hg => hw5.block g (HOF4.out.lt g hg).2 (by have := (HOF4.out.lt g hg).1; show ¬ g = w.heap.size + 1; omega))
        have HM5 := Lib.hid (HM4.out.block (hw5.block _ HM4.out.lt (by show ¬ w.heap.size = w.heap.size + 1; omega)))
        have HW5 := Lib.hid (HBT4.out.trans (hw5.below (B := w.heap.size) (fun x hx => by omega) HBT4.out.size))
        clear hl5 hw5 HCALL hx HX4 HL4 HM4 HOC4 HB4 HBT4
        obtain ⟨g4, rfl⟩ := row_some HOF5.out (by omega)
        have hrb := ownsRow_block HOF5.out
        have hrc := hrb.2.2.1 q (by omega)
        have hrz := hrb.2.2.2 q
        have HG4 := Lib.hid (And.intro hrb.1 hrb.2.1)
        have hixI : (0 : Int) ≤ (q : Int) ∧ (q : Int) < ((fr.length : Nat) : Int) := by omega
        have HOF6 := Lib.hid (row_set1 (k := q) (freeT tr kp k) HOF5.out)
        have hna : (Value.slice ac k cc).ownBlock ≠ some g4 := fun e => HAP4.out g4 (ob_eq.symm.trans e) rfl
        have HOC6 := Lib.hid (ownsRow_setCell_other HOC5.out (a := ⟨g4, q, none⟩) hna (.int .i64 (freeT tr kp k)))
        have HOC7 := Lib.hid (ownsRow_below HOC6.out ((Below.refl _ (W5.setCell ⟨g4, q, none⟩ (.int .i64 (freeT tr kp k)))).alloc (Nat.le_refl _) (.cells #[.int .i64 (q : Int)] 3)))
        have HOF7 := Lib.hid (ownsRow_below HOF6.out ((Below.refl _ (W5.setCell ⟨g4, q, none⟩ (.int .i64 (freeT tr kp k)))).alloc (Nat.le_refl _) (.cells #[.int .i64 (q : Int)] 3)))
        have hsz6 : (W5.setCell ⟨g4, q, none⟩ (.int .i64 (freeT tr kp k))).heap.size = W5.heap.size := by simp [World.setCell]
        have HK6 := Lib.hid (show Kept (fun y => ¬ XX ac (some ⟨g4, 0, none⟩) y) W5 (W5.setCell ⟨g4, q, none⟩ (.int .i64 (freeT tr kp k))) from Kept.setCell (fun h => h (.inr rfl)))
        have HL6 := Lib.hid (HL5.out.keep HK6.out (fun h => h.elim (fun e => by have := (HOC5.out.lt _ (ob_eq.trans e)).1; omega) (fun e => by have e' : some g4 = some (w.heap.size + 1) := e; simp only [Option.some.injEq] at e'; have := HG4.out.2; omega)) (by omega))
        have HL7 := Lib.hid (HL6.out.keep' (Kept.of_below_all (F := fun _ => True) ((Below.refl _ (W5.setCell ⟨g4, q, none⟩ (.int .i64 (freeT tr kp k)))).alloc (Nat.le_refl _) (.cells #[.int .i64 (q : Int)] 3))) (by omega))
        have HM6 := Lib.hid (HM5.out.block (Below.heap_setCell W5 ⟨g4, q, none⟩ (.int .i64 (freeT tr kp k)) w.heap.size (by have := HG4.out.2; show ¬ w.heap.size = g4; omega)))
        have HM7 := Lib.hid (HM6.out.later ((Below.refl _ (W5.setCell ⟨g4, q, none⟩ (.int .i64 (freeT tr kp k)))).alloc (Nat.le_refl _) (.cells #[.int .i64 (q : Int)] 3)))
        have hsz7 : ((W5.setCell ⟨g4, q, none⟩ (.int .i64 (freeT tr kp k))).alloc (.cells #[.int .i64 (q : Int)] 3)).heap.size = W5.heap.size + 1 := by simp [World.setCell]
        have HNB7 := Lib.hid (show ((W5.setCell ⟨g4, q, none⟩ (.int .i64 (freeT tr kp k))).alloc (.cells #[.int .i64 (q : Int)] 3)).heap[W5.heap.size]? = some (.cells [.int .i64 (q : Int)].toArray 3) from by rw [← hsz6]; exact blk_new rfl)
        go_wp2_with (at_builtin; refine wpList_append_at rfl (.tmp 35) (.tmp 37) 30 rfl w2.heap.size 3 iq (.int .i64 0) 1 8 Try.underlying30 hi' hz0 hz1 hz2 rfl (by decide) _ _ _ rfl HOC7.out ⟨W5.heap.size, 0, none⟩ 1 1 [.int .i64 (q : Int)] rfl rfl (cells_at HNB7.out) (by intro u hu; simp at hu; subst hu; rfl) (by unfold maxLen; omega) (by omega) (by rw [hsz7]; omega) ?_; intro v8 W8 hown hgrow hat)
        obtain ⟨a8, c8, rfl⟩ := own_form hown
        have hap8 := (grown_apt (W3 := (W5.setCell ⟨g4, q, none⟩ (.int .i64 (freeT tr kp k))).alloc (.cells #[.int .i64 (q : Int)] 3)) (o := some ⟨g4, 0, none⟩) HAP4.out.symm hat (fun g hg => (HOF7.out.lt g (ob_eq.trans hg)).2)).symm
        have hl8 := LU2.grown (o := some ⟨g4, 0, none⟩) (HL7.out.sub fun g h => .inl (XX_comm g h)) hgrow hat (fun g hg => by have := (HOF7.out.lt g (ob_eq.trans hg)).1; omega) (fun g hg => by have := (HOC7.out.lt g (ob_eq.trans hg)).1; omega) (by omega)
        have hof8 := ownsRow_keptAt HOF7.out fun g hg => hgrow.block g (HOF7.out.lt g hg).2 (fun e => by have e' : some g4 = some g := hg; exact hna (e.symm.trans e'.symm))
        have hb8 : Below w.heap.size w W8 := HW5.out.trans (((((Below.refl w.heap.size W5).setCell (p := ⟨g4, q, none⟩) (by have := HG4.out.2; show w.heap.size ≤ g4; omega) (.int .i64 (freeT tr kp k))).alloc (by rw [hsz6]; omega) (.cells #[.int .i64 (q : Int)] 3))).trans ⟨hgrow.os, hgrow.tape, hgrow.output, hgrow.size, fun y hy => hgrow.block y (by omega) (fun e => by have := (HOC7.out.lt y e.symm).1; omega)⟩)
        have hlen8 : (asg tr kp (k + 1)).2.length = fr.length := by rw [HC2K.out, EF.out]; simp
        refine ⟨⟨k + 1, a8, c8, some ⟨g4, 0, none⟩, cf, by omega, by go_num, rfl, by rw [hlen8], ?_, ?_, hap8, hl8.sub fun g h => .inl (XX_comm g h), ⟨n1, HM7.out.kept hgrow (fun e => by have := (HOC7.out.lt _ e.symm).1; omega)⟩, hb8, by have := hgrow.size; omega⟩, by simp [intOf]; omega⟩
        · rw [HC1K.out, EC.out, List.flatMap_append]
          exact hown
        · rw [hlen8, HC2K.out, EF.out]
          exact hof8
    · obtain rfl : k = tr.length := by omega
      obtain ⟨a', c', he, ho⟩ := grown_own (l := (asg tr kp tr.length).1) (ct := ictI) (by decide) vU_len vU_ct (by rw [HL1.out]; exact HOC.out)
      rw [HL1.out] at he ho
      cases he
      have HO := Lib.hid ho
      clear ho
      go_wp2
      go_ret2
      exact ⟨ac, cc, rfl, HO.out.sub fun y hy => ⟨by omega, hy.2⟩, HB.out⟩
end Go.Proofs.Ytopcpgbhmnlcnaa
