/-
  IsValidExpr, in the model and in the program.
-/
import Derived.Test.YthpnghbhfbiljaaEValid3
namespace Go.Proofs.Ythpnghbhfbiljaa
open Go.ChangeShapes Go.WideShapes Go.ChangeAt Go.RowKit Go.Deep


noncomputable def inv (n : ENode) : Bool := !validN n
/-- One of the nodes is not valid. -/
noncomputable def invX (x : DExpr) : Bool := (nodesX x 0).any inv
theorem inv_depth (x : DExpr) (d : Nat) : inv (nodeOfX x d) = inv (nodeOfX x 0) := rfl
theorem invX_any : ∀ (x : DExpr) (d : Nat), (nodesX x d).any inv = invX x := by
  intro x
  refine DExpr.ind (P := fun x => ∀ d, (nodesX x d).any inv = invX x) (fun x ih d => ?_) x
  unfold invX
  rw [nodesX_eq, nodesX_eq, List.any_cons, List.any_cons, any_list (fun a => ∀ d, (nodesX a d).any inv = invX a) _ _ (fun _ h => h) _ _ ih, any_list (fun a => ∀ d, (nodesX a d).any inv = invX a) _ _ (fun _ h => h) _ _ ih]
  rfl
theorem invX_eq (x : DExpr) : invX x = (inv (nodeOfX x 0) || x.fArgs.any invX) := by
  have h := invX_any x 0
  rw [nodesX_eq, List.any_cons, any_list (fun _ => True) _ _ (fun x _ => invX_any x) _ _ fun _ _ => trivial] at h
  exact h.symm
noncomputable def validX (x : DExpr) : Bool := decide (cntX x ≤ 24) && decide (depX x ≤ 6) && !invX x
theorem sizes_list (P : DExpr → Prop) (hP : ∀ x, P x → ∀ d, ∀ n ∈ nodesX x d, n.fSymbol.size ≤ x.sz ∧ n.fName.size ≤ x.sz) (d : Nat) : ∀ l : List DExpr, (∀ a ∈ l, P a) → ∀ n ∈ nodesL l d, n.fSymbol.size ≤ (l.map DExpr.sz).sum ∧ n.fName.size ≤ (l.map DExpr.sz).sum
  | [], _, _, h => by cases h
  | e :: es, h, n, hn => by
    have hn' : n ∈ nodesX e d ++ nodesL es d := hn
    rw [List.map_cons, List.sum_cons]
    rcases List.mem_append.1 hn' with hn | hn
    · have := hP e (h e (List.mem_cons_self ..)) d n hn
      omega
    · have := sizes_list P hP d es (fun a ha => h a (List.mem_cons_of_mem _ ha)) n hn
      omega
theorem sizes_nodes : ∀ (x : DExpr) (d : Nat), ∀ n ∈ nodesX x d, n.fSymbol.size ≤ x.sz ∧ n.fName.size ≤ x.sz := by
  intro x
  refine DExpr.ind (P := fun x => ∀ d, ∀ n ∈ nodesX x d, n.fSymbol.size ≤ x.sz ∧ n.fName.size ≤ x.sz) (fun x ih d n hn => ?_) x
  rw [nodesX_eq] at hn
  rw [DExpr.sz_eq]
  unfold lsz
  rcases List.mem_cons.1 hn with rfl | hn
  · show x.fSymbol.size ≤ _ ∧ x.fName.size ≤ _
    omega
  · have := sizes_list _ (fun _ h => h) (d + 1) x.fArgs ih n hn
    omega

def SpecL4All (x : DExpr) : Prop := ∀ ⦃lo hi c6 : Nat⦄ ⦃a6 : Option Addr⦄ (_hsz : x.sz ≤ 1048576) (w : World) (_hhi : hi ≤ w.heap.size) (_hs6 : Sl lo hi w 7 x.fArgs.length (ctE x.fArgs) a6),
  Calls Try.prog 38 #[.agg #[.int .i64 x.fKind, .int .i64 x.fN, .int .i64 x.fPos, .int .i64 x.fType, .string x.fSymbol, .string x.fName, .slice a6 x.fArgs.length c6]] w fun e w' => e = .returned (.bool (!invX x)) ∧ Below w.heap.size w w'

set_option maxHeartbeats 1600000 in
set_option maxRecDepth 100000 in
theorem specL4All_step (x : DExpr) (ih : ∀ a ∈ x.fArgs, SpecL4All a) : SpecL4All x := by
  intro lo hi c6 a6 hsz w hhi hs6
  have hn : x.fArgs.length ≤ 1048576 := by have h := hsz; rw [DExpr.sz_eq] at h; unfold lsz at h; omega
  have HZ := Lib.hid hsz
  have IH := Lib.hid ih
  have HS := Lib.hid hs6
  have hW0 : Below w.heap.size w (w.alloc (.cells #[.int .i64 x.fKind, .int .i64 x.fN, .int .i64 x.fPos, .int .i64 x.fType, .string x.fSymbol, .string x.fName, .slice a6 x.fArgs.length c6] 32)) := (Below.refl _ _).alloc (Nat.le_refl _) _
  have HW0 := Lib.hid hW0
  clear hsz ih hs6 hW0
  go_enter Try.func38, Try.ntmps38
  go_wp2
  go_loopw [3] (fun i wr => ∃ k : Nat, k ≤ x.fArgs.length ∧ i = .int .i64 (k : Int) ∧ noneBelow invX x.fArgs k ∧ Below (w.heap.size + 1) (w.alloc (.cells #[.int .i64 x.fKind, .int .i64 x.fN, .int .i64 x.fPos, .int .i64 x.fType, .string x.fSymbol, .string x.fName, .slice a6 x.fArgs.length c6] 32)) wr) (fun i _ => x.fArgs.length - (intOf i).toNat)
  case atStart => exact ⟨0, Nat.zero_le _, rfl, noneBelow_zero _ _, Below.refl _ _⟩
  case round =>
    obtain ⟨k, hk, rfl, hno, hbl⟩ := hrel
    have HB := Lib.hid hbl
    have p6 : wr.cell? ⟨w.heap.size, 6, none⟩ = some (.slice a6 x.fArgs.length c6) := (hbl.cell (p := ⟨w.heap.size, 6, none⟩) (Nat.lt_succ_self _)).trans (by go_simp)
    have hbw : Below w.heap.size w wr := HW0.out.trans (hbl.mono (Nat.le_succ _))
    have HBW := Lib.hid hbw
    have hsz1 : w.heap.size + 1 ≤ wr.heap.size := Nat.le_trans (by simp) hbl.size
    clear hbl
    by_cases hlt : k < x.fArgs.length
    · obtain ⟨rb, ro, rfl, _, hrb, hc⟩ := (HS.out.later (hbw.mono hhi) (Nat.le_refl _)).at k hlt
      rw [ctE_at hlt] at hc
      obtain ⟨a9, c9, hc0, hc1, hc2, hc3, hc4, hc5, hc6, hs9⟩ := DExpr.open hc
      have hszk := szle_at (f := DExpr.sz) x.fArgs k hlt
      have hszx := HZ.out
      rw [DExpr.sz_eq] at hszx
      have IK := Lib.hid (IH.out _ (getD_mem hlt))
      clear hbw hc
      have HC := Lib.hid (fun (W : World) (hW : Below wr.heap.size wr W) => IK.out (c6 := c9) (by omega) W (Nat.le_trans hhi (Nat.le_trans HBW.out.size hW.size)) (hs9.later (hW.mono (Nat.le_trans hhi HBW.out.size)) (Nat.le_refl _)))
      have HNO := Lib.hid hno
      clear hs9 hszk hszx hno
      cases hr : invX (x.fArgs.getD k default)
      · have HPS := Lib.hid (noneBelow_succ HNO.out hr)
        rw [hr] at HC
        clear hr
        generalize x.fArgs.getD k default = y at *
        go_wp2_with fail
        refine (HC.out _ (Below.refl _ _)).mono ?_
        rintro e w1 ⟨rfl, hb1⟩
        have HB1 := Lib.hid (HB.out.trans (hb1.mono hsz1))
        clear hb1
        go_wp2
        go_roundw
        case rel => exact ⟨k + 1, by omega, by go_num, HPS.out, HB1.out⟩
        case measure => simp [intOf]; omega
      · have FIN := Lib.hid (show (!invX x) = false by rw [invX_eq, any_at hlt hr, Bool.or_true]; rfl)
        rw [hr] at HC
        clear hr
        generalize x.fArgs.getD k default = y at *
        go_wp2_with fail
        refine (HC.out _ (Below.refl _ _)).mono ?_
        rintro e w1 ⟨rfl, hb1⟩
        have HB1 := Lib.hid (HBW.out.trans (hb1.mono HBW.out.size))
        clear hb1
        go_wp2
        go_ret
        exact ⟨ret_b FIN.out.symm, HB1.out⟩
    · obtain rfl : k = x.fArgs.length := by omega
      clear hbw
      have FIN := Lib.hid (show validN (nodeOfX x 0) = !invX x by rw [invX_eq, any_none hno, Bool.or_false]; unfold inv; rw [Bool.not_not])
      have hszx := HZ.out
      rw [DExpr.sz_eq] at hszx
      have HN := Lib.hid (fun W => spec_l4Node (a6 := a6) (c6 := c6) x (by omega) (by omega) W)
      have p0 : wr.cell? ⟨w.heap.size, 0, none⟩ = some (.int .i64 x.fKind) := (HB.out.cell (p := ⟨w.heap.size, 0, none⟩) (Nat.lt_succ_self _)).trans (by go_simp)
      have p1 : wr.cell? ⟨w.heap.size, 1, none⟩ = some (.int .i64 x.fN) := (HB.out.cell (p := ⟨w.heap.size, 1, none⟩) (Nat.lt_succ_self _)).trans (by go_simp)
      have p2 : wr.cell? ⟨w.heap.size, 2, none⟩ = some (.int .i64 x.fPos) := (HB.out.cell (p := ⟨w.heap.size, 2, none⟩) (Nat.lt_succ_self _)).trans (by go_simp)
      have p3 : wr.cell? ⟨w.heap.size, 3, none⟩ = some (.int .i64 x.fType) := (HB.out.cell (p := ⟨w.heap.size, 3, none⟩) (Nat.lt_succ_self _)).trans (by go_simp)
      have p4 : wr.cell? ⟨w.heap.size, 4, none⟩ = some (.string x.fSymbol) := (HB.out.cell (p := ⟨w.heap.size, 4, none⟩) (Nat.lt_succ_self _)).trans (by go_simp)
      have p5 : wr.cell? ⟨w.heap.size, 5, none⟩ = some (.string x.fName) := (HB.out.cell (p := ⟨w.heap.size, 5, none⟩) (Nat.lt_succ_self _)).trans (by go_simp)
      clear hno hszx
      generalize validN (nodeOfX x 0) = vv at *
      go_wp2_with fail
      refine (HN.out _).mono ?_
      rintro e w1 ⟨rfl, hb1⟩
      have HB1 := Lib.hid (HBW.out.trans (hb1.mono HBW.out.size))
      clear hb1
      go_wp2
      go_ret
      exact ⟨ret_b FIN.out, HB1.out⟩
theorem spec_L4All {lo hi c0_0 : Nat} {a6 : Option Addr} (x : DExpr) (_ : x.ok) (hsz : x.sz ≤ 1048576) (w : World) (hhi : hi ≤ w.heap.size) (hs6 : Sl lo hi w 7 x.fArgs.length (ctE x.fArgs) a6) :
    Calls Try.prog 38 #[.agg #[.int .i64 x.fKind, .int .i64 x.fN, .int .i64 x.fPos, .int .i64 x.fType, .string x.fSymbol, .string x.fName, .slice a6 x.fArgs.length c0_0]] w fun e w' => e = .returned (.bool (!invX x)) ∧ Below w.heap.size w w' :=
  DExpr.ind (P := SpecL4All) specL4All_step x hsz w hhi hs6

def leftX (n : Nat) (q : Int) : Int := if (n : Int) ≤ q then q - n else -1
theorem leftX_yes {n : Nat} {q : Int} (h : (n : Int) ≤ q) : leftX n q = q - n := if_pos h
theorem leftX_no {n : Nat} {q : Int} (h : q < (n : Int)) : leftX n q = -1 := if_neg (by omega)
def SpecLeft (x : DExpr) : Prop := ∀ (q : Int) ⦃lo hi c6 : Nat⦄ ⦃a6 : Option Addr⦄ (_hq0 : 0 ≤ q) (_hq1 : q ≤ 1048576) (_hsz : x.sz ≤ 1048576) (w : World) (_hhi : hi ≤ w.heap.size) (_hs6 : Sl lo hi w 7 x.fArgs.length (ctE x.fArgs) a6),
  Calls Try.prog 36 #[.agg #[.int .i64 x.fKind, .int .i64 x.fN, .int .i64 x.fPos, .int .i64 x.fType, .string x.fSymbol, .string x.fName, .slice a6 x.fArgs.length c6], .int .i64 q] w fun e w' => e = .returned (.int .i64 (leftX (cntX x) q)) ∧ Below w.heap.size w w'

theorem psz_part {α : Type} (f : α → Nat) (l : List α) (k : Nat) : psz f l k ≤ (l.map f).sum := by
  unfold psz
  have h := List.take_append_drop k l
  have h2 : (l.map f).sum = ((l.take k).map f).sum + ((l.drop k).map f).sum := by rw [← List.sum_append, ← List.map_append, h]
  omega

set_option maxHeartbeats 1600000 in
set_option maxRecDepth 100000 in
theorem specLeft_step (x : DExpr) (ih : ∀ a ∈ x.fArgs, SpecLeft a) : SpecLeft x := by
  intro q lo hi c6 a6 hq0 hq1 hsz w hhi hs6
  have hn : x.fArgs.length ≤ 1048576 := by have h := hsz; rw [DExpr.sz_eq] at h; unfold lsz at h; omega
  have HZ := Lib.hid hsz
  have IH := Lib.hid ih
  have HS := Lib.hid hs6
  have hW0 : Below w.heap.size w (w.alloc (.cells #[.int .i64 x.fKind, .int .i64 x.fN, .int .i64 x.fPos, .int .i64 x.fType, .string x.fSymbol, .string x.fName, .slice a6 x.fArgs.length c6] 32)) := (Below.refl _ _).alloc (Nat.le_refl _) _
  have HW0 := Lib.hid hW0
  clear hsz ih hs6 hW0
  go_enter Try.func36, Try.ntmps36
  go_wp2
  go_loopw [1, 5] (fun n i wr => ∃ k : Nat, k ≤ x.fArgs.length ∧ i = .int .i64 (k : Int) ∧ n = .int .i64 (leftX (1 + psz cntX x.fArgs k) q) ∧ Below (w.heap.size + 1) (w.alloc (.cells #[.int .i64 x.fKind, .int .i64 x.fN, .int .i64 x.fPos, .int .i64 x.fType, .string x.fSymbol, .string x.fName, .slice a6 x.fArgs.length c6] 32)) wr) (fun _ i _ => x.fArgs.length - (intOf i).toNat)
  case atStart => exact ⟨0, Nat.zero_le _, rfl, by
    rw [psz_zero]
    by_cases h1 : (1 : Int) ≤ q
    · rw [leftX_yes (by omega)]; congr 1
    · rw [leftX_no (by omega)]; congr 1; omega, Below.refl _ _⟩
  case round =>
    obtain ⟨k, hk, rfl, rfl, hbl⟩ := hrel
    have HB := Lib.hid hbl
    have p6 : wr.cell? ⟨w.heap.size, 6, none⟩ = some (.slice a6 x.fArgs.length c6) := (hbl.cell (p := ⟨w.heap.size, 6, none⟩) (Nat.lt_succ_self _)).trans (by go_simp)
    have hbw : Below w.heap.size w wr := HW0.out.trans (hbl.mono (Nat.le_succ _))
    have HBW := Lib.hid hbw
    have hsz1 : w.heap.size + 1 ≤ wr.heap.size := Nat.le_trans (by simp) hbl.size
    have hcx := cntX_eq x
    have hpl := psz_le cntX x.fArgs k
    unfold lsz at hpl
    clear hbl
    by_cases hle : ((1 + psz cntX x.fArgs k : Nat) : Int) ≤ q
    · rw [leftX_yes hle]
      by_cases hlt : k < x.fArgs.length
      · obtain ⟨rb, ro, rfl, _, hrb, hc⟩ := (HS.out.later (hbw.mono hhi) (Nat.le_refl _)).at k hlt
        rw [ctE_at hlt] at hc
        obtain ⟨a9, c9, hc0, hc1, hc2, hc3, hc4, hc5, hc6, hs9⟩ := DExpr.open hc
        have hszk := szle_at (f := DExpr.sz) x.fArgs k hlt
        have hszx := HZ.out
        rw [DExpr.sz_eq] at hszx
        have IK := Lib.hid (IH.out _ (getD_mem hlt))
        have hL : q - ((1 + psz cntX x.fArgs k : Nat) : Int) = q - 1 - (psz cntX x.fArgs k : Int) := by omega
        rw [hL]
        clear hbw hc hL
        have HC := Lib.hid (fun (W : World) (hW : Below wr.heap.size wr W) => IK.out (q - 1 - (psz cntX x.fArgs k : Int)) (c6 := c9) (by omega) (by omega) (by omega) W (Nat.le_trans hhi (Nat.le_trans HBW.out.size hW.size)) (hs9.later (hW.mono (Nat.le_trans hhi HBW.out.size)) (Nat.le_refl _)))
        have HPS := Lib.hid (show leftX (cntX (x.fArgs.getD k default)) (q - 1 - (psz cntX x.fArgs k : Int)) = leftX (1 + psz cntX x.fArgs (k + 1)) q by
          rw [psz_succ cntX x.fArgs k hlt]
          unfold leftX
          split <;> split <;> omega)
        have hq3 : (0 : Int) ≤ q - 1 - (psz cntX x.fArgs k : Int) := by omega
        have hq4 : q - 1 - (psz cntX x.fArgs k : Int) ≤ 1048576 := by omega
        clear hs9 hszk hszx hle hpl hcx
        generalize q - 1 - (psz cntX x.fArgs k : Int) = S at *
        generalize x.fArgs.getD k default = y at *
        generalize leftX (cntX y) S = S2 at *
        go_wp2_with fail
        refine (HC.out _ (Below.refl _ _)).mono ?_
        rintro e w1 ⟨rfl, hb1⟩
        have HB1 := Lib.hid (HB.out.trans (hb1.mono hsz1))
        clear hb1
        go_wp2
        go_roundw
        case rel => exact ⟨k + 1, by omega, by go_num, by rw [HPS.out], HB1.out⟩
        case measure => simp [intOf]; omega
      · obtain rfl : k = x.fArgs.length := by omega
        have hpa := psz_all cntX x.fArgs
        have FIN := Lib.hid (show q - ((1 + psz cntX x.fArgs x.fArgs.length : Nat) : Int) = leftX (cntX x) q by rw [leftX_yes (by omega)]; omega)
        clear hbw hpl hcx hpa hle
        generalize q - ((1 + psz cntX x.fArgs x.fArgs.length : Nat) : Int) = S at *
        go_wp2
        go_ret
        exact ⟨ret_i FIN.out, HBW.out⟩
    · rw [leftX_no (by omega)]
      have FIN := Lib.hid (show (-1 : Int) = leftX (cntX x) q by
        rw [leftX_no]
        have h1 := psz_part cntX x.fArgs k
        omega)
      clear hbw hpl hcx hle
      by_cases hlt : k < x.fArgs.length
      · go_wp2
        go_ret
        exact ⟨ret_i FIN.out, HBW.out⟩
      · obtain rfl : k = x.fArgs.length := by omega
        go_wp2
        go_ret
        exact ⟨ret_i FIN.out, HBW.out⟩

set_option maxHeartbeats 1600000 in
set_option maxRecDepth 100000 in
theorem spec_IsValidExpr {lo hi c0_0 : Nat} {a6 : Option Addr} (x : DExpr) (hok : x.ok) (hsz : x.sz ≤ 1048576) (w : World) (hhi : hi ≤ w.heap.size) (hs6 : Sl lo hi w 7 x.fArgs.length (ctE x.fArgs) a6) :
    Calls Try.prog 19 #[.agg #[.int .i64 x.fKind, .int .i64 x.fN, .int .i64 x.fPos, .int .i64 x.fType, .string x.fSymbol, .string x.fName, .slice a6 x.fArgs.length c0_0]] w fun e w' => e = .returned (.bool (validX x)) ∧ Below w.heap.size w w' := by
  have HB := Lib.hid ((Below.refl w.heap.size w).alloc (Nat.le_refl _) (.cells #[.int .i64 x.fKind, .int .i64 x.fN, .int .i64 x.fPos, .int .i64 x.fType, .string x.fSymbol, .string x.fName, .slice a6 x.fArgs.length c0_0] 32))
  have HL := Lib.hid (fun (W : World) (hW : Below w.heap.size w W) => DExpr.ind (P := SpecLeft) specLeft_step x 24 (c6 := c0_0) (by decide) (by decide) hsz W (Nat.le_trans hhi hW.size) (hs6.later hW hhi))
  have HD := Lib.hid (fun (W : World) (hW : Below w.heap.size w W) => spec_DepthOfExpr (c0_0 := c0_0) x hok hsz W (Nat.le_trans hhi hW.size) (hs6.later hW hhi))
  have HA := Lib.hid (fun (W : World) (hW : Below w.heap.size w W) => spec_L4All (c0_0 := c0_0) x hok hsz W (Nat.le_trans hhi hW.size) (hs6.later hW hhi))
  have hV : validX x = (decide (cntX x ≤ 24) && decide (depX x ≤ 6) && !invX x) := rfl
  have HV := Lib.hid hV
  have hdc := depX_cnt x
  have hcl := cntX_le x
  clear hs6 hok
  by_cases h1 : cntX x ≤ 24
  · have HV1 := Lib.hid (show validX x = (decide (depX x ≤ 6) && !invX x) by rw [HV.out, decide_eq_true h1, Bool.true_and])
    rw [leftX_yes (by omega)] at HL
    have hl0 : (0 : Int) ≤ 24 - (cntX x : Int) := by omega
    generalize (24 : Int) - (cntX x : Int) = lv at *
    clear h1 HV hV
    by_cases h2 : depX x ≤ 6
    · have HV2 := Lib.hid (show validX x = !invX x by rw [HV1.out, decide_eq_true h2, Bool.true_and])
      have hd : (depX x : Int) ≤ 6 := by omega
      clear h2 HV1
      generalize (depX x : Int) = dv at *
      generalize validX x = r at *
      generalize (!invX x) = r2 at *
      go_enter Try.func19, Try.ntmps19
      go_wp2_with fail
      refine (HL.out _ HB.out).mono ?_
      rintro e w1 ⟨rfl, hb1⟩
      have cw1_0 : w1.cell? ⟨w.heap.size, 0, none⟩ = some (.int .i64 x.fKind) := (hb1.cell (p := ⟨w.heap.size, 0, none⟩) (by simp)).trans (by go_simp)
      have cw1_1 : w1.cell? ⟨w.heap.size, 1, none⟩ = some (.int .i64 x.fN) := (hb1.cell (p := ⟨w.heap.size, 1, none⟩) (by simp)).trans (by go_simp)
      have cw1_2 : w1.cell? ⟨w.heap.size, 2, none⟩ = some (.int .i64 x.fPos) := (hb1.cell (p := ⟨w.heap.size, 2, none⟩) (by simp)).trans (by go_simp)
      have cw1_3 : w1.cell? ⟨w.heap.size, 3, none⟩ = some (.int .i64 x.fType) := (hb1.cell (p := ⟨w.heap.size, 3, none⟩) (by simp)).trans (by go_simp)
      have cw1_4 : w1.cell? ⟨w.heap.size, 4, none⟩ = some (.string x.fSymbol) := (hb1.cell (p := ⟨w.heap.size, 4, none⟩) (by simp)).trans (by go_simp)
      have cw1_5 : w1.cell? ⟨w.heap.size, 5, none⟩ = some (.string x.fName) := (hb1.cell (p := ⟨w.heap.size, 5, none⟩) (by simp)).trans (by go_simp)
      have cw1_6 : w1.cell? ⟨w.heap.size, 6, none⟩ = some (.slice a6 x.fArgs.length c0_0) := (hb1.cell (p := ⟨w.heap.size, 6, none⟩) (by simp)).trans (by go_simp)
      have hs9 : w.heap.size < w1.heap.size := Nat.lt_of_lt_of_le (by simp) hb1.size
      have HB1 := Lib.hid (HB.out.trans (hb1.mono HB.out.size))
      clear hb1
      go_wp2_with fail
      refine (HD.out _ HB1.out).mono ?_
      rintro e w2 ⟨rfl, hb2⟩
      have cw2_0 : w2.cell? ⟨w.heap.size, 0, none⟩ = some (.int .i64 x.fKind) := (hb2.cell (p := ⟨w.heap.size, 0, none⟩) hs9).trans cw1_0
      have cw2_1 : w2.cell? ⟨w.heap.size, 1, none⟩ = some (.int .i64 x.fN) := (hb2.cell (p := ⟨w.heap.size, 1, none⟩) hs9).trans cw1_1
      have cw2_2 : w2.cell? ⟨w.heap.size, 2, none⟩ = some (.int .i64 x.fPos) := (hb2.cell (p := ⟨w.heap.size, 2, none⟩) hs9).trans cw1_2
      have cw2_3 : w2.cell? ⟨w.heap.size, 3, none⟩ = some (.int .i64 x.fType) := (hb2.cell (p := ⟨w.heap.size, 3, none⟩) hs9).trans cw1_3
      have cw2_4 : w2.cell? ⟨w.heap.size, 4, none⟩ = some (.string x.fSymbol) := (hb2.cell (p := ⟨w.heap.size, 4, none⟩) hs9).trans cw1_4
      have cw2_5 : w2.cell? ⟨w.heap.size, 5, none⟩ = some (.string x.fName) := (hb2.cell (p := ⟨w.heap.size, 5, none⟩) hs9).trans cw1_5
      have cw2_6 : w2.cell? ⟨w.heap.size, 6, none⟩ = some (.slice a6 x.fArgs.length c0_0) := (hb2.cell (p := ⟨w.heap.size, 6, none⟩) hs9).trans cw1_6
      have HB2 := Lib.hid (HB1.out.trans (hb2.mono HB1.out.size))
      clear hb2
      go_wp2_with fail
      refine (HA.out _ HB2.out).mono ?_
      rintro e w3 ⟨rfl, hb3⟩
      have HB3 := Lib.hid (HB2.out.trans (hb3.mono HB2.out.size))
      clear hb3
      go_wp2
      go_ret
      exact ⟨ret_b HV2.out.symm, HB3.out⟩
    · have HV2 := Lib.hid (show validX x = false by rw [HV1.out, decide_eq_false h2, Bool.false_and])
      have hd : (6 : Int) < (depX x : Int) := by omega
      clear h2 HV1 HA
      generalize (depX x : Int) = dv at *
      generalize validX x = r at *
      go_enter Try.func19, Try.ntmps19
      go_wp2_with fail
      refine (HL.out _ HB.out).mono ?_
      rintro e w1 ⟨rfl, hb1⟩
      have cw1_0 : w1.cell? ⟨w.heap.size, 0, none⟩ = some (.int .i64 x.fKind) := (hb1.cell (p := ⟨w.heap.size, 0, none⟩) (by simp)).trans (by go_simp)
      have cw1_1 : w1.cell? ⟨w.heap.size, 1, none⟩ = some (.int .i64 x.fN) := (hb1.cell (p := ⟨w.heap.size, 1, none⟩) (by simp)).trans (by go_simp)
      have cw1_2 : w1.cell? ⟨w.heap.size, 2, none⟩ = some (.int .i64 x.fPos) := (hb1.cell (p := ⟨w.heap.size, 2, none⟩) (by simp)).trans (by go_simp)
      have cw1_3 : w1.cell? ⟨w.heap.size, 3, none⟩ = some (.int .i64 x.fType) := (hb1.cell (p := ⟨w.heap.size, 3, none⟩) (by simp)).trans (by go_simp)
      have cw1_4 : w1.cell? ⟨w.heap.size, 4, none⟩ = some (.string x.fSymbol) := (hb1.cell (p := ⟨w.heap.size, 4, none⟩) (by simp)).trans (by go_simp)
      have cw1_5 : w1.cell? ⟨w.heap.size, 5, none⟩ = some (.string x.fName) := (hb1.cell (p := ⟨w.heap.size, 5, none⟩) (by simp)).trans (by go_simp)
      have cw1_6 : w1.cell? ⟨w.heap.size, 6, none⟩ = some (.slice a6 x.fArgs.length c0_0) := (hb1.cell (p := ⟨w.heap.size, 6, none⟩) (by simp)).trans (by go_simp)
      have hs9 : w.heap.size < w1.heap.size := Nat.lt_of_lt_of_le (by simp) hb1.size
      have HB1 := Lib.hid (HB.out.trans (hb1.mono HB.out.size))
      clear hb1
      go_wp2_with fail
      refine (HD.out _ HB1.out).mono ?_
      rintro e w2 ⟨rfl, hb2⟩
      have HB2 := Lib.hid (HB1.out.trans (hb2.mono HB1.out.size))
      clear hb2
      go_wp2
      go_ret
      exact ⟨ret_b HV2.out.symm, HB2.out⟩
  · have HV1 := Lib.hid (show validX x = false by rw [HV.out, decide_eq_false h1, Bool.false_and, Bool.false_and])
    rw [leftX_no (by omega)] at HL
    clear h1 HV hV HA HD hdc hcl
    generalize validX x = r at *
    go_enter Try.func19, Try.ntmps19
    go_wp2_with fail
    refine (HL.out _ HB.out).mono ?_
    rintro e w1 ⟨rfl, hb1⟩
    have HB1 := Lib.hid (HB.out.trans (hb1.mono HB.out.size))
    clear hb1
    go_wp2
    go_ret
    exact ⟨ret_b HV1.out.symm, HB1.out⟩

noncomputable def badN (n : ENode) : Bool := decide (6 < n.fDepth) || inv n
theorem badN_no {x : DExpr} {n : ENode} (hn : n ∈ nodesX x 1) (h : badN n = true) : validX x = false := by
  unfold badN at h
  rw [Bool.or_eq_true, decide_eq_true_eq] at h
  unfold validX
  rcases h with h | h
  · have h1 := maxD_nodes x 1
    have h2 : ∀ N : List ENode, n ∈ N → n.fDepth ≤ maxD N := by
      intro N
      induction N with
      | nil => intro h; cases h
      | cons a N ih =>
        intro h
        show _ ≤ max a.fDepth (maxD N)
        rcases List.mem_cons.1 h with rfl | h
        · omega
        · have := ih h; omega
    have h3 := h2 _ hn
    rw [decide_eq_false (p := depX x ≤ 6) (by omega), Bool.and_false]; rfl
  · have : invX x = true := by rw [← invX_any x 1]; exact List.any_eq_true.2 ⟨n, hn, h⟩
    rw [this, Bool.not_true, Bool.and_false]
theorem badN_all {x : DExpr} (h : ∀ n ∈ nodesX x 1, badN n = false) (hc : cntX x ≤ 24) : validX x = true := by
  have h1 : invX x = false := by
    rw [← invX_any x 1, List.any_eq_false]
    intro n hn
    have := h n hn
    unfold badN at this
    rw [Bool.or_eq_false_iff] at this
    rw [this.2]; decide
  have h2 : depX x ≤ 6 := by
    have h3 := maxD_nodes x 1
    have h4 : ∀ N : List ENode, (∀ n ∈ N, badN n = false) → maxD N ≤ 6 := by
      intro N
      induction N with
      | nil => intro _; exact Nat.zero_le _
      | cons a N ih =>
        intro h
        have ha := h a (List.mem_cons_self ..)
        unfold badN at ha
        rw [Bool.or_eq_false_iff, decide_eq_false_iff_not] at ha
        have := ih fun n hn => h n (List.mem_cons_of_mem _ hn)
        show max a.fDepth (maxD N) ≤ 6
        omega
    have h5 := h4 _ h
    omega
  unfold validX
  rw [decide_eq_true hc, decide_eq_true h2, h1]; rfl

set_option maxHeartbeats 1600000 in
set_option maxRecDepth 100000 in
theorem impl_IsValidExpr {lo hi c0_0 : Nat} {a6 : Option Addr} (x : DExpr) (_ : x.ok) (hsz : x.sz ≤ 1048576) (w : World) (hhi : hi ≤ w.heap.size) (hs6 : Sf lo hi w 7 x.fArgs.length (ctE x.fArgs) a6) :
    Calls Try.prog 23 #[.agg #[.int .i64 x.fKind, .int .i64 x.fN, .int .i64 x.fPos, .int .i64 x.fType, .string x.fSymbol, .string x.fName, .slice a6 x.fArgs.length c0_0]] w fun e w' => e = .returned (.bool (validX x)) ∧ Below w.heap.size w w' := by
  have hbox : Below w.heap.size w (w.alloc (.cells #[.int .i64 x.fKind, .int .i64 x.fN, .int .i64 x.fPos, .int .i64 x.fType, .string x.fSymbol, .string x.fName, .slice a6 x.fArgs.length c0_0] 32)) := (Below.refl _ _).alloc (Nat.le_refl _) _
  have HC := Lib.hid (impl_nodesOf (c6 := c0_0) x hsz 25 ⟨by decide, by decide⟩ (w.alloc (.cells #[.int .i64 x.fKind, .int .i64 x.fN, .int .i64 x.fPos, .int .i64 x.fType, .string x.fSymbol, .string x.fName, .slice a6 x.fArgs.length c0_0] 32)) (Nat.le_trans hhi hbox.size) ((hs6.mono (Nat.zero_le _) (Nat.le_refl _)).later hbox hhi))
  have HB := Lib.hid hbox
  have hl := len_nodesX x 1
  have hM : nodesM x 25 = (nodesX x 1).take 25 := rfl
  have hml : (nodesM x 25).length ≤ 25 := by rw [hM, List.length_take]; omega
  have HNO := Lib.hid (show ∀ k, k < (nodesM x 25).length → badN ((nodesM x 25).getD k default) = true → validX x = false from fun k hk hb => badN_no (by rw [hM] at hk ⊢; exact List.mem_of_mem_take (getD_mem hk)) hb)
  have HYES := Lib.hid (show noneBelow badN (nodesM x 25) (nodesM x 25).length → decide (((nodesM x 25).length : Int) ≤ 24) = validX x from fun h => by
    by_cases hc : cntX x ≤ 24
    · have hMl : nodesM x 25 = nodesX x 1 := by rw [hM]; exact List.take_of_length_le (by omega)
      have : validX x = true := badN_all (fun n hn => by
        obtain ⟨k, hk, rfl⟩ := List.getElem_of_mem hn
        have := h k (by rw [hMl]; exact hk)
        rw [hMl, List.getD_eq_getElem?_getD, List.getElem?_eq_getElem hk] at this
        exact this) hc
      rw [this, hMl]
      exact decide_eq_true (by omega)
    · have : validX x = false := by unfold validX; rw [decide_eq_false hc]; rfl
      rw [this, hM, List.length_take]
      exact decide_eq_false (by omega))
  have HSZ := Lib.hid (show ∀ k, k < (nodesM x 25).length → ((nodesM x 25).getD k default).fSymbol.size ≤ 1048576 ∧ ((nodesM x 25).getD k default).fName.size ≤ 1048576 from fun k hk => by
    have h := sizes_nodes x 1 ((nodesM x 25).getD k default) (by rw [hM] at hk ⊢; exact List.mem_of_mem_take (getD_mem hk))
    omega)
  clear hbox hs6 hl hM
  generalize nodesM x 25 = N at *
  generalize validX x = r at *
  go_enter Try.func23, Try.ntmps23
  go_wp2_with fail
  refine HC.out.mono ?_
  rintro e w1 ⟨v, rfl, hown, hb1⟩
  obtain ⟨a, c, rfl⟩ := own_slice hown
  have R2 := Lib.hid (HB.out.trans (hb1.mono HB.out.size))
  have HO := Lib.hid hown
  clear hown hb1
  go_wp2
  go_loopw [10] (fun i wr => ∃ k : Nat, k ≤ N.length ∧ i = .int .i64 (k : Int) ∧ noneBelow badN N k ∧ Below w1.heap.size w1 wr) (fun i _ => N.length - (intOf i).toNat)
  case atStart => exact ⟨0, Nat.zero_le _, rfl, noneBelow_zero _ _, Below.refl _ _⟩
  case round =>
    obtain ⟨k, hk, rfl, hno, hbl⟩ := hrel
    have HBL := Lib.hid hbl
    have HNB := Lib.hid hno
    clear hno
    by_cases hlt : k < N.length
    · obtain ⟨g, c2, e2, _, _⟩ := own_some HO.out (by omega)
      simp only [Value.slice.injEq, true_and] at e2
      obtain ⟨rfl, rfl⟩ := e2
      obtain ⟨d0, d1, d2, d3, d4, d5, d6, d7⟩ := own_nodes (ownsRow_below HO.out hbl) hlt
      have hss := HSZ.out k hlt
      have HVN := Lib.hid (fun W => impl_isValidNode (N.getD k default) hss.1 hss.2 W)
      have HST := Lib.hid (show badN (N.getD k default) = false → noneBelow badN N (k + 1) from fun h => noneBelow_succ HNB.out h)
      have HFA := Lib.hid (HNO.out k hlt)
      have HBD := Lib.hid (show badN (N.getD k default) = (decide (6 < (N.getD k default).fDepth) || !validN (N.getD k default)) from rfl)
      clear hbl hss
      generalize badN (N.getD k default) = bb at *
      generalize N.getD k default = nd at *
      generalize validN nd = vv at *
      by_cases hd : 6 < nd.fDepth
      · have fin := Lib.hid (HFA.out (by rw [HBD.out, decide_eq_true hd]; rfl))
        have hd2 : (6 : Int) < (nd.fDepth : Int) := by omega
        clear hd
        go_wp2
        go_ret
        exact ⟨ret_b fin.out.symm, R2.out.trans ((HBL.out.alloc HBL.out.size _).mono R2.out.size)⟩
      · have hd2 : (nd.fDepth : Int) ≤ 6 := by omega
        have HB2 := Lib.hid (show bb = !vv by rw [HBD.out, decide_eq_false hd, Bool.false_or])
        clear hd HBD
        cases vv
        · have fin := Lib.hid (HFA.out HB2.out)
          go_wp2_with fail
          refine (HVN.out _).mono ?_
          rintro e w2 ⟨rfl, hb2⟩
          have HB3 := Lib.hid ((HBL.out.alloc HBL.out.size _).trans (hb2.mono (HBL.out.alloc HBL.out.size _).size))
          clear hb2
          go_wp2
          go_ret
          exact ⟨ret_b fin.out.symm, R2.out.trans (HB3.out.mono R2.out.size)⟩
        · have HPS := Lib.hid (HST.out HB2.out)
          go_wp2_with fail
          refine (HVN.out _).mono ?_
          rintro e w2 ⟨rfl, hb2⟩
          have HB3 := Lib.hid ((HBL.out.alloc HBL.out.size _).trans (hb2.mono (HBL.out.alloc HBL.out.size _).size))
          clear hb2
          go_wp2
          go_roundw
          case rel => exact ⟨k + 1, by omega, by go_num, HPS.out, HB3.out⟩
          case measure => simp [intOf]; omega
    · obtain rfl : k = N.length := by omega
      have FIN := Lib.hid (HYES.out HNB.out)
      go_wp2
      go_ret
      exact ⟨ret_b FIN.out, R2.out.trans (HBL.out.mono R2.out.size)⟩
end Go.Proofs.Ythpnghbhfbiljaa
