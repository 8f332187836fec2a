/-
  ConstantValue of the program and of the model.
-/
import Derived.Test.YthpnghbhfbiljaaEvalAll
namespace Go.Proofs.Ythpnghbhfbiljaa
open Go.ChangeShapes Go.WideShapes Go.ChangeAt Go.RowKit Go.Deep

theorem idx_anyV {α : Type} [Inhabited α] (p : α → Bool) (l : List α) : decide (0 ≤ idxI p l) = l.any p := by
  unfold idxI
  cases h : l.findIdx? p with
  | none =>
    rw [List.findIdx?_eq_none_iff] at h
    have : l.any p = false := by rw [List.any_eq_false]; intro a ha; simp [h a ha]
    rw [this]; rfl
  | some k =>
    rw [List.findIdx?_eq_some_iff_getElem] at h
    obtain ⟨h1, h2, _⟩ := h
    have : l.any p = true := List.any_eq_true.2 ⟨l[k], List.getElem_mem _, h2⟩
    rw [this]; simp
theorem all_anyV {α : Type} (p : α → Bool) (l : List α) : (!(l.any fun x => !p x)) = l.all p := by
  induction l with
  | nil => rfl
  | cons a l ih => rw [List.any_cons, List.all_cons, ← ih, Bool.not_or, Bool.not_not]

/-- A constant, an operator or an if. -/
def ckind (k : Int) : Bool := decide (k = 1) || decide (k = 4) || decide (k = 5)
def badC (n : ENode) : Bool := !ckind n.fKind
def badX (x : DExpr) : Bool := (nodesX x 0).any badC
theorem badX_any : ∀ (x : DExpr) (d : Nat), (nodesX x d).any badC = badX x := by
  intro x
  refine DExpr.ind (P := fun x => ∀ d, (nodesX x d).any badC = badX x) (fun x ih d => ?_) x
  unfold badX
  rw [nodesX_eq, nodesX_eq, List.any_cons, List.any_cons, any_list (fun a => ∀ d, (nodesX a d).any badC = badX a) _ _ (fun _ h => h) _ _ ih, any_list (fun a => ∀ d, (nodesX a d).any badC = badX a) _ _ (fun _ h => h) _ _ ih]
  rfl
theorem badX_eq (x : DExpr) : badX x = (badC (nodeOfX x 0) || x.fArgs.any badX) := by
  have h := badX_any x 0
  rw [nodesX_eq, List.any_cons, any_list (fun _ => True) _ _ (fun x _ => badX_any x) _ _ fun _ _ => trivial] at h
  exact h.symm
theorem const_all (x : DExpr) : (nodesX x 1).all (fun n => ckind n.fKind) = !badX x := by
  rw [← all_anyV]
  exact congrArg (!·) (badX_any x 1)
/-- What ConstantValue says. -/
noncomputable def constV (x : DExpr) : Int × Bool := if validX x = true ∧ badX x = false then (evX 0 [] [] x, true) else (0, false)
theorem constV_1 {x : DExpr} (h : validX x = false) : constV x = (0, false) := by unfold constV; rw [if_neg (by rw [h]; simp)]
theorem constV_2 {x : DExpr} (h : badX x = true) : constV x = (0, false) := by unfold constV; rw [if_neg (by rw [h]; simp)]
theorem constV_3 {x : DExpr} (hv : validX x = true) (h : badX x = false) : constV x = (evX 0 [] [] x, true) := by unfold constV; rw [if_pos ⟨hv, h⟩]

set_option maxHeartbeats 3200000 in
set_option maxRecDepth 100000 in
theorem hasConst (nd : ENode) (w : World) :
    Calls Try.prog 34 #[.agg #[.int .i64 nd.fKind, .int .i64 nd.fN, .int .i64 nd.fPos, .int .i64 nd.fType, .string nd.fSymbol, .string nd.fName, .int .i64 (nd.fArgs : Int), .int .i64 (nd.fDepth : Int)]] w fun e w' => e = .returned (.bool (ckind nd.fKind)) ∧ Below w.heap.size w w' := by
  obtain ⟨qk, qn_, qp, qt, qs, qm, qa, qd⟩ := nd
  dsimp only
  by_cases h1 : qk = 1
  · subst h1
    rw [show ckind 1 = true from rfl]
    go_enter Try.func34, Try.ntmps34
    go_wp2
    go_ret
    exact ⟨rfl, (Below.refl _ _).alloc (Nat.le_refl _) _⟩
  · have q1 : (qk == 1) = false := beq_eq_false_iff_ne.2 h1
    by_cases h4 : qk = 4
    · subst h4
      rw [show ckind 4 = true from rfl]
      go_enter Try.func34, Try.ntmps34
      go_wp2
      go_ret
      exact ⟨rfl, (Below.refl _ _).alloc (Nat.le_refl _) _⟩
    · have q4 : (qk == 4) = false := beq_eq_false_iff_ne.2 h4
      by_cases h5 : qk = 5
      · subst h5
        rw [show ckind 5 = true from rfl]
        go_enter Try.func34, Try.ntmps34
        go_wp2
        go_ret
        exact ⟨rfl, (Below.refl _ _).alloc (Nat.le_refl _) _⟩
      · have q5 : (qk == 5) = false := beq_eq_false_iff_ne.2 h5
        rw [show ckind qk = false by unfold ckind; simp [h1, h4, h5]]
        clear h1 h4 h5
        go_enter Try.func34, Try.ntmps34
        go_wp2
        go_ret
        exact ⟨rfl, (Below.refl _ _).alloc (Nat.le_refl _) _⟩

set_option maxHeartbeats 3200000 in
set_option maxRecDepth 100000 in
theorem not_nodes (nd : ENode) (v : Bool) (q1 : Nat) (w : World) (hq : w.cell? ⟨q1, 0, none⟩ = some (.func (.func 34) #[] #[])) (hql : q1 < w.heap.size)
    (hc : ∀ W, Below w.heap.size w W → Calls Try.prog 34 #[.agg #[.int .i64 nd.fKind, .int .i64 nd.fN, .int .i64 nd.fPos, .int .i64 nd.fType, .string nd.fSymbol, .string nd.fName, .int .i64 (nd.fArgs : Int), .int .i64 (nd.fDepth : Int)]] W fun e W' => e = .returned (.bool v) ∧ Below W.heap.size W W') :
    Calls Try.prog 52 #[.agg #[.int .i64 nd.fKind, .int .i64 nd.fN, .int .i64 nd.fPos, .int .i64 nd.fType, .string nd.fSymbol, .string nd.fName, .int .i64 (nd.fArgs : Int), .int .i64 (nd.fDepth : Int)], .pointer (some ⟨q1, 0, none⟩)] w fun e w' => e = .returned (.bool (!v)) ∧ Below w.heap.size w w' := by
  have HB := Lib.hid ((Below.refl w.heap.size w).alloc (Nat.le_refl _) (.cells #[.int .i64 nd.fKind, .int .i64 nd.fN, .int .i64 nd.fPos, .int .i64 nd.fType, .string nd.fSymbol, .string nd.fName, .int .i64 (nd.fArgs : Int), .int .i64 (nd.fDepth : Int)] 71))
  have HC := Lib.hid (hc _ HB.out)
  clear hc
  go_enter Try.func52, Try.ntmps52
  go_wp2_with fail
  refine HC.out.mono ?_
  rintro e w1 ⟨rfl, hb1⟩
  have HB1 := Lib.hid (HB.out.trans (hb1.mono HB.out.size))
  clear hb1
  go_wp2
  go_ret
  exact ⟨rfl, HB1.out⟩

set_option maxHeartbeats 3200000 in
set_option maxRecDepth 100000 in
theorem index_nodes {B c : Nat} {a : Option Addr} (q : ENode → Bool) (q1 : Nat) (l : List ENode) (hl : l.length ≤ 1048577) (w : World) (hs : w.ownsRow B 71 8 (.slice a l.length c) l.length (nodeCells l)) (HP : ∀ k, k < l.length → ∀ (W : World), Below w.heap.size w W → Calls Try.prog 52 #[.agg #[.int .i64 (l.getD k default).fKind, .int .i64 (l.getD k default).fN, .int .i64 (l.getD k default).fPos, .int .i64 (l.getD k default).fType, .string (l.getD k default).fSymbol, .string (l.getD k default).fName, .int .i64 ((l.getD k default).fArgs : Int), .int .i64 ((l.getD k default).fDepth : Int)], .pointer (some ⟨q1, 0, none⟩)] W fun e W' => e = .returned (.bool (q (l.getD k default))) ∧ Below W.heap.size W W') :
    Calls Try.prog 69 #[.slice a l.length c, .func (.func 52) #[] #[.pointer (some ⟨q1, 0, none⟩)]] w fun e w' => e = .returned (.int .i64 (idxI q l)) ∧ Below w.heap.size w w' := by
  have HS := Lib.hid hs
  have HPX := Lib.hid HP
  clear hs HP
  go_enter Try.func69, Try.ntmps69
  go_wp2
  go_loopw [8] (fun i wr => ∃ k : Nat, k ≤ l.length ∧ i = .int .i64 (k : Int) ∧ noneBelow q l k ∧ Below w.heap.size w wr) (fun i _ => l.length - (intOf i).toNat)
  case atStart => exact ⟨0, Nat.zero_le _, rfl, noneBelow_zero _ _, Below.refl _ _⟩
  case round =>
    obtain ⟨k, hk, rfl, hno, hbl⟩ := hrel
    have HBL := Lib.hid hbl
    have HNO := Lib.hid hno
    clear hno
    by_cases hlt : k < l.length
    · obtain ⟨g, c2, e2, _, _⟩ := own_some HS.out (by omega)
      simp only [Value.slice.injEq, true_and] at e2
      obtain ⟨rfl, rfl⟩ := e2
      obtain ⟨hc0, hc1, hc2, hc3, hc4, hc5, hc6, hc7⟩ := own_nodes (ownsRow_below HS.out hbl) hlt
      have HC := Lib.hid (HPX.out k hlt wr hbl)
      clear hbl
      cases hr : q (l.getD k default)
      · have HPS := Lib.hid (noneBelow_succ HNO.out hr)
        rw [hr] at HC
        clear hr
        generalize l.getD k default = x at *
        go_wp2_with fail
        refine HC.out.mono ?_
        rintro e w1 ⟨rfl, hb1⟩
        have HB1 := Lib.hid (HBL.out.trans (hb1.mono HBL.out.size))
        clear hb1
        go_wp2
        go_roundw
        case rel => exact ⟨k + 1, by omega, by go_num, HPS.out, HB1.out⟩
        case measure => simp [intOf]; omega
      · have FIN := Lib.hid (idxI_at hlt hr HNO.out)
        rw [hr] at HC
        clear hr
        generalize l.getD k default = x at *
        go_wp2_with fail
        refine HC.out.mono ?_
        rintro e w1 ⟨rfl, hb1⟩
        have HB1 := Lib.hid (HBL.out.trans (hb1.mono HBL.out.size))
        clear hb1
        go_wp2
        go_ret
        exact ⟨ret_i FIN.out.symm, HB1.out⟩
    · obtain rfl : k = l.length := by omega
      have FIN := Lib.hid (idxI_none HNO.out)
      go_wp2
      go_ret
      exact ⟨ret_i FIN.out.symm, HBL.out⟩

set_option maxHeartbeats 3200000 in
set_option maxRecDepth 100000 in
theorem contains_nodes {B c : Nat} {a : Option Addr} (q : ENode → Bool) (q1 : Nat) (l : List ENode) (hl : l.length ≤ 1048577) (w : World) (hs : w.ownsRow B 71 8 (.slice a l.length c) l.length (nodeCells l)) (HP : ∀ k, k < l.length → ∀ (W : World), Below w.heap.size w W → Calls Try.prog 52 #[.agg #[.int .i64 (l.getD k default).fKind, .int .i64 (l.getD k default).fN, .int .i64 (l.getD k default).fPos, .int .i64 (l.getD k default).fType, .string (l.getD k default).fSymbol, .string (l.getD k default).fName, .int .i64 ((l.getD k default).fArgs : Int), .int .i64 ((l.getD k default).fDepth : Int)], .pointer (some ⟨q1, 0, none⟩)] W fun e W' => e = .returned (.bool (q (l.getD k default))) ∧ Below W.heap.size W W') :
    Calls Try.prog 51 #[.slice a l.length c, .func (.func 52) #[] #[.pointer (some ⟨q1, 0, none⟩)]] w fun e w' => e = .returned (.bool (l.any q)) ∧ Below w.heap.size w w' := by
  have HI := Lib.hid (index_nodes (c := c) q q1 l hl w hs HP)
  have HD := Lib.hid (idx_anyV q l)
  clear hs HP
  generalize idxI q l = z at *
  generalize l.any q = r at *
  generalize l.length = n at *
  go_enter Try.func51, Try.ntmps51
  go_wp2_with fail
  refine HI.out.mono ?_
  rintro e w1 ⟨rfl, hb1⟩
  go_wp2
  go_ret
  exact ⟨ret_b HD.out, hb1⟩

set_option maxHeartbeats 3200000 in
set_option maxRecDepth 100000 in
theorem allValid_nodes {B c : Nat} {a : Option Addr} (p : ENode → Bool) (l : List ENode) (hl : l.length ≤ 1048577) (w : World) (hs : w.ownsRow B 71 8 (.slice a l.length c) l.length (nodeCells l)) (HP : ∀ k, k < l.length → ∀ (W : World), Below w.heap.size w W → Calls Try.prog 34 #[.agg #[.int .i64 (l.getD k default).fKind, .int .i64 (l.getD k default).fN, .int .i64 (l.getD k default).fPos, .int .i64 (l.getD k default).fType, .string (l.getD k default).fSymbol, .string (l.getD k default).fName, .int .i64 ((l.getD k default).fArgs : Int), .int .i64 ((l.getD k default).fDepth : Int)]] W fun e W' => e = .returned (.bool (p (l.getD k default))) ∧ Below W.heap.size W W') :
    Calls Try.prog 32 #[.slice a l.length c, .func (.func 34) #[] #[]] w fun e w' => e = .returned (.bool (l.all p)) ∧ Below w.heap.size w w' := by
  have HB := Lib.hid ((Below.refl w.heap.size w).alloc (Nat.le_refl _) (.cells #[.func (.func 34) #[] #[]] 74))
  have HD := Lib.hid (all_anyV p l)
  have HI := Lib.hid (contains_nodes (c := c) (fun x => !p x) w.heap.size l hl (w.alloc (.cells #[.func (.func 34) #[] #[]] 74)) (ownsRow_below hs HB.out) (fun k hk  W hW  => not_nodes _  _ _ W ((hW.cell (p := ⟨w.heap.size, 0, none⟩) (by simp)).trans (by go_simp)) (Nat.lt_of_lt_of_le (by simp) hW.size) (fun W2 hW2 => HP k hk  W2 (HB.out.trans ((hW.trans (hW2.mono hW.size)).mono HB.out.size)) )))
  clear hs HP
  generalize l.all p = r at *
  generalize (l.any fun x => !p x) = z at *
  generalize l.length = n at *
  go_enter Try.func32, Try.ntmps32
  go_wp2_with fail
  refine HI.out.mono ?_
  rintro e w1 ⟨rfl, hb1⟩
  have HB1 := Lib.hid (HB.out.trans (hb1.mono HB.out.size))
  clear hb1
  go_wp2
  go_ret
  exact ⟨ret_b HD.out, HB1.out⟩

def SpecConst (x : DExpr) : Prop := ∀ ⦃lo hi c6 : Nat⦄ ⦃a6 : Option Addr⦄ (_hsz : x.sz ≤ 1048576) (w : World) (_hhi : hi ≤ w.heap.size) (_hs6 : Sl lo hi w 7 x.fArgs.length (ctE x.fArgs) a6),
  Calls Try.prog 31 #[.agg #[.int .i64 x.fKind, .int .i64 x.fN, .int .i64 x.fPos, .int .i64 x.fType, .string x.fSymbol, .string x.fName, .slice a6 x.fArgs.length c6]] w fun e w' => e = .returned (.bool (!badX x)) ∧ Below w.heap.size w w'

set_option maxHeartbeats 1600000 in
set_option maxRecDepth 100000 in
theorem specConst_step (x : DExpr) (ih : ∀ a ∈ x.fArgs, SpecConst a) : SpecConst x := by
  intro lo hi c6 a6 hsz w hhi hs6
  have hn : x.fArgs.length ≤ 1048576 := by have h := hsz; rw [DExpr.sz_eq] at h; unfold lsz at h; omega
  have HZ := Lib.hid hsz
  have IH := Lib.hid ih
  have HS := Lib.hid hs6
  have hW0 : Below w.heap.size w (w.alloc (.cells #[.int .i64 x.fKind, .int .i64 x.fN, .int .i64 x.fPos, .int .i64 x.fType, .string x.fSymbol, .string x.fName, .slice a6 x.fArgs.length c6] 32)) := (Below.refl _ _).alloc (Nat.le_refl _) _
  have HW0 := Lib.hid hW0
  clear hsz ih hs6 hW0
  go_enter Try.func31, Try.ntmps31
  go_wp2
  go_loopw [3] (fun i wr => ∃ k : Nat, k ≤ x.fArgs.length ∧ i = .int .i64 (k : Int) ∧ noneBelow badX x.fArgs k ∧ Below (w.heap.size + 1) (w.alloc (.cells #[.int .i64 x.fKind, .int .i64 x.fN, .int .i64 x.fPos, .int .i64 x.fType, .string x.fSymbol, .string x.fName, .slice a6 x.fArgs.length c6] 32)) wr) (fun i _ => x.fArgs.length - (intOf i).toNat)
  case atStart => exact ⟨0, Nat.zero_le _, rfl, noneBelow_zero _ _, Below.refl _ _⟩
  case round =>
    obtain ⟨k, hk, rfl, hno, hbl⟩ := hrel
    have HB := Lib.hid hbl
    have p6 : wr.cell? ⟨w.heap.size, 6, none⟩ = some (.slice a6 x.fArgs.length c6) := (hbl.cell (p := ⟨w.heap.size, 6, none⟩) (Nat.lt_succ_self _)).trans (by go_simp)
    have hbw : Below w.heap.size w wr := HW0.out.trans (hbl.mono (Nat.le_succ _))
    have HBW := Lib.hid hbw
    have hsz1 : w.heap.size + 1 ≤ wr.heap.size := Nat.le_trans (by simp) hbl.size
    clear hbl
    by_cases hlt : k < x.fArgs.length
    · obtain ⟨rb, ro, rfl, _, hrb, hc⟩ := (HS.out.later (hbw.mono hhi) (Nat.le_refl _)).at k hlt
      rw [ctE_at hlt] at hc
      obtain ⟨a9, c9, hc0, hc1, hc2, hc3, hc4, hc5, hc6, hs9⟩ := DExpr.open hc
      have hszk := szle_at (f := DExpr.sz) x.fArgs k hlt
      have hszx := HZ.out
      rw [DExpr.sz_eq] at hszx
      have IK := Lib.hid (IH.out _ (getD_mem hlt))
      clear hbw hc
      have HC := Lib.hid (fun (W : World) (hW : Below wr.heap.size wr W) => IK.out (c6 := c9) (by omega) W (Nat.le_trans hhi (Nat.le_trans HBW.out.size hW.size)) (hs9.later (hW.mono (Nat.le_trans hhi HBW.out.size)) (Nat.le_refl _)))
      have HNO := Lib.hid hno
      clear hs9 hszk hszx hno
      cases hr : badX (x.fArgs.getD k default)
      · have HPS := Lib.hid (noneBelow_succ HNO.out hr)
        rw [hr] at HC
        clear hr
        generalize x.fArgs.getD k default = y at *
        go_wp2_with fail
        refine (HC.out _ (Below.refl _ _)).mono ?_
        rintro e w1 ⟨rfl, hb1⟩
        have HB1 := Lib.hid (HB.out.trans (hb1.mono hsz1))
        clear hb1
        go_wp2
        go_roundw
        case rel => exact ⟨k + 1, by omega, by go_num, HPS.out, HB1.out⟩
        case measure => simp [intOf]; omega
      · have FIN := Lib.hid (show (!badX x) = false by rw [badX_eq, any_at hlt hr, Bool.or_true]; rfl)
        rw [hr] at HC
        clear hr
        generalize x.fArgs.getD k default = y at *
        go_wp2_with fail
        refine (HC.out _ (Below.refl _ _)).mono ?_
        rintro e w1 ⟨rfl, hb1⟩
        have HB1 := Lib.hid (HBW.out.trans (hb1.mono HBW.out.size))
        clear hb1
        go_wp2
        go_ret
        exact ⟨ret_b FIN.out.symm, HB1.out⟩
    · obtain rfl : k = x.fArgs.length := by omega
      clear hbw
      have HBD := Lib.hid (show ckind x.fKind = !badX x by rw [badX_eq, any_none hno, Bool.or_false]; show _ = !!_; rw [Bool.not_not]; rfl)
      have p0 : wr.cell? ⟨w.heap.size, 0, none⟩ = some (.int .i64 x.fKind) := (HB.out.cell (p := ⟨w.heap.size, 0, none⟩) (Nat.lt_succ_self _)).trans (by go_simp)
      clear hno
      by_cases h1 : x.fKind = 1
      · have FIN := Lib.hid (show true = !badX x by rw [← HBD.out, h1]; rfl)
        clear HBD
        rw [h1] at p0
        clear h1
        go_wp2
        go_ret
        exact ⟨ret_b FIN.out, HBW.out⟩
      · have q1 : (x.fKind == 1) = false := beq_eq_false_iff_ne.2 h1
        by_cases h4 : x.fKind = 4
        · have FIN := Lib.hid (show true = !badX x by rw [← HBD.out, h4]; rfl)
          clear HBD
          rw [h4] at p0
          clear h4
          go_wp2
          go_ret
          exact ⟨ret_b FIN.out, HBW.out⟩
        · have q4 : (x.fKind == 4) = false := beq_eq_false_iff_ne.2 h4
          by_cases h5 : x.fKind = 5
          · have FIN := Lib.hid (show true = !badX x by rw [← HBD.out, h5]; rfl)
            clear HBD
            rw [h5] at p0
            clear h5
            go_wp2
            go_ret
            exact ⟨ret_b FIN.out, HBW.out⟩
          · have q5 : (x.fKind == 5) = false := beq_eq_false_iff_ne.2 h5
            have FIN := Lib.hid (show false = !badX x by rw [← HBD.out]; unfold ckind; simp [h1, h4, h5])
            clear HBD
            clear h1 h4 h5
            go_wp2
            go_ret
            exact ⟨ret_b FIN.out, HBW.out⟩

theorem spec_l19Constant (x : DExpr) : SpecConst x := DExpr.ind (P := SpecConst) specConst_step x

set_option maxHeartbeats 3200000 in
set_option maxRecDepth 100000 in
theorem spec_ConstantValue {lo hi c0_0 : Nat} {a6 : Option Addr} (x : DExpr) (okx : x.ok) (hsz : x.sz ≤ 1048576) (w : World) (hhi : hi ≤ w.heap.size) (hs6 : Sl lo hi w 7 x.fArgs.length (ctE x.fArgs) a6) :
    Calls Try.prog 15 #[.agg #[.int .i64 x.fKind, .int .i64 x.fN, .int .i64 x.fPos, .int .i64 x.fType, .string x.fSymbol, .string x.fName, .slice a6 x.fArgs.length c0_0]] w fun e w' => e = .returned (.tuple #[.int .i64 (constV x).1, .bool (constV x).2]) ∧ Below w.heap.size w w' := by
  have HB0 := Lib.hid ((Below.refl w.heap.size w).alloc (Nat.le_refl _) (.cells #[.int .i64 x.fKind, .int .i64 x.fN, .int .i64 x.fPos, .int .i64 x.fType, .string x.fSymbol, .string x.fName, .slice a6 x.fArgs.length c0_0] 32))
  have HX0 := Lib.hid (show (w.alloc (.cells #[.int .i64 x.fKind, .int .i64 x.fN, .int .i64 x.fPos, .int .i64 x.fType, .string x.fSymbol, .string x.fName, .slice a6 x.fArgs.length c0_0] 32)).heap[w.heap.size]? = some (.cells #[.int .i64 x.fKind, .int .i64 x.fN, .int .i64 x.fPos, .int .i64 x.fType, .string x.fSymbol, .string x.fName, .slice a6 x.fArgs.length c0_0] 32) from blk_new rfl)
  have HSZ := Lib.hid (show (w.alloc (.cells #[.int .i64 x.fKind, .int .i64 x.fN, .int .i64 x.fPos, .int .i64 x.fType, .string x.fSymbol, .string x.fName, .slice a6 x.fArgs.length c0_0] 32)).heap.size = w.heap.size + 1 by simp)
  have HV := Lib.hid (spec_IsValidExpr (c0_0 := c0_0) x okx hsz (w.alloc (.cells #[.int .i64 x.fKind, .int .i64 x.fN, .int .i64 x.fPos, .int .i64 x.fType, .string x.fSymbol, .string x.fName, .slice a6 x.fArgs.length c0_0] 32)) (Nat.le_trans hhi HB0.out.size) (hs6.later HB0.out hhi))
  have HN := Lib.hid (fun (W : World) (hW : Below w.heap.size w W) => spec_l19Constant x (c6 := c0_0) hsz W (Nat.le_trans hhi hW.size) (hs6.later hW hhi))
  cases hv : validX x
  · have FIN := Lib.hid (constV_1 hv)
    rw [hv] at HV
    clear hv hs6 HN HX0 HSZ
    rw [FIN.out]
    clear FIN
    generalize x.fArgs.length = n at *
    go_enter Try.func15, Try.ntmps15
    go_wp2_with fail
    refine HV.out.mono ?_
    rintro e w1 ⟨rfl, hb1⟩
    have HB1 := Lib.hid (HB0.out.trans (hb1.mono HB0.out.size))
    clear hb1
    go_wp2
    go_ret2
    exact ⟨rfl, HB1.out⟩
  · rw [hv] at HV
    have HE := Lib.hid (fun (W : World) (hW : Below w.heap.size w W) (a b : Option Addr) (c d : Nat) => (show Calls Try.prog 20 #[.agg #[.int .i64 x.fKind, .int .i64 x.fN, .int .i64 x.fPos, .int .i64 x.fType, .string x.fSymbol, .string x.fName, .slice a6 x.fArgs.length c0_0], .slice a 0 c, .int .i64 0, .slice b 0 d] W fun e w' => e = .returned (.int .i64 (evX 0 [] [] x)) ∧ Below W.heap.size W w' from spec_l19Eval 0 [] (Nat.zero_le _) [] (Nat.zero_le _) x (valid_inv hv) (c6 := c0_0) (cs := c) (ci := d) (sa := a) (ai := b) hsz W (Nat.le_trans hhi hW.size) (hs6.later hW hhi) Sl.nil Sl.nil))
    clear hs6
    cases hbx : badX x
    · have FIN := Lib.hid (constV_3 hv hbx)
      clear hv
      rw [FIN.out]
      clear FIN
      generalize evX 0 [] [] x = r at *
      rw [hbx] at HN
      clear hbx
      go_enter Try.func15, Try.ntmps15
      go_wp2_with fail
      refine HV.out.mono ?_
      rintro e w1 ⟨rfl, hb1⟩
      have HB1 := Lib.hid (HB0.out.trans (hb1.mono HB0.out.size))
      have X_w1 := Lib.hid ((hb1.block w.heap.size (by rw [HSZ.out]; omega)).trans HX0.out)
      have HS1 := Lib.hid (show w.heap.size < w1.heap.size from Nat.lt_of_lt_of_le (by rw [HSZ.out]; omega) hb1.size)
      clear hb1
      have y0 := pblk_cell (w := w1) (j := 0) (v := .int .i64 x.fKind) X_w1.out rfl
      have y1 := pblk_cell (w := w1) (j := 1) (v := .int .i64 x.fN) X_w1.out rfl
      have y2 := pblk_cell (w := w1) (j := 2) (v := .int .i64 x.fPos) X_w1.out rfl
      have y3 := pblk_cell (w := w1) (j := 3) (v := .int .i64 x.fType) X_w1.out rfl
      have y4 := pblk_cell (w := w1) (j := 4) (v := .string x.fSymbol) X_w1.out rfl
      have y5 := pblk_cell (w := w1) (j := 5) (v := .string x.fName) X_w1.out rfl
      have y6 := pblk_cell (w := w1) (j := 6) (v := .slice a6 x.fArgs.length c0_0) X_w1.out rfl
      go_wp2_with fail
      refine (HN.out w1 HB1.out).mono ?_
      rintro e w2 ⟨rfl, hb2⟩
      have HB2 := Lib.hid (HB1.out.trans (hb2.mono HB1.out.size))
      have X_w2 := Lib.hid ((hb2.block w.heap.size HS1.out).trans X_w1.out)
      have HS2 := Lib.hid (show w.heap.size < w2.heap.size from Nat.lt_of_lt_of_le HS1.out hb2.size)
      clear hb2 y0 y1 y2 y3 y4 y5 y6
      have y0 := pblk_cell (w := w2) (j := 0) (v := .int .i64 x.fKind) X_w2.out rfl
      have y1 := pblk_cell (w := w2) (j := 1) (v := .int .i64 x.fN) X_w2.out rfl
      have y2 := pblk_cell (w := w2) (j := 2) (v := .int .i64 x.fPos) X_w2.out rfl
      have y3 := pblk_cell (w := w2) (j := 3) (v := .int .i64 x.fType) X_w2.out rfl
      have y4 := pblk_cell (w := w2) (j := 4) (v := .string x.fSymbol) X_w2.out rfl
      have y5 := pblk_cell (w := w2) (j := 5) (v := .string x.fName) X_w2.out rfl
      have y6 := pblk_cell (w := w2) (j := 6) (v := .slice a6 x.fArgs.length c0_0) X_w2.out rfl
      go_wp2_with fail
      refine (HE.out _ ?hbe _ _ _ _).mono ?_
      case hbe => (have := HS2.out; refine HB2.out.trans ?_; repeat (first | (with_reducible exact Below.refl _ _) | (refine Below.alloc ?_ (by first | omega | (simp <;> omega)) _)))
      rintro e w3 ⟨rfl, hb3⟩
      have HB3 := Lib.hid hb3
      clear hb3
      go_wp2
      go_ret2
      refine ⟨rfl, HB2.out.trans (Below.trans ?_ (HB3.out.mono (by have := HS2.out; first | omega | (simp <;> omega))))⟩
      (have := HS2.out; repeat (first | (with_reducible exact Below.refl _ _) | (refine Below.alloc ?_ (by first | omega | (simp <;> omega)) _)))
    · have FIN := Lib.hid (constV_2 hbx)
      clear hv HE
      rw [FIN.out]
      clear FIN
      rw [hbx] at HN
      clear hbx
      go_enter Try.func15, Try.ntmps15
      go_wp2_with fail
      refine HV.out.mono ?_
      rintro e w1 ⟨rfl, hb1⟩
      have HB1 := Lib.hid (HB0.out.trans (hb1.mono HB0.out.size))
      have X_w1 := Lib.hid ((hb1.block w.heap.size (by rw [HSZ.out]; omega)).trans HX0.out)
      have HS1 := Lib.hid (show w.heap.size < w1.heap.size from Nat.lt_of_lt_of_le (by rw [HSZ.out]; omega) hb1.size)
      clear hb1
      have y0 := pblk_cell (w := w1) (j := 0) (v := .int .i64 x.fKind) X_w1.out rfl
      have y1 := pblk_cell (w := w1) (j := 1) (v := .int .i64 x.fN) X_w1.out rfl
      have y2 := pblk_cell (w := w1) (j := 2) (v := .int .i64 x.fPos) X_w1.out rfl
      have y3 := pblk_cell (w := w1) (j := 3) (v := .int .i64 x.fType) X_w1.out rfl
      have y4 := pblk_cell (w := w1) (j := 4) (v := .string x.fSymbol) X_w1.out rfl
      have y5 := pblk_cell (w := w1) (j := 5) (v := .string x.fName) X_w1.out rfl
      have y6 := pblk_cell (w := w1) (j := 6) (v := .slice a6 x.fArgs.length c0_0) X_w1.out rfl
      go_wp2_with fail
      refine (HN.out w1 HB1.out).mono ?_
      rintro e w2 ⟨rfl, hb2⟩
      have HB2 := Lib.hid (HB1.out.trans (hb2.mono HB1.out.size))
      have X_w2 := Lib.hid ((hb2.block w.heap.size HS1.out).trans X_w1.out)
      have HS2 := Lib.hid (show w.heap.size < w2.heap.size from Nat.lt_of_lt_of_le HS1.out hb2.size)
      clear hb2 y0 y1 y2 y3 y4 y5 y6
      go_wp2
      go_ret2
      exact ⟨rfl, HB2.out⟩

set_option maxHeartbeats 3200000 in
set_option maxRecDepth 100000 in
theorem impl_ConstantValue {hi c0_0 : Nat} {a6 : Option Addr} (x : DExpr) (okx : x.ok) (hsz : x.sz ≤ 1048576) (w : World) (hhi : hi ≤ w.heap.size) (hs6 : Sf 0 hi w 7 x.fArgs.length (ctE x.fArgs) a6) :
    Calls Try.prog 16 #[.agg #[.int .i64 x.fKind, .int .i64 x.fN, .int .i64 x.fPos, .int .i64 x.fType, .string x.fSymbol, .string x.fName, .slice a6 x.fArgs.length c0_0]] w fun e w' => e = .returned (.tuple #[.int .i64 (constV x).1, .bool (constV x).2]) ∧ Below w.heap.size w w' := by
  have HB0 := Lib.hid ((Below.refl w.heap.size w).alloc (Nat.le_refl _) (.cells #[.int .i64 x.fKind, .int .i64 x.fN, .int .i64 x.fPos, .int .i64 x.fType, .string x.fSymbol, .string x.fName, .slice a6 x.fArgs.length c0_0] 32))
  have HX0 := Lib.hid (show (w.alloc (.cells #[.int .i64 x.fKind, .int .i64 x.fN, .int .i64 x.fPos, .int .i64 x.fType, .string x.fSymbol, .string x.fName, .slice a6 x.fArgs.length c0_0] 32)).heap[w.heap.size]? = some (.cells #[.int .i64 x.fKind, .int .i64 x.fN, .int .i64 x.fPos, .int .i64 x.fType, .string x.fSymbol, .string x.fName, .slice a6 x.fArgs.length c0_0] 32) from blk_new rfl)
  have HSZ := Lib.hid (show (w.alloc (.cells #[.int .i64 x.fKind, .int .i64 x.fN, .int .i64 x.fPos, .int .i64 x.fType, .string x.fSymbol, .string x.fName, .slice a6 x.fArgs.length c0_0] 32)).heap.size = w.heap.size + 1 by simp)
  have HV := Lib.hid (impl_IsValidExpr (c0_0 := c0_0) x okx hsz (w.alloc (.cells #[.int .i64 x.fKind, .int .i64 x.fN, .int .i64 x.fPos, .int .i64 x.fType, .string x.fSymbol, .string x.fName, .slice a6 x.fArgs.length c0_0] 32)) (Nat.le_trans hhi HB0.out.size) (hs6.later HB0.out hhi))
  have HN := Lib.hid (fun (W : World) (hW : Below w.heap.size w W) => impl_allNodesOf (c6 := c0_0) x hsz W (Nat.le_trans hhi hW.size) (hs6.later hW hhi))
  have HCL := Lib.hid (show (nodesX x 1).length ≤ 1048577 by have h1 := len_nodesX x 1; have h2 := cntX_le x; omega)
  have HCA := Lib.hid (const_all x)
  cases hv : validX x
  · have FIN := Lib.hid (constV_1 hv)
    rw [hv] at HV
    clear hv hs6 HN HX0 HSZ HCL HCA
    rw [FIN.out]
    clear FIN
    generalize x.fArgs.length = n at *
    go_enter Try.func16, Try.ntmps16
    go_wp2_with fail
    refine HV.out.mono ?_
    rintro e w1 ⟨rfl, hb1⟩
    have HB1 := Lib.hid (HB0.out.trans (hb1.mono HB0.out.size))
    clear hb1
    go_wp2
    go_ret2
    exact ⟨rfl, HB1.out⟩
  · rw [hv] at HV
    have HE := Lib.hid (fun (W : World) (hW : Below w.heap.size w W) => (show Calls Try.prog 11 #[.agg #[.int .i64 x.fKind, .int .i64 x.fN, .int .i64 x.fPos, .int .i64 x.fType, .string x.fSymbol, .string x.fName, .slice a6 x.fArgs.length c0_0], .slice none 0 0, .int .i64 0, .slice none 0 0] W fun e w' => e = .returned (.int .i64 (evLocal x [] 0 [])) ∧ Below W.heap.size W w' from impl_EvalLocal (c0_0 := c0_0) (c1_0 := 0) (c3_0 := 0) (sa := none) (ai := none) x okx hsz [] ⟨Nat.zero_le _, fun _ h => nomatch h⟩ (Nat.zero_le _) 0 (by unfold okI; omega) [] ⟨Nat.zero_le _, fun _ h => nomatch h⟩ (Nat.zero_le _) W (Nat.le_trans hhi hW.size) (hs6.later hW hhi) Sf.nil Sf.nil))
    rw [show evLocal x [] 0 [] = evX 0 [] [] x by unfold evLocal; rw [if_pos hv]] at HE
    clear hs6
    cases hbx : badX x
    · have FIN := Lib.hid (constV_3 hv hbx)
      clear hv
      rw [FIN.out]
      clear FIN
      generalize evX 0 [] [] x = r at *
      go_enter Try.func16, Try.ntmps16
      go_wp2_with fail
      refine HV.out.mono ?_
      rintro e w1 ⟨rfl, hb1⟩
      have HB1 := Lib.hid (HB0.out.trans (hb1.mono HB0.out.size))
      have X_w1 := Lib.hid ((hb1.block w.heap.size (by rw [HSZ.out]; omega)).trans HX0.out)
      have HS1 := Lib.hid (show w.heap.size < w1.heap.size from Nat.lt_of_lt_of_le (by rw [HSZ.out]; omega) hb1.size)
      clear hb1
      have y0 := pblk_cell (w := w1) (j := 0) (v := .int .i64 x.fKind) X_w1.out rfl
      have y1 := pblk_cell (w := w1) (j := 1) (v := .int .i64 x.fN) X_w1.out rfl
      have y2 := pblk_cell (w := w1) (j := 2) (v := .int .i64 x.fPos) X_w1.out rfl
      have y3 := pblk_cell (w := w1) (j := 3) (v := .int .i64 x.fType) X_w1.out rfl
      have y4 := pblk_cell (w := w1) (j := 4) (v := .string x.fSymbol) X_w1.out rfl
      have y5 := pblk_cell (w := w1) (j := 5) (v := .string x.fName) X_w1.out rfl
      have y6 := pblk_cell (w := w1) (j := 6) (v := .slice a6 x.fArgs.length c0_0) X_w1.out rfl
      go_wp2_with fail
      refine (HN.out w1 HB1.out).mono ?_
      rintro e wn ⟨v, rfl, hown, hbn⟩
      obtain ⟨na, nc, rfl⟩ := own_slice hown
      have HBn := Lib.hid (HB1.out.trans (hbn.mono HB1.out.size))
      have X_wn := Lib.hid ((hbn.block w.heap.size HS1.out).trans X_w1.out)
      have HSn := Lib.hid (show w.heap.size < wn.heap.size from Nat.lt_of_lt_of_le HS1.out hbn.size)
      clear hbn y0 y1 y2 y3 y4 y5 y6
      have HAV := Lib.hid (allValid_nodes (fun n => ckind n.fKind) (nodesX x 1) HCL.out wn hown (fun k hk W hW => hasConst _ W))
      rw [HCA.out, hbx] at HAV
      clear hown HCA HCL hbx
      generalize nodesX x 1 = N at *
      go_wp2_with fail
      refine HAV.out.mono ?_
      rintro e w2 ⟨rfl, hb2⟩
      have HB2 := Lib.hid (HBn.out.trans (hb2.mono HBn.out.size))
      have X_w2 := Lib.hid ((hb2.block w.heap.size HSn.out).trans X_wn.out)
      have HS2 := Lib.hid (show w.heap.size < w2.heap.size from Nat.lt_of_lt_of_le HSn.out hb2.size)
      clear hb2
      have y0 := pblk_cell (w := w2) (j := 0) (v := .int .i64 x.fKind) X_w2.out rfl
      have y1 := pblk_cell (w := w2) (j := 1) (v := .int .i64 x.fN) X_w2.out rfl
      have y2 := pblk_cell (w := w2) (j := 2) (v := .int .i64 x.fPos) X_w2.out rfl
      have y3 := pblk_cell (w := w2) (j := 3) (v := .int .i64 x.fType) X_w2.out rfl
      have y4 := pblk_cell (w := w2) (j := 4) (v := .string x.fSymbol) X_w2.out rfl
      have y5 := pblk_cell (w := w2) (j := 5) (v := .string x.fName) X_w2.out rfl
      have y6 := pblk_cell (w := w2) (j := 6) (v := .slice a6 x.fArgs.length c0_0) X_w2.out rfl
      go_wp2_with fail
      refine (HE.out _ ?hbe).mono ?_
      case hbe => (have := HS2.out; refine HB2.out.trans ?_; repeat (first | (with_reducible exact Below.refl _ _) | (refine Below.alloc ?_ (by first | omega | (simp <;> omega)) _)))
      rintro e w3 ⟨rfl, hb3⟩
      have HB3 := Lib.hid hb3
      clear hb3
      go_wp2
      go_ret2
      refine ⟨rfl, HB2.out.trans (Below.trans ?_ (HB3.out.mono (by have := HS2.out; first | omega | (simp <;> omega))))⟩
      (have := HS2.out; repeat (first | (with_reducible exact Below.refl _ _) | (refine Below.alloc ?_ (by first | omega | (simp <;> omega)) _)))
    · have FIN := Lib.hid (constV_2 hbx)
      clear hv HE
      rw [FIN.out]
      clear FIN
      go_enter Try.func16, Try.ntmps16
      go_wp2_with fail
      refine HV.out.mono ?_
      rintro e w1 ⟨rfl, hb1⟩
      have HB1 := Lib.hid (HB0.out.trans (hb1.mono HB0.out.size))
      have X_w1 := Lib.hid ((hb1.block w.heap.size (by rw [HSZ.out]; omega)).trans HX0.out)
      have HS1 := Lib.hid (show w.heap.size < w1.heap.size from Nat.lt_of_lt_of_le (by rw [HSZ.out]; omega) hb1.size)
      clear hb1
      have y0 := pblk_cell (w := w1) (j := 0) (v := .int .i64 x.fKind) X_w1.out rfl
      have y1 := pblk_cell (w := w1) (j := 1) (v := .int .i64 x.fN) X_w1.out rfl
      have y2 := pblk_cell (w := w1) (j := 2) (v := .int .i64 x.fPos) X_w1.out rfl
      have y3 := pblk_cell (w := w1) (j := 3) (v := .int .i64 x.fType) X_w1.out rfl
      have y4 := pblk_cell (w := w1) (j := 4) (v := .string x.fSymbol) X_w1.out rfl
      have y5 := pblk_cell (w := w1) (j := 5) (v := .string x.fName) X_w1.out rfl
      have y6 := pblk_cell (w := w1) (j := 6) (v := .slice a6 x.fArgs.length c0_0) X_w1.out rfl
      go_wp2_with fail
      refine (HN.out w1 HB1.out).mono ?_
      rintro e wn ⟨v, rfl, hown, hbn⟩
      obtain ⟨na, nc, rfl⟩ := own_slice hown
      have HBn := Lib.hid (HB1.out.trans (hbn.mono HB1.out.size))
      have X_wn := Lib.hid ((hbn.block w.heap.size HS1.out).trans X_w1.out)
      have HSn := Lib.hid (show w.heap.size < wn.heap.size from Nat.lt_of_lt_of_le HS1.out hbn.size)
      clear hbn y0 y1 y2 y3 y4 y5 y6
      have HAV := Lib.hid (allValid_nodes (fun n => ckind n.fKind) (nodesX x 1) HCL.out wn hown (fun k hk W hW => hasConst _ W))
      rw [HCA.out, hbx] at HAV
      clear hown HCA HCL hbx
      generalize nodesX x 1 = N at *
      go_wp2_with fail
      refine HAV.out.mono ?_
      rintro e w2 ⟨rfl, hb2⟩
      have HB2 := Lib.hid (HBn.out.trans (hb2.mono HBn.out.size))
      have X_w2 := Lib.hid ((hb2.block w.heap.size HSn.out).trans X_wn.out)
      have HS2 := Lib.hid (show w.heap.size < w2.heap.size from Nat.lt_of_lt_of_le HSn.out hb2.size)
      clear hb2
      go_wp2
      go_ret2
      exact ⟨rfl, HB2.out⟩
end Go.Proofs.Ythpnghbhfbiljaa
