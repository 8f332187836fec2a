/-
  HasRemote, in the model and in the program.
-/
import Derived.Test.YtmbihfeocfikbaaECount
import Derived.Test.YtmbihfeocfikbaaIdx
namespace Go.Proofs.Ytmbihfeocfikbaa
open Go.ChangeShapes Go.WideShapes Go.ChangeAt Go.RowKit Go.Deep


def remN (n : ENode) : Bool := n.fKind == 8
/-- A remote attribute is among the nodes. -/
def remX (x : DExpr) : Bool := (nodesX x 0).any remN
theorem any_list (P : DExpr → Prop) (q : ENode → Bool) (r : DExpr → Bool) (hP : ∀ x, P x → ∀ d, (nodesX x d).any q = r x) (d : Nat) : ∀ l : List DExpr, (∀ a ∈ l, P a) → (nodesL l d).any q = l.any r
  | [], _ => rfl
  | e :: es, h => by
    show (nodesX e d ++ nodesL es d).any q = _
    rw [List.any_append, hP e (h e (List.mem_cons_self ..)), any_list P q r hP d es fun a ha => h a (List.mem_cons_of_mem _ ha), List.any_cons]
theorem remX_any : ∀ (x : DExpr) (d : Nat), (nodesX x d).any remN = remX x := by
  intro x
  refine DExpr.ind (P := fun x => ∀ d, (nodesX x d).any remN = remX x) (fun x ih d => ?_) x
  unfold remX
  rw [nodesX_eq, nodesX_eq, List.any_cons, List.any_cons, any_list (fun a => ∀ d, (nodesX a d).any remN = remX a) _ _ (fun _ h => h) _ _ ih, any_list (fun a => ∀ d, (nodesX a d).any remN = remX a) _ _ (fun _ h => h) _ _ ih]
  rfl
theorem remX_eq (x : DExpr) : remX x = ((x.fKind == 8) || x.fArgs.any remX) := by
  have h := remX_any x 0
  rw [nodesX_eq, List.any_cons, any_list (fun _ => True) _ _ (fun x _ => remX_any x) _ _ fun _ _ => trivial] at h
  exact h.symm
theorem any_none {α : Type} [Inhabited α] {p : α → Bool} {l : List α} (h : noneBelow p l l.length) : l.any p = false := by
  rw [List.any_eq_false]
  intro a ha
  obtain ⟨k, hk, rfl⟩ := List.getElem_of_mem ha
  have := h k hk
  rw [List.getD_eq_getElem?_getD, List.getElem?_eq_getElem hk] at this
  simpa using this
theorem any_at {α : Type} [Inhabited α] {p : α → Bool} {l : List α} {k : Nat} (hk : k < l.length) (h : p (l.getD k default) = true) : l.any p = true :=
  List.any_eq_true.2 ⟨_, getD_mem hk, h⟩

def SpecHasRemote (x : DExpr) : Prop := ∀ ⦃lo hi c6 : Nat⦄ ⦃a6 : Option Addr⦄ (_hsz : x.sz ≤ 1048576) (w : World) (_hhi : hi ≤ w.heap.size) (_hs6 : Sl lo hi w 7 x.fArgs.length (ctE x.fArgs) a6),
  Calls Try.prog 23 #[.agg #[.int .i64 x.fKind, .int .i64 x.fN, .int .i64 x.fPos, .int .i64 x.fType, .string x.fSymbol, .string x.fName, .slice a6 x.fArgs.length c6]] w fun e w' => e = .returned (.bool (remX x)) ∧ Below w.heap.size w w'

set_option maxHeartbeats 1600000 in
set_option maxRecDepth 100000 in
theorem specHasRemote_step (x : DExpr) (ih : ∀ a ∈ x.fArgs, SpecHasRemote a) : SpecHasRemote x := by
  intro lo hi c6 a6 hsz w hhi hs6
  have hn : x.fArgs.length ≤ 1048576 := by have h := hsz; rw [DExpr.sz_eq] at h; unfold lsz at h; omega
  have HZ := Lib.hid hsz
  have IH := Lib.hid ih
  have HS := Lib.hid hs6
  have hW0 : Below w.heap.size w (w.alloc (.cells #[.int .i64 x.fKind, .int .i64 x.fN, .int .i64 x.fPos, .int .i64 x.fType, .string x.fSymbol, .string x.fName, .slice a6 x.fArgs.length c6] 29)) := (Below.refl _ _).alloc (Nat.le_refl _) _
  have HW0 := Lib.hid hW0
  clear hsz ih hs6 hW0
  go_enter Try.func23, Try.ntmps23
  go_wp2
  go_loopw [3] (fun i wr => ∃ k : Nat, k ≤ x.fArgs.length ∧ i = .int .i64 (k : Int) ∧ noneBelow remX x.fArgs k ∧ Below (w.heap.size + 1) (w.alloc (.cells #[.int .i64 x.fKind, .int .i64 x.fN, .int .i64 x.fPos, .int .i64 x.fType, .string x.fSymbol, .string x.fName, .slice a6 x.fArgs.length c6] 29)) wr) (fun i _ => x.fArgs.length - (intOf i).toNat)
  case atStart => exact ⟨0, Nat.zero_le _, rfl, noneBelow_zero _ _, Below.refl _ _⟩
  case round =>
    obtain ⟨k, hk, rfl, hno, hbl⟩ := hrel
    have HB := Lib.hid hbl
    have p6 : wr.cell? ⟨w.heap.size, 6, none⟩ = some (.slice a6 x.fArgs.length c6) := (hbl.cell (p := ⟨w.heap.size, 6, none⟩) (Nat.lt_succ_self _)).trans (by go_simp)
    have hbw : Below w.heap.size w wr := HW0.out.trans (hbl.mono (Nat.le_succ _))
    have HBW := Lib.hid hbw
    have hsz1 : w.heap.size + 1 ≤ wr.heap.size := Nat.le_trans (by simp) hbl.size
    clear hbl
    by_cases hlt : k < x.fArgs.length
    · obtain ⟨rb, ro, rfl, _, hrb, hc⟩ := (HS.out.later (hbw.mono hhi) (Nat.le_refl _)).at k hlt
      rw [ctE_at hlt] at hc
      obtain ⟨a9, c9, hc0, hc1, hc2, hc3, hc4, hc5, hc6, hs9⟩ := DExpr.open hc
      have hszk := szle_at (f := DExpr.sz) x.fArgs k hlt
      have hszx := HZ.out
      rw [DExpr.sz_eq] at hszx
      have IK := Lib.hid (IH.out _ (getD_mem hlt))
      clear hbw hc
      have HC := Lib.hid (fun (W : World) (hW : Below wr.heap.size wr W) => IK.out (c6 := c9) (by omega) W (Nat.le_trans hhi (Nat.le_trans HBW.out.size hW.size)) (hs9.later (hW.mono (Nat.le_trans hhi HBW.out.size)) (Nat.le_refl _)))
      have HNO := Lib.hid hno
      clear hs9 hszk hszx hno
      cases hr : remX (x.fArgs.getD k default)
      · have HPS := Lib.hid (noneBelow_succ HNO.out hr)
        rw [hr] at HC
        clear hr
        generalize x.fArgs.getD k default = y at *
        go_wp2_with fail
        refine (HC.out _ (Below.refl _ _)).mono ?_
        rintro e w1 ⟨rfl, hb1⟩
        have HB1 := Lib.hid (HB.out.trans (hb1.mono hsz1))
        clear hb1
        go_wp2
        go_roundw
        case rel => exact ⟨k + 1, by omega, by go_num, HPS.out, HB1.out⟩
        case measure => simp [intOf]; omega
      · have FIN := Lib.hid (show remX x = true by rw [remX_eq, any_at hlt hr, Bool.or_true])
        rw [hr] at HC
        clear hr
        generalize x.fArgs.getD k default = y at *
        go_wp2_with fail
        refine (HC.out _ (Below.refl _ _)).mono ?_
        rintro e w1 ⟨rfl, hb1⟩
        have HB1 := Lib.hid (HBW.out.trans (hb1.mono HBW.out.size))
        clear hb1
        go_wp2
        go_ret
        exact ⟨ret_b FIN.out.symm, HB1.out⟩
    · obtain rfl : k = x.fArgs.length := by omega
      clear hbw
      have FIN := Lib.hid (show (x.fKind == 8) = remX x by rw [remX_eq, any_none hno, Bool.or_false])
      have p0 : wr.cell? ⟨w.heap.size, 0, none⟩ = some (.int .i64 x.fKind) := (HB.out.cell (p := ⟨w.heap.size, 0, none⟩) (Nat.lt_succ_self _)).trans (by go_simp)
      clear hno
      go_wp2
      go_ret
      exact ⟨ret_b FIN.out, HBW.out⟩
theorem spec_HasRemote {lo hi c0_0 : Nat} {a6 : Option Addr} (x : DExpr) (_ : x.ok) (hsz : x.sz ≤ 1048576) (w : World) (hhi : hi ≤ w.heap.size) (hs6 : Sl lo hi w 7 x.fArgs.length (ctE x.fArgs) a6) :
    Calls Try.prog 23 #[.agg #[.int .i64 x.fKind, .int .i64 x.fN, .int .i64 x.fPos, .int .i64 x.fType, .string x.fSymbol, .string x.fName, .slice a6 x.fArgs.length c0_0]] w fun e w' => e = .returned (.bool (remX x)) ∧ Below w.heap.size w w' :=
  DExpr.ind (P := SpecHasRemote) specHasRemote_step x hsz w hhi hs6

set_option maxHeartbeats 1600000 in
set_option maxRecDepth 100000 in
theorem impl_HasRemote1 (nd : ENode) (w : World) :
    Calls Try.prog 59 #[.agg #[.int .i64 nd.fKind, .int .i64 nd.fN, .int .i64 nd.fPos, .int .i64 nd.fType, .string nd.fSymbol, .string nd.fName, .int .i64 (nd.fArgs : Int), .int .i64 (nd.fDepth : Int)]] w fun e w' => e = .returned (.bool (remN nd)) ∧ Below w.heap.size w w' := by
  have HR := Lib.hid (show (nd.fKind == 8) = remN nd from rfl)
  go_enter Try.func59, Try.ntmps59
  go_wp2
  go_ret
  exact ⟨ret_b HR.out, (Below.refl _ _).alloc (Nat.le_refl _) _⟩

set_option maxHeartbeats 1600000 in
set_option maxRecDepth 100000 in
theorem indexFunc_HasRemote {c : Nat} {a : Option Addr} {B : Nat} (N : List ENode) (hnl : N.length ≤ 1048577) (w : World) (hown : w.ownsRow B 78 8 (.slice a N.length c) N.length (nodeCells N)) :
    Calls Try.prog 97 #[.slice a N.length c, .func (.func 59) #[] #[]] w fun e w' => e = .returned (.int .i64 (idxI remN N)) ∧ Below w.heap.size w w' := by
  have HO := Lib.hid hown
  clear hown
  go_enter Try.func97, Try.ntmps97
  go_wp2
  go_loopw [8] (fun i wr => ∃ k : Nat, k ≤ N.length ∧ i = .int .i64 (k : Int) ∧ noneBelow remN N k ∧ Below w.heap.size w wr) (fun i _ => N.length - (intOf i).toNat)
  case atStart => exact ⟨0, Nat.zero_le _, rfl, noneBelow_zero _ _, Below.refl _ _⟩
  case round =>
    obtain ⟨k, hk, rfl, hno, hbl⟩ := hrel
    have HBL := Lib.hid hbl
    have HNO := Lib.hid hno
    clear hno
    by_cases hlt : k < N.length
    · obtain ⟨g, c2, e2, _, _⟩ := own_some HO.out (by omega)
      simp only [Value.slice.injEq, true_and] at e2
      obtain ⟨rfl, rfl⟩ := e2
      obtain ⟨d0, d1, d2, d3, d4, d5, d6, d7⟩ := own_nodes (ownsRow_below HO.out hbl) hlt
      have HC := Lib.hid (impl_HasRemote1 (N.getD k default))
      clear hbl
      cases hr : remN (N.getD k default)
      · have HPS := Lib.hid (noneBelow_succ HNO.out hr)
        rw [hr] at HC
        clear hr
        generalize N.getD k default = nd at *
        go_wp2_with fail
        refine (HC.out _).mono ?_
        rintro e w1 ⟨rfl, hb1⟩
        have HB1 := Lib.hid (HBL.out.trans (hb1.mono HBL.out.size))
        clear hb1
        go_wp2
        go_roundw
        case rel => exact ⟨k + 1, by omega, by go_num, HPS.out, HB1.out⟩
        case measure => simp [intOf]; omega
      · have FIN := Lib.hid (idxI_at hlt hr HNO.out)
        rw [hr] at HC
        clear hr
        generalize N.getD k default = nd at *
        go_wp2_with fail
        refine (HC.out _).mono ?_
        rintro e w1 ⟨rfl, hb1⟩
        have HB1 := Lib.hid (HBL.out.trans (hb1.mono HBL.out.size))
        clear hb1
        go_wp2
        go_ret
        exact ⟨ret_i FIN.out.symm, HB1.out⟩
    · obtain rfl : k = N.length := by omega
      have FIN := Lib.hid (idxI_none HNO.out)
      go_wp2
      go_ret
      exact ⟨ret_i FIN.out.symm, HBL.out⟩

theorem idx_any {α : Type} [Inhabited α] (p : α → Bool) (l : List α) : decide (0 ≤ idxI p l) = l.any p := by
  unfold idxI
  cases h : l.findIdx? p with
  | none =>
    rw [List.findIdx?_eq_none_iff] at h
    have : l.any p = false := by rw [List.any_eq_false]; intro a ha; simp [h a ha]
    rw [this]; rfl
  | some k =>
    rw [List.findIdx?_eq_some_iff_getElem] at h
    obtain ⟨h1, h2, _⟩ := h
    have : l.any p = true := List.any_eq_true.2 ⟨l[k], List.getElem_mem _, h2⟩
    rw [this]; simp

set_option maxHeartbeats 1600000 in
set_option maxRecDepth 100000 in
theorem impl_HasRemote {lo hi c0_0 : Nat} {a6 : Option Addr} (x : DExpr) (_ : x.ok) (hsz : x.sz ≤ 1048576) (w : World) (hhi : hi ≤ w.heap.size) (hs6 : Sf lo hi w 7 x.fArgs.length (ctE x.fArgs) a6) :
    Calls Try.prog 24 #[.agg #[.int .i64 x.fKind, .int .i64 x.fN, .int .i64 x.fPos, .int .i64 x.fType, .string x.fSymbol, .string x.fName, .slice a6 x.fArgs.length c0_0]] w fun e w' => e = .returned (.bool (remX x)) ∧ Below w.heap.size w w' := by
  have hbox : Below w.heap.size w (w.alloc (.cells #[.int .i64 x.fKind, .int .i64 x.fN, .int .i64 x.fPos, .int .i64 x.fType, .string x.fSymbol, .string x.fName, .slice a6 x.fArgs.length c0_0] 29)) := (Below.refl _ _).alloc (Nat.le_refl _) _
  have HC := Lib.hid (impl_allNodesOf (c6 := c0_0) x hsz (w.alloc (.cells #[.int .i64 x.fKind, .int .i64 x.fN, .int .i64 x.fPos, .int .i64 x.fType, .string x.fSymbol, .string x.fName, .slice a6 x.fArgs.length c0_0] 29)) (Nat.le_trans hhi hbox.size) ((hs6.mono (Nat.zero_le _) (Nat.le_refl _)).later hbox hhi))
  have HB := Lib.hid hbox
  have hl := len_nodesX x 1
  have hcl := cntX_le x
  have HD := Lib.hid (show decide (0 ≤ idxI remN (nodesX x 1)) = remX x by rw [idx_any, remX_any])
  have hnl : (nodesX x 1).length ≤ 1048577 := by omega
  clear hbox hs6 hl hcl
  generalize nodesX x 1 = N at *
  go_enter Try.func24, Try.ntmps24
  go_wp2_with fail
  refine HC.out.mono ?_
  rintro e w1 ⟨v, rfl, hown, hb1⟩
  obtain ⟨a, c, rfl⟩ := own_slice hown
  have R2 := Lib.hid (HB.out.trans (hb1.mono HB.out.size))
  have HF := Lib.hid (show Calls Try.prog 58 #[.slice a N.length c, .func (.func 59) #[] #[]] w1 fun e w' => e = .returned (.bool (remX x)) ∧ Below w1.heap.size w1 w' from by
    have HI := Lib.hid (indexFunc_HasRemote N hnl w1 hown)
    generalize idxI remN N = q at *
    clear hown hb1
    go_enter Try.func58, Try.ntmps58
    go_wp2_with fail
    refine HI.out.mono ?_
    rintro e w2 ⟨rfl, hb2⟩
    go_wp2
    go_ret
    exact ⟨ret_b HD.out, hb2⟩)
  clear hown hb1
  go_wp2_with fail
  refine HF.out.mono ?_
  rintro e w2 ⟨rfl, hb2⟩
  have R3 := Lib.hid (R2.out.trans (hb2.mono R2.out.size))
  clear hb2
  go_wp2
  go_ret
  exact ⟨rfl, R3.out⟩
end Go.Proofs.Ytmbihfeocfikbaa
