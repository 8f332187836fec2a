/-
  IsValidRule: what it computes; allValid over names, equations, contributions and nodes.
-/
import Derived.Test.YteeehpldkhceoaaGreatEValid4
import Derived.Test.YteeehpldkhceoaaGreatSymAt
import Derived.Test.YteeehpldkhceoaaGreatTRule
namespace Go.Proofs.YteeehpldkhceoaaGreat
open Go.ChangeShapes Go.WideShapes Go.ChangeAt Go.RowKit Go.Deep

/-- The position of a node is greater than n. -/
def posN (n : Nat) (nd : ENode) : Bool := decide ((n : Int) < nd.fPos)
def posX (n : Nat) (x : DExpr) : Bool := (nodesX x 0).any (posN n)
theorem any_listV (P : DExpr → Prop) (q : ENode → Bool) (r : DExpr → Bool) (hP : ∀ x, P x → ∀ d, (nodesX x d).any q = r x) (d : Nat) : ∀ l : List DExpr, (∀ a ∈ l, P a) → (nodesL l d).any q = l.any r
  | [], _ => rfl
  | e :: es, h => by
    show (nodesX e d ++ nodesL es d).any q = _
    rw [List.any_append, hP e (h e (List.mem_cons_self ..)), any_listV P q r hP d es fun a ha => h a (List.mem_cons_of_mem _ ha), List.any_cons]
theorem posX_any (n : Nat) : ∀ (x : DExpr) (d : Nat), (nodesX x d).any (posN n) = posX n x := by
  intro x
  refine DExpr.ind (P := fun x => ∀ d, (nodesX x d).any (posN n) = posX n x) (fun x ih d => ?_) x
  unfold posX
  rw [nodesX_eq, nodesX_eq, List.any_cons, List.any_cons, any_listV (fun a => ∀ d, (nodesX a d).any (posN n) = posX n a) _ _ (fun _ h => h) _ _ ih, any_listV (fun a => ∀ d, (nodesX a d).any (posN n) = posX n a) _ _ (fun _ h => h) _ _ ih]
  rfl
theorem posX_eq (n : Nat) (x : DExpr) : posX n x = (decide ((n : Int) < x.fPos) || x.fArgs.any (posX n)) := by
  have h := posX_any n x 0
  rw [nodesX_eq, List.any_cons, any_listV (fun _ => True) _ _ (fun x _ => posX_any n x) _ _ fun _ _ => trivial] at h
  exact h.symm
/-- In a valid expression no position is negative. -/
theorem validN_pos {nd : ENode} (h : validN nd = true) : 0 ≤ nd.fPos := by
  unfold validN at h
  simp only [Bool.and_eq_true, decide_eq_true_eq] at h
  obtain ⟨⟨_, h2⟩, h3⟩ := h
  rcases h2.2.1 with hk | hk | hk
  · rw [okN_3 hk, Bool.and_eq_true] at h3
    exact (inR_iff.1 h3.1).1
  · rw [okN_6 hk] at h3
    exact (inR_iff.1 h3).1
  · omega
theorem validX_pos {x : DExpr} (h : validX x = true) (d : Nat) : ∀ nd ∈ nodesX x d, 0 ≤ nd.fPos := by
  unfold validX at h
  simp only [Bool.and_eq_true, Bool.not_eq_true'] at h
  intro nd hnd
  have h2 := invX_any x d
  rw [h.2, List.any_eq_false] at h2
  have h3 := h2 nd hnd
  unfold inv at h3
  exact validN_pos (by simpa using h3)
noncomputable def exprIn (n : Nat) (x : DExpr) : Bool := validX x && !posX n x
theorem all_pos (n : Nat) : ∀ l : List ENode, (∀ nd ∈ l, 0 ≤ nd.fPos) → (l.all fun nd => inR nd.fPos 0 n) = !(l.any (posN n))
  | [], _ => rfl
  | a :: l, h => by
    rw [List.all_cons, List.any_cons, all_pos n l fun b hb => h b (List.mem_cons_of_mem _ hb), Bool.not_or]
    have h0 := h a (List.mem_cons_self ..)
    have : inR a.fPos 0 n = !posN n a := by
      unfold inR posN
      rw [decide_eq_true h0, Bool.true_and, ← decide_not]
      exact decide_eq_decide.2 (by omega)
    rw [this]
theorem exprIn_all {n : Nat} {x : DExpr} (h : validX x = true) : ((nodesX x 1).all fun nd => inR nd.fPos 0 n) = exprIn n x := by
  unfold exprIn
  rw [h, Bool.true_and, all_pos n _ (validX_pos h 1), posX_any]
noncomputable def eqOk (r : DRule) (q : DEquation) : Bool := inR q.fAt.fPos 0 r.fRight.length && validName q.fAt.fName && exprIn r.fRight.length q.fExpr
noncomputable def coOk (r : DRule) (c : DContribution) : Bool := validName c.fSymbol && validName c.fName && exprIn r.fRight.length c.fTarget && exprIn r.fRight.length c.fValue
noncomputable def ruleOk (r : DRule) : Bool := validName r.fName && validName r.fLeft && decide (r.fRight.length ≤ 3) && decide (r.fContributions.length ≤ 2) && r.fRight.all validName && r.fEquations.all (eqOk r) && r.fContributions.all (coOk r)

theorem idx_anyV {α : Type} [Inhabited α] (p : α → Bool) (l : List α) : decide (0 ≤ idxI p l) = l.any p := by
  unfold idxI
  cases h : l.findIdx? p with
  | none =>
    rw [List.findIdx?_eq_none_iff] at h
    have : l.any p = false := by rw [List.any_eq_false]; intro a ha; simp [h a ha]
    rw [this]; rfl
  | some k =>
    rw [List.findIdx?_eq_some_iff_getElem] at h
    obtain ⟨h1, h2, _⟩ := h
    have : l.any p = true := List.any_eq_true.2 ⟨l[k], List.getElem_mem _, h2⟩
    rw [this]; simp
theorem all_anyV {α : Type} (p : α → Bool) (l : List α) : (!(l.any fun x => !p x)) = l.all p := by
  induction l with
  | nil => rfl
  | cons a l ih => rw [List.any_cons, List.all_cons, ← ih, Bool.not_or, Bool.not_not]

theorem DEquation.openS {lo hi b o : Nat} {w : World} {x : DEquation} (h : ∀ j, j < 9 → ∃ u, w.cell? ⟨b, o + j, none⟩ = some u ∧ Soft lo hi w (x.ct j) u) :
    ∃ a8 c8, w.cell? ⟨b, o, none⟩ = some (.int .i64 x.fAt.fPos) ∧ w.cell? ⟨b, o + 1, none⟩ = some (.string x.fAt.fName) ∧ w.cell? ⟨b, o + 2, none⟩ = some (.int .i64 x.fExpr.fKind) ∧ w.cell? ⟨b, o + 3, none⟩ = some (.int .i64 x.fExpr.fN) ∧ w.cell? ⟨b, o + 4, none⟩ = some (.int .i64 x.fExpr.fPos) ∧ w.cell? ⟨b, o + 5, none⟩ = some (.int .i64 x.fExpr.fType) ∧ w.cell? ⟨b, o + 6, none⟩ = some (.string x.fExpr.fSymbol) ∧ w.cell? ⟨b, o + 7, none⟩ = some (.string x.fExpr.fName) ∧ w.cell? ⟨b, o + 8, none⟩ = some (.slice a8 x.fExpr.fArgs.length c8) ∧ Sf lo hi w 7 x.fExpr.fArgs.length (ctE x.fExpr.fArgs) a8 := by
  obtain ⟨u0, hc0, hl0⟩ := h 0 (by decide)
  obtain rfl := soft_lit hl0
  obtain ⟨u1, hc1, hl1⟩ := h 1 (by decide)
  obtain rfl := soft_lit hl1
  obtain ⟨u2, hc2, hl2⟩ := h 2 (by decide)
  obtain rfl := soft_lit hl2
  obtain ⟨u3, hc3, hl3⟩ := h 3 (by decide)
  obtain rfl := soft_lit hl3
  obtain ⟨u4, hc4, hl4⟩ := h 4 (by decide)
  obtain rfl := soft_lit hl4
  obtain ⟨u5, hc5, hl5⟩ := h 5 (by decide)
  obtain rfl := soft_lit hl5
  obtain ⟨u6, hc6, hl6⟩ := h 6 (by decide)
  obtain rfl := soft_lit hl6
  obtain ⟨u7, hc7, hl7⟩ := h 7 (by decide)
  obtain rfl := soft_lit hl7
  obtain ⟨u8, hc8, hl8⟩ := h 8 (by decide)
  obtain ⟨a8, c8, rfl, hs8⟩ := soft_sl hl8
  exact ⟨a8, c8, hc0, hc1, hc2, hc3, hc4, hc5, hc6, hc7, hc8, hs8⟩

theorem DContribution.openS {lo hi b o : Nat} {w : World} {x : DContribution} (h : ∀ j, j < 16 → ∃ u, w.cell? ⟨b, o + j, none⟩ = some u ∧ Soft lo hi w (x.ct j) u) :
    ∃ a8 c8, ∃ a15 c15, w.cell? ⟨b, o, none⟩ = some (.string x.fSymbol) ∧ w.cell? ⟨b, o + 1, none⟩ = some (.string x.fName) ∧ w.cell? ⟨b, o + 2, none⟩ = some (.int .i64 x.fTarget.fKind) ∧ w.cell? ⟨b, o + 3, none⟩ = some (.int .i64 x.fTarget.fN) ∧ w.cell? ⟨b, o + 4, none⟩ = some (.int .i64 x.fTarget.fPos) ∧ w.cell? ⟨b, o + 5, none⟩ = some (.int .i64 x.fTarget.fType) ∧ w.cell? ⟨b, o + 6, none⟩ = some (.string x.fTarget.fSymbol) ∧ w.cell? ⟨b, o + 7, none⟩ = some (.string x.fTarget.fName) ∧ w.cell? ⟨b, o + 8, none⟩ = some (.slice a8 x.fTarget.fArgs.length c8) ∧ w.cell? ⟨b, o + 9, none⟩ = some (.int .i64 x.fValue.fKind) ∧ w.cell? ⟨b, o + 10, none⟩ = some (.int .i64 x.fValue.fN) ∧ w.cell? ⟨b, o + 11, none⟩ = some (.int .i64 x.fValue.fPos) ∧ w.cell? ⟨b, o + 12, none⟩ = some (.int .i64 x.fValue.fType) ∧ w.cell? ⟨b, o + 13, none⟩ = some (.string x.fValue.fSymbol) ∧ w.cell? ⟨b, o + 14, none⟩ = some (.string x.fValue.fName) ∧ w.cell? ⟨b, o + 15, none⟩ = some (.slice a15 x.fValue.fArgs.length c15) ∧ Sf lo hi w 7 x.fTarget.fArgs.length (ctE x.fTarget.fArgs) a8 ∧ Sf lo hi w 7 x.fValue.fArgs.length (ctE x.fValue.fArgs) a15 := by
  obtain ⟨u0, hc0, hl0⟩ := h 0 (by decide)
  obtain rfl := soft_lit hl0
  obtain ⟨u1, hc1, hl1⟩ := h 1 (by decide)
  obtain rfl := soft_lit hl1
  obtain ⟨u2, hc2, hl2⟩ := h 2 (by decide)
  obtain rfl := soft_lit hl2
  obtain ⟨u3, hc3, hl3⟩ := h 3 (by decide)
  obtain rfl := soft_lit hl3
  obtain ⟨u4, hc4, hl4⟩ := h 4 (by decide)
  obtain rfl := soft_lit hl4
  obtain ⟨u5, hc5, hl5⟩ := h 5 (by decide)
  obtain rfl := soft_lit hl5
  obtain ⟨u6, hc6, hl6⟩ := h 6 (by decide)
  obtain rfl := soft_lit hl6
  obtain ⟨u7, hc7, hl7⟩ := h 7 (by decide)
  obtain rfl := soft_lit hl7
  obtain ⟨u8, hc8, hl8⟩ := h 8 (by decide)
  obtain ⟨a8, c8, rfl, hs8⟩ := soft_sl hl8
  obtain ⟨u9, hc9, hl9⟩ := h 9 (by decide)
  obtain rfl := soft_lit hl9
  obtain ⟨u10, hc10, hl10⟩ := h 10 (by decide)
  obtain rfl := soft_lit hl10
  obtain ⟨u11, hc11, hl11⟩ := h 11 (by decide)
  obtain rfl := soft_lit hl11
  obtain ⟨u12, hc12, hl12⟩ := h 12 (by decide)
  obtain rfl := soft_lit hl12
  obtain ⟨u13, hc13, hl13⟩ := h 13 (by decide)
  obtain rfl := soft_lit hl13
  obtain ⟨u14, hc14, hl14⟩ := h 14 (by decide)
  obtain rfl := soft_lit hl14
  obtain ⟨u15, hc15, hl15⟩ := h 15 (by decide)
  obtain ⟨a15, c15, rfl, hs15⟩ := soft_sl hl15
  exact ⟨a8, c8, a15, c15, hc0, hc1, hc2, hc3, hc4, hc5, hc6, hc7, hc8, hc9, hc10, hc11, hc12, hc13, hc14, hc15, hs8, hs15⟩

set_option maxHeartbeats 3200000 in
set_option maxRecDepth 100000 in
theorem not_names (s : ByteArray) (v : Bool) (q1 : Nat) (w : World) (hq : w.cell? ⟨q1, 0, none⟩ = some (.func (.func 18) #[] #[])) (_ : q1 < w.heap.size)
    (hc : ∀ W, Below w.heap.size w W → Calls Tryz.prog 18 #[.string s] W fun e W' => e = .returned (.bool v) ∧ Below W.heap.size W W') :
    Calls Tryz.prog 41 #[.string s, .pointer (some ⟨q1, 0, none⟩)] w fun e w' => e = .returned (.bool (!v)) ∧ Below w.heap.size w w' := by
  have HB := Lib.hid (Below.refl w.heap.size w)
  have HC := Lib.hid (hc _ HB.out)
  clear hc
  go_enter Tryz.func41, Tryz.ntmps41
  go_wp2_with fail
  refine HC.out.mono ?_
  rintro e w1 ⟨rfl, hb1⟩
  have HB1 := Lib.hid (HB.out.trans (hb1.mono HB.out.size))
  clear hb1
  go_wp2
  go_ret
  exact ⟨rfl, HB1.out⟩

set_option maxHeartbeats 3200000 in
set_option maxRecDepth 100000 in
theorem index_names {hi c : Nat} {a : Option Addr} (q : ByteArray → Bool) (q1 : Nat) (l : List ByteArray) (hl : l.length ≤ 1048577) (w : World) (hhi : hi ≤ w.heap.size) (hs : Sf 0 hi w 1 l.length (fun k => ictS (l.getD k default)) a) (HP : ∀ k, k < l.length → ∀ (W : World), Below w.heap.size w W → Calls Tryz.prog 41 #[.string (l.getD k default), .pointer (some ⟨q1, 0, none⟩)] W fun e W' => e = .returned (.bool (q (l.getD k default))) ∧ Below W.heap.size W W') :
    Calls Tryz.prog 61 #[.slice a l.length c, .func (.func 41) #[] #[.pointer (some ⟨q1, 0, none⟩)]] w fun e w' => e = .returned (.int .i64 (idxI q l)) ∧ Below w.heap.size w w' := by
  have HS := Lib.hid hs
  have HPX := Lib.hid HP
  clear hs HP
  go_enter Tryz.func61, Tryz.ntmps61
  go_wp2
  go_loopw [8] (fun i wr => ∃ k : Nat, k ≤ l.length ∧ i = .int .i64 (k : Int) ∧ noneBelow q l k ∧ Below w.heap.size w wr) (fun i _ => l.length - (intOf i).toNat)
  case atStart => exact ⟨0, Nat.zero_le _, rfl, noneBelow_zero _ _, Below.refl _ _⟩
  case round =>
    obtain ⟨k, hk, rfl, hno, hbl⟩ := hrel
    have HBL := Lib.hid hbl
    have HNO := Lib.hid hno
    clear hno
    by_cases hlt : k < l.length
    · obtain ⟨b, off, rfl, _, _, _, hc⟩ := (HS.out.later (hbl.mono hhi) (Nat.le_refl _)).at k hlt
      obtain ⟨u, hu, hl⟩ := hc 0 (by decide)
      obtain rfl := soft_lit hl
      rw [Nat.mul_one, Nat.add_zero] at hu
      have HC := Lib.hid (HPX.out k hlt wr hbl)
      clear hc hl
      clear hbl
      cases hr : q (l.getD k default)
      · have HPS := Lib.hid (noneBelow_succ HNO.out hr)
        rw [hr] at HC
        clear hr
        generalize l.getD k default = x at *
        go_wp2_with fail
        refine HC.out.mono ?_
        rintro e w1 ⟨rfl, hb1⟩
        have HB1 := Lib.hid (HBL.out.trans (hb1.mono HBL.out.size))
        clear hb1
        go_wp2
        go_roundw
        case rel => exact ⟨k + 1, by omega, by go_num, HPS.out, HB1.out⟩
        case measure => simp [intOf]; omega
      · have FIN := Lib.hid (idxI_at hlt hr HNO.out)
        rw [hr] at HC
        clear hr
        generalize l.getD k default = x at *
        go_wp2_with fail
        refine HC.out.mono ?_
        rintro e w1 ⟨rfl, hb1⟩
        have HB1 := Lib.hid (HBL.out.trans (hb1.mono HBL.out.size))
        clear hb1
        go_wp2
        go_ret
        exact ⟨ret_i FIN.out.symm, HB1.out⟩
    · obtain rfl : k = l.length := by omega
      have FIN := Lib.hid (idxI_none HNO.out)
      go_wp2
      go_ret
      exact ⟨ret_i FIN.out.symm, HBL.out⟩

set_option maxHeartbeats 3200000 in
set_option maxRecDepth 100000 in
theorem contains_names {hi c : Nat} {a : Option Addr} (q : ByteArray → Bool) (q1 : Nat) (l : List ByteArray) (hl : l.length ≤ 1048577) (w : World) (hhi : hi ≤ w.heap.size) (hs : Sf 0 hi w 1 l.length (fun k => ictS (l.getD k default)) a) (HP : ∀ k, k < l.length → ∀ (W : World), Below w.heap.size w W → Calls Tryz.prog 41 #[.string (l.getD k default), .pointer (some ⟨q1, 0, none⟩)] W fun e W' => e = .returned (.bool (q (l.getD k default))) ∧ Below W.heap.size W W') :
    Calls Tryz.prog 40 #[.slice a l.length c, .func (.func 41) #[] #[.pointer (some ⟨q1, 0, none⟩)]] w fun e w' => e = .returned (.bool (l.any q)) ∧ Below w.heap.size w w' := by
  have HI := Lib.hid (index_names (c := c) q q1 l hl w hhi hs HP)
  have HD := Lib.hid (idx_anyV q l)
  clear hs HP
  generalize idxI q l = z at *
  generalize l.any q = r at *
  generalize l.length = n at *
  go_enter Tryz.func40, Tryz.ntmps40
  go_wp2_with fail
  refine HI.out.mono ?_
  rintro e w1 ⟨rfl, hb1⟩
  go_wp2
  go_ret
  exact ⟨ret_b HD.out, hb1⟩

set_option maxHeartbeats 3200000 in
set_option maxRecDepth 100000 in
theorem allValid_names {hi c : Nat} {a : Option Addr} (p : ByteArray → Bool) (l : List ByteArray) (hl : l.length ≤ 1048577) (w : World) (hhi : hi ≤ w.heap.size) (hs : Sf 0 hi w 1 l.length (fun k => ictS (l.getD k default)) a) (HP : ∀ k, k < l.length → ∀ (W : World), Below w.heap.size w W → Calls Tryz.prog 18 #[.string (l.getD k default)] W fun e W' => e = .returned (.bool (p (l.getD k default))) ∧ Below W.heap.size W W') :
    Calls Tryz.prog 19 #[.slice a l.length c, .func (.func 18) #[] #[]] w fun e w' => e = .returned (.bool (l.all p)) ∧ Below w.heap.size w w' := by
  have HB := Lib.hid ((Below.refl w.heap.size w).alloc (Nat.le_refl _) (.cells #[.func (.func 18) #[] #[]] 39))
  have HD := Lib.hid (all_anyV p l)
  have HI := Lib.hid (contains_names (c := c) (fun x => !p x) w.heap.size l hl (w.alloc (.cells #[.func (.func 18) #[] #[]] 39)) (Nat.le_trans hhi HB.out.size) (hs.later HB.out hhi) (fun k hk  W hW  => not_names _  _ _ W ((hW.cell (p := ⟨w.heap.size, 0, none⟩) (by simp)).trans (by go_simp)) (Nat.lt_of_lt_of_le (by simp) hW.size) (fun W2 hW2 => HP k hk  W2 (HB.out.trans ((hW.trans (hW2.mono hW.size)).mono HB.out.size)) )))
  clear hs HP
  generalize l.all p = r at *
  generalize (l.any fun x => !p x) = z at *
  generalize l.length = n at *
  go_enter Tryz.func19, Tryz.ntmps19
  go_wp2_with fail
  refine HI.out.mono ?_
  rintro e w1 ⟨rfl, hb1⟩
  have HB1 := Lib.hid (HB.out.trans (hb1.mono HB.out.size))
  clear hb1
  go_wp2
  go_ret
  exact ⟨ret_b HD.out, HB1.out⟩

set_option maxHeartbeats 3200000 in
set_option maxRecDepth 100000 in
theorem not_nodes (nd : ENode) (q : Nat) (v : Bool) (q1 : Nat) (w : World) (hq : w.cell? ⟨q1, 0, none⟩ = some (.func (.func 66) #[] #[.pointer (some ⟨q, 0, none⟩)])) (hql : q1 < w.heap.size)
    (hc : ∀ W, Below w.heap.size w W → Calls Tryz.prog 66 #[.agg #[.int .i64 nd.fKind, .int .i64 nd.fN, .int .i64 nd.fPos, .int .i64 nd.fType, .string nd.fSymbol, .string nd.fName, .int .i64 (nd.fArgs : Int), .int .i64 (nd.fDepth : Int)], .pointer (some ⟨q, 0, none⟩)] W fun e W' => e = .returned (.bool v) ∧ Below W.heap.size W W') :
    Calls Tryz.prog 77 #[.agg #[.int .i64 nd.fKind, .int .i64 nd.fN, .int .i64 nd.fPos, .int .i64 nd.fType, .string nd.fSymbol, .string nd.fName, .int .i64 (nd.fArgs : Int), .int .i64 (nd.fDepth : Int)], .pointer (some ⟨q1, 0, none⟩)] w fun e w' => e = .returned (.bool (!v)) ∧ Below w.heap.size w w' := by
  have HB := Lib.hid ((Below.refl w.heap.size w).alloc (Nat.le_refl _) (.cells #[.int .i64 nd.fKind, .int .i64 nd.fN, .int .i64 nd.fPos, .int .i64 nd.fType, .string nd.fSymbol, .string nd.fName, .int .i64 (nd.fArgs : Int), .int .i64 (nd.fDepth : Int)] 99))
  have HC := Lib.hid (hc _ HB.out)
  clear hc
  go_enter Tryz.func77, Tryz.ntmps77
  go_wp2_with fail
  refine HC.out.mono ?_
  rintro e w1 ⟨rfl, hb1⟩
  have HB1 := Lib.hid (HB.out.trans (hb1.mono HB.out.size))
  clear hb1
  go_wp2
  go_ret
  exact ⟨rfl, HB1.out⟩

set_option maxHeartbeats 3200000 in
set_option maxRecDepth 100000 in
theorem index_nodes {B c : Nat} {a : Option Addr} (q : ENode → Bool) (q1 : Nat) (l : List ENode) (hl : l.length ≤ 1048577) (w : World) (hs : w.ownsRow B 99 8 (.slice a l.length c) l.length (nodeCells l)) (HP : ∀ k, k < l.length → ∀ (W : World), Below w.heap.size w W → Calls Tryz.prog 77 #[.agg #[.int .i64 (l.getD k default).fKind, .int .i64 (l.getD k default).fN, .int .i64 (l.getD k default).fPos, .int .i64 (l.getD k default).fType, .string (l.getD k default).fSymbol, .string (l.getD k default).fName, .int .i64 ((l.getD k default).fArgs : Int), .int .i64 ((l.getD k default).fDepth : Int)], .pointer (some ⟨q1, 0, none⟩)] W fun e W' => e = .returned (.bool (q (l.getD k default))) ∧ Below W.heap.size W W') :
    Calls Tryz.prog 86 #[.slice a l.length c, .func (.func 77) #[] #[.pointer (some ⟨q1, 0, none⟩)]] w fun e w' => e = .returned (.int .i64 (idxI q l)) ∧ Below w.heap.size w w' := by
  have HS := Lib.hid hs
  have HPX := Lib.hid HP
  clear hs HP
  go_enter Tryz.func86, Tryz.ntmps86
  go_wp2
  go_loopw [8] (fun i wr => ∃ k : Nat, k ≤ l.length ∧ i = .int .i64 (k : Int) ∧ noneBelow q l k ∧ Below w.heap.size w wr) (fun i _ => l.length - (intOf i).toNat)
  case atStart => exact ⟨0, Nat.zero_le _, rfl, noneBelow_zero _ _, Below.refl _ _⟩
  case round =>
    obtain ⟨k, hk, rfl, hno, hbl⟩ := hrel
    have HBL := Lib.hid hbl
    have HNO := Lib.hid hno
    clear hno
    by_cases hlt : k < l.length
    · obtain ⟨g, c2, e2, _, _⟩ := own_some HS.out (by omega)
      simp only [Value.slice.injEq, true_and] at e2
      obtain ⟨rfl, rfl⟩ := e2
      obtain ⟨hc0, hc1, hc2, hc3, hc4, hc5, hc6, hc7⟩ := own_nodes (ownsRow_below HS.out hbl) hlt
      have HC := Lib.hid (HPX.out k hlt wr hbl)
      clear hbl
      cases hr : q (l.getD k default)
      · have HPS := Lib.hid (noneBelow_succ HNO.out hr)
        rw [hr] at HC
        clear hr
        generalize l.getD k default = x at *
        go_wp2_with fail
        refine HC.out.mono ?_
        rintro e w1 ⟨rfl, hb1⟩
        have HB1 := Lib.hid (HBL.out.trans (hb1.mono HBL.out.size))
        clear hb1
        go_wp2
        go_roundw
        case rel => exact ⟨k + 1, by omega, by go_num, HPS.out, HB1.out⟩
        case measure => simp [intOf]; omega
      · have FIN := Lib.hid (idxI_at hlt hr HNO.out)
        rw [hr] at HC
        clear hr
        generalize l.getD k default = x at *
        go_wp2_with fail
        refine HC.out.mono ?_
        rintro e w1 ⟨rfl, hb1⟩
        have HB1 := Lib.hid (HBL.out.trans (hb1.mono HBL.out.size))
        clear hb1
        go_wp2
        go_ret
        exact ⟨ret_i FIN.out.symm, HB1.out⟩
    · obtain rfl : k = l.length := by omega
      have FIN := Lib.hid (idxI_none HNO.out)
      go_wp2
      go_ret
      exact ⟨ret_i FIN.out.symm, HBL.out⟩

set_option maxHeartbeats 3200000 in
set_option maxRecDepth 100000 in
theorem contains_nodes {B c : Nat} {a : Option Addr} (q : ENode → Bool) (q1 : Nat) (l : List ENode) (hl : l.length ≤ 1048577) (w : World) (hs : w.ownsRow B 99 8 (.slice a l.length c) l.length (nodeCells l)) (HP : ∀ k, k < l.length → ∀ (W : World), Below w.heap.size w W → Calls Tryz.prog 77 #[.agg #[.int .i64 (l.getD k default).fKind, .int .i64 (l.getD k default).fN, .int .i64 (l.getD k default).fPos, .int .i64 (l.getD k default).fType, .string (l.getD k default).fSymbol, .string (l.getD k default).fName, .int .i64 ((l.getD k default).fArgs : Int), .int .i64 ((l.getD k default).fDepth : Int)], .pointer (some ⟨q1, 0, none⟩)] W fun e W' => e = .returned (.bool (q (l.getD k default))) ∧ Below W.heap.size W W') :
    Calls Tryz.prog 76 #[.slice a l.length c, .func (.func 77) #[] #[.pointer (some ⟨q1, 0, none⟩)]] w fun e w' => e = .returned (.bool (l.any q)) ∧ Below w.heap.size w w' := by
  have HI := Lib.hid (index_nodes (c := c) q q1 l hl w hs HP)
  have HD := Lib.hid (idx_anyV q l)
  clear hs HP
  generalize idxI q l = z at *
  generalize l.any q = r at *
  generalize l.length = n at *
  go_enter Tryz.func76, Tryz.ntmps76
  go_wp2_with fail
  refine HI.out.mono ?_
  rintro e w1 ⟨rfl, hb1⟩
  go_wp2
  go_ret
  exact ⟨ret_b HD.out, hb1⟩

set_option maxHeartbeats 3200000 in
set_option maxRecDepth 100000 in
theorem allValid_nodes {B c : Nat} {a : Option Addr} (p : ENode → Bool) (q : Nat) (l : List ENode) (hl : l.length ≤ 1048577) (w : World) (hs : w.ownsRow B 99 8 (.slice a l.length c) l.length (nodeCells l)) (HP : ∀ k, k < l.length → ∀ (W : World), Below w.heap.size w W → Calls Tryz.prog 66 #[.agg #[.int .i64 (l.getD k default).fKind, .int .i64 (l.getD k default).fN, .int .i64 (l.getD k default).fPos, .int .i64 (l.getD k default).fType, .string (l.getD k default).fSymbol, .string (l.getD k default).fName, .int .i64 ((l.getD k default).fArgs : Int), .int .i64 ((l.getD k default).fDepth : Int)], .pointer (some ⟨q, 0, none⟩)] W fun e W' => e = .returned (.bool (p (l.getD k default))) ∧ Below W.heap.size W W') :
    Calls Tryz.prog 64 #[.slice a l.length c, .func (.func 66) #[] #[.pointer (some ⟨q, 0, none⟩)]] w fun e w' => e = .returned (.bool (l.all p)) ∧ Below w.heap.size w w' := by
  have HB := Lib.hid ((Below.refl w.heap.size w).alloc (Nat.le_refl _) (.cells #[.func (.func 66) #[] #[.pointer (some ⟨q, 0, none⟩)]] 102))
  have HD := Lib.hid (all_anyV p l)
  have HI := Lib.hid (contains_nodes (c := c) (fun x => !p x) w.heap.size l hl (w.alloc (.cells #[.func (.func 66) #[] #[.pointer (some ⟨q, 0, none⟩)]] 102)) (ownsRow_below hs HB.out) (fun k hk  W hW  => not_nodes _ q _ _ W ((hW.cell (p := ⟨w.heap.size, 0, none⟩) (by simp)).trans (by go_simp)) (Nat.lt_of_lt_of_le (by simp) hW.size) (fun W2 hW2 => HP k hk  W2 (HB.out.trans ((hW.trans (hW2.mono hW.size)).mono HB.out.size)) )))
  clear hs HP
  generalize l.all p = r at *
  generalize (l.any fun x => !p x) = z at *
  generalize l.length = n at *
  go_enter Tryz.func64, Tryz.ntmps64
  go_wp2_with fail
  refine HI.out.mono ?_
  rintro e w1 ⟨rfl, hb1⟩
  have HB1 := Lib.hid (HB.out.trans (hb1.mono HB.out.size))
  clear hb1
  go_wp2
  go_ret
  exact ⟨ret_b HD.out, HB1.out⟩

set_option maxHeartbeats 3200000 in
set_option maxRecDepth 100000 in
theorem not_eqs (a8 : Option Addr) (c8 : Nat) (x : DEquation) (q : Nat) (v : Bool) (q1 : Nat) (w : World) (hq : w.cell? ⟨q1, 0, none⟩ = some (.func (.func 21) #[] #[.pointer (some ⟨q, 0, none⟩)])) (hql : q1 < w.heap.size)
    (hc : ∀ W, Below w.heap.size w W → Calls Tryz.prog 21 #[.agg #[.int .i64 x.fAt.fPos, .string x.fAt.fName, .int .i64 x.fExpr.fKind, .int .i64 x.fExpr.fN, .int .i64 x.fExpr.fPos, .int .i64 x.fExpr.fType, .string x.fExpr.fSymbol, .string x.fExpr.fName, .slice a8 x.fExpr.fArgs.length c8], .pointer (some ⟨q, 0, none⟩)] W fun e W' => e = .returned (.bool v) ∧ Below W.heap.size W W') :
    Calls Tryz.prog 43 #[.agg #[.int .i64 x.fAt.fPos, .string x.fAt.fName, .int .i64 x.fExpr.fKind, .int .i64 x.fExpr.fN, .int .i64 x.fExpr.fPos, .int .i64 x.fExpr.fType, .string x.fExpr.fSymbol, .string x.fExpr.fName, .slice a8 x.fExpr.fArgs.length c8], .pointer (some ⟨q1, 0, none⟩)] w fun e w' => e = .returned (.bool (!v)) ∧ Below w.heap.size w w' := by
  have HB := Lib.hid ((Below.refl w.heap.size w).alloc (Nat.le_refl _) (.cells #[.int .i64 x.fAt.fPos, .string x.fAt.fName, .int .i64 x.fExpr.fKind, .int .i64 x.fExpr.fN, .int .i64 x.fExpr.fPos, .int .i64 x.fExpr.fType, .string x.fExpr.fSymbol, .string x.fExpr.fName, .slice a8 x.fExpr.fArgs.length c8] 46))
  have HC := Lib.hid (hc _ HB.out)
  clear hc
  go_enter Tryz.func43, Tryz.ntmps43
  go_wp2_with fail
  refine HC.out.mono ?_
  rintro e w1 ⟨rfl, hb1⟩
  have HB1 := Lib.hid (HB.out.trans (hb1.mono HB.out.size))
  clear hb1
  go_wp2
  go_ret
  exact ⟨rfl, HB1.out⟩

set_option maxHeartbeats 3200000 in
set_option maxRecDepth 100000 in
theorem index_eqs {hi c : Nat} {a : Option Addr} (q : DEquation → Bool) (q1 : Nat) (l : List DEquation) (hl : l.length ≤ 1048577) (w : World) (hhi : hi ≤ w.heap.size) (hs : Sf 0 hi w 9 l.length (fun k => DEquation.ct (l.getD k default)) a) (HP : ∀ k, k < l.length → ∀ (a8 : Option Addr) (c8 : Nat) (W : World), Below w.heap.size w W → Sf 0 hi W 7 (l.getD k default).fExpr.fArgs.length (ctE (l.getD k default).fExpr.fArgs) a8 → Calls Tryz.prog 43 #[.agg #[.int .i64 (l.getD k default).fAt.fPos, .string (l.getD k default).fAt.fName, .int .i64 (l.getD k default).fExpr.fKind, .int .i64 (l.getD k default).fExpr.fN, .int .i64 (l.getD k default).fExpr.fPos, .int .i64 (l.getD k default).fExpr.fType, .string (l.getD k default).fExpr.fSymbol, .string (l.getD k default).fExpr.fName, .slice a8 (l.getD k default).fExpr.fArgs.length c8], .pointer (some ⟨q1, 0, none⟩)] W fun e W' => e = .returned (.bool (q (l.getD k default))) ∧ Below W.heap.size W W') :
    Calls Tryz.prog 62 #[.slice a l.length c, .func (.func 43) #[] #[.pointer (some ⟨q1, 0, none⟩)]] w fun e w' => e = .returned (.int .i64 (idxI q l)) ∧ Below w.heap.size w w' := by
  have HS := Lib.hid hs
  have HPX := Lib.hid HP
  clear hs HP
  go_enter Tryz.func62, Tryz.ntmps62
  go_wp2
  go_loopw [8] (fun i wr => ∃ k : Nat, k ≤ l.length ∧ i = .int .i64 (k : Int) ∧ noneBelow q l k ∧ Below w.heap.size w wr) (fun i _ => l.length - (intOf i).toNat)
  case atStart => exact ⟨0, Nat.zero_le _, rfl, noneBelow_zero _ _, Below.refl _ _⟩
  case round =>
    obtain ⟨k, hk, rfl, hno, hbl⟩ := hrel
    have HBL := Lib.hid hbl
    have HNO := Lib.hid hno
    clear hno
    by_cases hlt : k < l.length
    · obtain ⟨b, off, rfl, _, _, _, hc⟩ := (HS.out.later (hbl.mono hhi) (Nat.le_refl _)).at k hlt
      obtain ⟨a8, c8, hc0, hc1, hc2, hc3, hc4, hc5, hc6, hc7, hc8, hs8⟩ := DEquation.openS hc
      have HC := Lib.hid (HPX.out k hlt a8 c8 wr hbl hs8)
      clear hc
      clear hbl
      cases hr : q (l.getD k default)
      · have HPS := Lib.hid (noneBelow_succ HNO.out hr)
        rw [hr] at HC
        clear hr
        generalize l.getD k default = x at *
        go_wp2_with fail
        refine HC.out.mono ?_
        rintro e w1 ⟨rfl, hb1⟩
        have HB1 := Lib.hid (HBL.out.trans (hb1.mono HBL.out.size))
        clear hb1
        go_wp2
        go_roundw
        case rel => exact ⟨k + 1, by omega, by go_num, HPS.out, HB1.out⟩
        case measure => simp [intOf]; omega
      · have FIN := Lib.hid (idxI_at hlt hr HNO.out)
        rw [hr] at HC
        clear hr
        generalize l.getD k default = x at *
        go_wp2_with fail
        refine HC.out.mono ?_
        rintro e w1 ⟨rfl, hb1⟩
        have HB1 := Lib.hid (HBL.out.trans (hb1.mono HBL.out.size))
        clear hb1
        go_wp2
        go_ret
        exact ⟨ret_i FIN.out.symm, HB1.out⟩
    · obtain rfl : k = l.length := by omega
      have FIN := Lib.hid (idxI_none HNO.out)
      go_wp2
      go_ret
      exact ⟨ret_i FIN.out.symm, HBL.out⟩

set_option maxHeartbeats 3200000 in
set_option maxRecDepth 100000 in
theorem contains_eqs {hi c : Nat} {a : Option Addr} (q : DEquation → Bool) (q1 : Nat) (l : List DEquation) (hl : l.length ≤ 1048577) (w : World) (hhi : hi ≤ w.heap.size) (hs : Sf 0 hi w 9 l.length (fun k => DEquation.ct (l.getD k default)) a) (HP : ∀ k, k < l.length → ∀ (a8 : Option Addr) (c8 : Nat) (W : World), Below w.heap.size w W → Sf 0 hi W 7 (l.getD k default).fExpr.fArgs.length (ctE (l.getD k default).fExpr.fArgs) a8 → Calls Tryz.prog 43 #[.agg #[.int .i64 (l.getD k default).fAt.fPos, .string (l.getD k default).fAt.fName, .int .i64 (l.getD k default).fExpr.fKind, .int .i64 (l.getD k default).fExpr.fN, .int .i64 (l.getD k default).fExpr.fPos, .int .i64 (l.getD k default).fExpr.fType, .string (l.getD k default).fExpr.fSymbol, .string (l.getD k default).fExpr.fName, .slice a8 (l.getD k default).fExpr.fArgs.length c8], .pointer (some ⟨q1, 0, none⟩)] W fun e W' => e = .returned (.bool (q (l.getD k default))) ∧ Below W.heap.size W W') :
    Calls Tryz.prog 42 #[.slice a l.length c, .func (.func 43) #[] #[.pointer (some ⟨q1, 0, none⟩)]] w fun e w' => e = .returned (.bool (l.any q)) ∧ Below w.heap.size w w' := by
  have HI := Lib.hid (index_eqs (c := c) q q1 l hl w hhi hs HP)
  have HD := Lib.hid (idx_anyV q l)
  clear hs HP
  generalize idxI q l = z at *
  generalize l.any q = r at *
  generalize l.length = n at *
  go_enter Tryz.func42, Tryz.ntmps42
  go_wp2_with fail
  refine HI.out.mono ?_
  rintro e w1 ⟨rfl, hb1⟩
  go_wp2
  go_ret
  exact ⟨ret_b HD.out, hb1⟩

set_option maxHeartbeats 3200000 in
set_option maxRecDepth 100000 in
theorem allValid_eqs {hi c : Nat} {a : Option Addr} (p : DEquation → Bool) (q : Nat) (l : List DEquation) (hl : l.length ≤ 1048577) (w : World) (hhi : hi ≤ w.heap.size) (hs : Sf 0 hi w 9 l.length (fun k => DEquation.ct (l.getD k default)) a) (HP : ∀ k, k < l.length → ∀ (a8 : Option Addr) (c8 : Nat) (W : World), Below w.heap.size w W → Sf 0 hi W 7 (l.getD k default).fExpr.fArgs.length (ctE (l.getD k default).fExpr.fArgs) a8 → Calls Tryz.prog 21 #[.agg #[.int .i64 (l.getD k default).fAt.fPos, .string (l.getD k default).fAt.fName, .int .i64 (l.getD k default).fExpr.fKind, .int .i64 (l.getD k default).fExpr.fN, .int .i64 (l.getD k default).fExpr.fPos, .int .i64 (l.getD k default).fExpr.fType, .string (l.getD k default).fExpr.fSymbol, .string (l.getD k default).fExpr.fName, .slice a8 (l.getD k default).fExpr.fArgs.length c8], .pointer (some ⟨q, 0, none⟩)] W fun e W' => e = .returned (.bool (p (l.getD k default))) ∧ Below W.heap.size W W') :
    Calls Tryz.prog 20 #[.slice a l.length c, .func (.func 21) #[] #[.pointer (some ⟨q, 0, none⟩)]] w fun e w' => e = .returned (.bool (l.all p)) ∧ Below w.heap.size w w' := by
  have HB := Lib.hid ((Below.refl w.heap.size w).alloc (Nat.le_refl _) (.cells #[.func (.func 21) #[] #[.pointer (some ⟨q, 0, none⟩)]] 57))
  have HD := Lib.hid (all_anyV p l)
  have HI := Lib.hid (contains_eqs (c := c) (fun x => !p x) w.heap.size l hl (w.alloc (.cells #[.func (.func 21) #[] #[.pointer (some ⟨q, 0, none⟩)]] 57)) (Nat.le_trans hhi HB.out.size) (hs.later HB.out hhi) (fun k hk a8 c8 W hW h0 => not_eqs a8 c8 _ q _ _ W ((hW.cell (p := ⟨w.heap.size, 0, none⟩) (by simp)).trans (by go_simp)) (Nat.lt_of_lt_of_le (by simp) hW.size) (fun W2 hW2 => HP k hk a8 c8 W2 (HB.out.trans ((hW.trans (hW2.mono hW.size)).mono HB.out.size)) (h0.later (hW2.mono (Nat.le_trans hhi (Nat.le_trans HB.out.size hW.size))) (Nat.le_refl _)))))
  clear hs HP
  generalize l.all p = r at *
  generalize (l.any fun x => !p x) = z at *
  generalize l.length = n at *
  go_enter Tryz.func20, Tryz.ntmps20
  go_wp2_with fail
  refine HI.out.mono ?_
  rintro e w1 ⟨rfl, hb1⟩
  have HB1 := Lib.hid (HB.out.trans (hb1.mono HB.out.size))
  clear hb1
  go_wp2
  go_ret
  exact ⟨ret_b HD.out, HB1.out⟩

set_option maxHeartbeats 3200000 in
set_option maxRecDepth 100000 in
theorem not_cons (a8 : Option Addr) (c8 : Nat) (a15 : Option Addr) (c15 : Nat) (x : DContribution) (q : Nat) (v : Bool) (q1 : Nat) (w : World) (hq : w.cell? ⟨q1, 0, none⟩ = some (.func (.func 24) #[] #[.pointer (some ⟨q, 0, none⟩)])) (hql : q1 < w.heap.size)
    (hc : ∀ W, Below w.heap.size w W → Calls Tryz.prog 24 #[.agg #[.string x.fSymbol, .string x.fName, .int .i64 x.fTarget.fKind, .int .i64 x.fTarget.fN, .int .i64 x.fTarget.fPos, .int .i64 x.fTarget.fType, .string x.fTarget.fSymbol, .string x.fTarget.fName, .slice a8 x.fTarget.fArgs.length c8, .int .i64 x.fValue.fKind, .int .i64 x.fValue.fN, .int .i64 x.fValue.fPos, .int .i64 x.fValue.fType, .string x.fValue.fSymbol, .string x.fValue.fName, .slice a15 x.fValue.fArgs.length c15], .pointer (some ⟨q, 0, none⟩)] W fun e W' => e = .returned (.bool v) ∧ Below W.heap.size W W') :
    Calls Tryz.prog 47 #[.agg #[.string x.fSymbol, .string x.fName, .int .i64 x.fTarget.fKind, .int .i64 x.fTarget.fN, .int .i64 x.fTarget.fPos, .int .i64 x.fTarget.fType, .string x.fTarget.fSymbol, .string x.fTarget.fName, .slice a8 x.fTarget.fArgs.length c8, .int .i64 x.fValue.fKind, .int .i64 x.fValue.fN, .int .i64 x.fValue.fPos, .int .i64 x.fValue.fType, .string x.fValue.fSymbol, .string x.fValue.fName, .slice a15 x.fValue.fArgs.length c15], .pointer (some ⟨q1, 0, none⟩)] w fun e w' => e = .returned (.bool (!v)) ∧ Below w.heap.size w w' := by
  have HB := Lib.hid ((Below.refl w.heap.size w).alloc (Nat.le_refl _) (.cells #[.string x.fSymbol, .string x.fName, .int .i64 x.fTarget.fKind, .int .i64 x.fTarget.fN, .int .i64 x.fTarget.fPos, .int .i64 x.fTarget.fType, .string x.fTarget.fSymbol, .string x.fTarget.fName, .slice a8 x.fTarget.fArgs.length c8, .int .i64 x.fValue.fKind, .int .i64 x.fValue.fN, .int .i64 x.fValue.fPos, .int .i64 x.fValue.fType, .string x.fValue.fSymbol, .string x.fValue.fName, .slice a15 x.fValue.fArgs.length c15] 50))
  have HC := Lib.hid (hc _ HB.out)
  clear hc
  go_enter Tryz.func47, Tryz.ntmps47
  go_wp2_with fail
  refine HC.out.mono ?_
  rintro e w1 ⟨rfl, hb1⟩
  have HB1 := Lib.hid (HB.out.trans (hb1.mono HB.out.size))
  clear hb1
  go_wp2
  go_ret
  exact ⟨rfl, HB1.out⟩

set_option maxHeartbeats 3200000 in
set_option maxRecDepth 100000 in
theorem index_cons {hi c : Nat} {a : Option Addr} (q : DContribution → Bool) (q1 : Nat) (l : List DContribution) (hl : l.length ≤ 1048577) (w : World) (hhi : hi ≤ w.heap.size) (hs : Sf 0 hi w 16 l.length (fun k => DContribution.ct (l.getD k default)) a) (HP : ∀ k, k < l.length → ∀ (a8 : Option Addr) (c8 : Nat) (a15 : Option Addr) (c15 : Nat) (W : World), Below w.heap.size w W → Sf 0 hi W 7 (l.getD k default).fTarget.fArgs.length (ctE (l.getD k default).fTarget.fArgs) a8 → Sf 0 hi W 7 (l.getD k default).fValue.fArgs.length (ctE (l.getD k default).fValue.fArgs) a15 → Calls Tryz.prog 47 #[.agg #[.string (l.getD k default).fSymbol, .string (l.getD k default).fName, .int .i64 (l.getD k default).fTarget.fKind, .int .i64 (l.getD k default).fTarget.fN, .int .i64 (l.getD k default).fTarget.fPos, .int .i64 (l.getD k default).fTarget.fType, .string (l.getD k default).fTarget.fSymbol, .string (l.getD k default).fTarget.fName, .slice a8 (l.getD k default).fTarget.fArgs.length c8, .int .i64 (l.getD k default).fValue.fKind, .int .i64 (l.getD k default).fValue.fN, .int .i64 (l.getD k default).fValue.fPos, .int .i64 (l.getD k default).fValue.fType, .string (l.getD k default).fValue.fSymbol, .string (l.getD k default).fValue.fName, .slice a15 (l.getD k default).fValue.fArgs.length c15], .pointer (some ⟨q1, 0, none⟩)] W fun e W' => e = .returned (.bool (q (l.getD k default))) ∧ Below W.heap.size W W') :
    Calls Tryz.prog 67 #[.slice a l.length c, .func (.func 47) #[] #[.pointer (some ⟨q1, 0, none⟩)]] w fun e w' => e = .returned (.int .i64 (idxI q l)) ∧ Below w.heap.size w w' := by
  have HS := Lib.hid hs
  have HPX := Lib.hid HP
  clear hs HP
  go_enter Tryz.func67, Tryz.ntmps67
  go_wp2
  go_loopw [8] (fun i wr => ∃ k : Nat, k ≤ l.length ∧ i = .int .i64 (k : Int) ∧ noneBelow q l k ∧ Below w.heap.size w wr) (fun i _ => l.length - (intOf i).toNat)
  case atStart => exact ⟨0, Nat.zero_le _, rfl, noneBelow_zero _ _, Below.refl _ _⟩
  case round =>
    obtain ⟨k, hk, rfl, hno, hbl⟩ := hrel
    have HBL := Lib.hid hbl
    have HNO := Lib.hid hno
    clear hno
    by_cases hlt : k < l.length
    · obtain ⟨b, off, rfl, _, _, _, hc⟩ := (HS.out.later (hbl.mono hhi) (Nat.le_refl _)).at k hlt
      obtain ⟨a8, c8, a15, c15, hc0, hc1, hc2, hc3, hc4, hc5, hc6, hc7, hc8, hc9, hc10, hc11, hc12, hc13, hc14, hc15, hs8, hs15⟩ := DContribution.openS hc
      have HC := Lib.hid (HPX.out k hlt a8 c8 a15 c15 wr hbl hs8 hs15)
      clear hc
      clear hbl
      cases hr : q (l.getD k default)
      · have HPS := Lib.hid (noneBelow_succ HNO.out hr)
        rw [hr] at HC
        clear hr
        generalize l.getD k default = x at *
        go_wp2_with fail
        refine HC.out.mono ?_
        rintro e w1 ⟨rfl, hb1⟩
        have HB1 := Lib.hid (HBL.out.trans (hb1.mono HBL.out.size))
        clear hb1
        go_wp2
        go_roundw
        case rel => exact ⟨k + 1, by omega, by go_num, HPS.out, HB1.out⟩
        case measure => simp [intOf]; omega
      · have FIN := Lib.hid (idxI_at hlt hr HNO.out)
        rw [hr] at HC
        clear hr
        generalize l.getD k default = x at *
        go_wp2_with fail
        refine HC.out.mono ?_
        rintro e w1 ⟨rfl, hb1⟩
        have HB1 := Lib.hid (HBL.out.trans (hb1.mono HBL.out.size))
        clear hb1
        go_wp2
        go_ret
        exact ⟨ret_i FIN.out.symm, HB1.out⟩
    · obtain rfl : k = l.length := by omega
      have FIN := Lib.hid (idxI_none HNO.out)
      go_wp2
      go_ret
      exact ⟨ret_i FIN.out.symm, HBL.out⟩

set_option maxHeartbeats 3200000 in
set_option maxRecDepth 100000 in
theorem contains_cons {hi c : Nat} {a : Option Addr} (q : DContribution → Bool) (q1 : Nat) (l : List DContribution) (hl : l.length ≤ 1048577) (w : World) (hhi : hi ≤ w.heap.size) (hs : Sf 0 hi w 16 l.length (fun k => DContribution.ct (l.getD k default)) a) (HP : ∀ k, k < l.length → ∀ (a8 : Option Addr) (c8 : Nat) (a15 : Option Addr) (c15 : Nat) (W : World), Below w.heap.size w W → Sf 0 hi W 7 (l.getD k default).fTarget.fArgs.length (ctE (l.getD k default).fTarget.fArgs) a8 → Sf 0 hi W 7 (l.getD k default).fValue.fArgs.length (ctE (l.getD k default).fValue.fArgs) a15 → Calls Tryz.prog 47 #[.agg #[.string (l.getD k default).fSymbol, .string (l.getD k default).fName, .int .i64 (l.getD k default).fTarget.fKind, .int .i64 (l.getD k default).fTarget.fN, .int .i64 (l.getD k default).fTarget.fPos, .int .i64 (l.getD k default).fTarget.fType, .string (l.getD k default).fTarget.fSymbol, .string (l.getD k default).fTarget.fName, .slice a8 (l.getD k default).fTarget.fArgs.length c8, .int .i64 (l.getD k default).fValue.fKind, .int .i64 (l.getD k default).fValue.fN, .int .i64 (l.getD k default).fValue.fPos, .int .i64 (l.getD k default).fValue.fType, .string (l.getD k default).fValue.fSymbol, .string (l.getD k default).fValue.fName, .slice a15 (l.getD k default).fValue.fArgs.length c15], .pointer (some ⟨q1, 0, none⟩)] W fun e W' => e = .returned (.bool (q (l.getD k default))) ∧ Below W.heap.size W W') :
    Calls Tryz.prog 46 #[.slice a l.length c, .func (.func 47) #[] #[.pointer (some ⟨q1, 0, none⟩)]] w fun e w' => e = .returned (.bool (l.any q)) ∧ Below w.heap.size w w' := by
  have HI := Lib.hid (index_cons (c := c) q q1 l hl w hhi hs HP)
  have HD := Lib.hid (idx_anyV q l)
  clear hs HP
  generalize idxI q l = z at *
  generalize l.any q = r at *
  generalize l.length = n at *
  go_enter Tryz.func46, Tryz.ntmps46
  go_wp2_with fail
  refine HI.out.mono ?_
  rintro e w1 ⟨rfl, hb1⟩
  go_wp2
  go_ret
  exact ⟨ret_b HD.out, hb1⟩

set_option maxHeartbeats 3200000 in
set_option maxRecDepth 100000 in
theorem allValid_cons {hi c : Nat} {a : Option Addr} (p : DContribution → Bool) (q : Nat) (l : List DContribution) (hl : l.length ≤ 1048577) (w : World) (hhi : hi ≤ w.heap.size) (hs : Sf 0 hi w 16 l.length (fun k => DContribution.ct (l.getD k default)) a) (HP : ∀ k, k < l.length → ∀ (a8 : Option Addr) (c8 : Nat) (a15 : Option Addr) (c15 : Nat) (W : World), Below w.heap.size w W → Sf 0 hi W 7 (l.getD k default).fTarget.fArgs.length (ctE (l.getD k default).fTarget.fArgs) a8 → Sf 0 hi W 7 (l.getD k default).fValue.fArgs.length (ctE (l.getD k default).fValue.fArgs) a15 → Calls Tryz.prog 24 #[.agg #[.string (l.getD k default).fSymbol, .string (l.getD k default).fName, .int .i64 (l.getD k default).fTarget.fKind, .int .i64 (l.getD k default).fTarget.fN, .int .i64 (l.getD k default).fTarget.fPos, .int .i64 (l.getD k default).fTarget.fType, .string (l.getD k default).fTarget.fSymbol, .string (l.getD k default).fTarget.fName, .slice a8 (l.getD k default).fTarget.fArgs.length c8, .int .i64 (l.getD k default).fValue.fKind, .int .i64 (l.getD k default).fValue.fN, .int .i64 (l.getD k default).fValue.fPos, .int .i64 (l.getD k default).fValue.fType, .string (l.getD k default).fValue.fSymbol, .string (l.getD k default).fValue.fName, .slice a15 (l.getD k default).fValue.fArgs.length c15], .pointer (some ⟨q, 0, none⟩)] W fun e W' => e = .returned (.bool (p (l.getD k default))) ∧ Below W.heap.size W W') :
    Calls Tryz.prog 23 #[.slice a l.length c, .func (.func 24) #[] #[.pointer (some ⟨q, 0, none⟩)]] w fun e w' => e = .returned (.bool (l.all p)) ∧ Below w.heap.size w w' := by
  have HB := Lib.hid ((Below.refl w.heap.size w).alloc (Nat.le_refl _) (.cells #[.func (.func 24) #[] #[.pointer (some ⟨q, 0, none⟩)]] 60))
  have HD := Lib.hid (all_anyV p l)
  have HI := Lib.hid (contains_cons (c := c) (fun x => !p x) w.heap.size l hl (w.alloc (.cells #[.func (.func 24) #[] #[.pointer (some ⟨q, 0, none⟩)]] 60)) (Nat.le_trans hhi HB.out.size) (hs.later HB.out hhi) (fun k hk a8 c8 a15 c15 W hW h0 h1 => not_cons a8 c8 a15 c15 _ q _ _ W ((hW.cell (p := ⟨w.heap.size, 0, none⟩) (by simp)).trans (by go_simp)) (Nat.lt_of_lt_of_le (by simp) hW.size) (fun W2 hW2 => HP k hk a8 c8 a15 c15 W2 (HB.out.trans ((hW.trans (hW2.mono hW.size)).mono HB.out.size)) (h0.later (hW2.mono (Nat.le_trans hhi (Nat.le_trans HB.out.size hW.size))) (Nat.le_refl _)) (h1.later (hW2.mono (Nat.le_trans hhi (Nat.le_trans HB.out.size hW.size))) (Nat.le_refl _)))))
  clear hs HP
  generalize l.all p = r at *
  generalize (l.any fun x => !p x) = z at *
  generalize l.length = n at *
  go_enter Tryz.func23, Tryz.ntmps23
  go_wp2_with fail
  refine HI.out.mono ?_
  rintro e w1 ⟨rfl, hb1⟩
  have HB1 := Lib.hid (HB.out.trans (hb1.mono HB.out.size))
  clear hb1
  go_wp2
  go_ret
  exact ⟨ret_b HD.out, HB1.out⟩
end Go.Proofs.YteeehpldkhceoaaGreat
