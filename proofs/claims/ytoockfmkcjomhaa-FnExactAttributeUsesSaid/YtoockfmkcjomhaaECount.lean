/-
  CountExpr, DepthOfExpr, HasRemote, in the model and in the program.
-/
import Derived.Test.YtoockfmkcjomhaaNodes4
import Derived.Test.YtoockfmkcjomhaaTInt
namespace Go.Proofs.Ytoockfmkcjomhaa
open Go.ChangeShapes Go.WideShapes Go.ChangeAt Go.RowKit Go.Deep


/-- The greatest depth of nodes. -/
def maxD (N : List ENode) : Nat := (N.map ENode.fDepth).foldr max 0
theorem maxD_append (M N : List ENode) : maxD (M ++ N) = max (maxD M) (maxD N) := by
  unfold maxD
  induction M with
  | nil => simp
  | cons a M ih => simp only [List.cons_append, List.map_cons, List.foldr_cons, ih]; omega
mutual
def depX : DExpr → Nat
  | ⟨_, _, _, _, _, _, args⟩ => depL args + 1
def depL : List DExpr → Nat
  | [] => 0
  | e :: es => max (depX e) (depL es)
end
theorem depX_eq (x : DExpr) : depX x = depL x.fArgs + 1 := by cases x; rfl
theorem depL_append : ∀ l m : List DExpr, depL (l ++ m) = max (depL l) (depL m)
  | [], m => by show depL m = max 0 (depL m); omega
  | e :: es, m => by
    show max (depX e) (depL (es ++ m)) = max (max (depX e) (depL es)) (depL m)
    rw [depL_append es m]; omega
theorem depL_take {l : List DExpr} {k : Nat} (h : k < l.length) : depL (l.take (k + 1)) = max (depL (l.take k)) (depX (l.getD k default)) := by
  rw [List.take_add_one, depL_append, List.getElem?_eq_getElem h, List.getD_eq_getElem?_getD, List.getElem?_eq_getElem h]
  show max _ (max (depX l[k]) 0) = max _ (depX l[k])
  omega
theorem maxD_list (P : DExpr → Prop) (hP : ∀ x, P x → ∀ d, maxD (nodesX x d) = d + depX x - 1) (d : Nat) : ∀ l : List DExpr, (∀ a ∈ l, P a) → max d (maxD (nodesL l (d + 1))) = d + depL l
  | [], _ => by show max d 0 = d + 0; omega
  | e :: es, h => by
    have h1 := maxD_list P hP d es fun a ha => h a (List.mem_cons_of_mem _ ha)
    have h2 := hP e (h e (List.mem_cons_self ..)) (d + 1)
    have h3 : 1 ≤ depX e := by rw [depX_eq]; omega
    show max d (maxD (nodesX e (d + 1) ++ nodesL es (d + 1))) = d + max (depX e) (depL es)
    rw [maxD_append]
    omega
theorem maxD_nodes : ∀ (x : DExpr) (d : Nat), maxD (nodesX x d) = d + depX x - 1 := by
  intro x
  refine DExpr.ind (P := fun x => ∀ d, maxD (nodesX x d) = d + depX x - 1) (fun x ih d => ?_) x
  have h := maxD_list (fun a => ∀ d, maxD (nodesX a d) = d + depX a - 1) (fun _ h => h) d x.fArgs ih
  rw [nodesX_eq, depX_eq]
  show max d (maxD (nodesL x.fArgs (d + 1))) = _
  omega
theorem depX_cnt : ∀ x : DExpr, depX x ≤ cntX x := DExpr.ind fun x ih => by
  rw [depX_eq, cntX_eq]
  have : ∀ l : List DExpr, (∀ a ∈ l, depX a ≤ cntX a) → depL l ≤ (l.map cntX).sum := by
    intro l
    induction l with
    | nil => intro _; exact Nat.le_refl _
    | cons e es ihl =>
      intro h
      have h1 := h e (List.mem_cons_self ..)
      have h2 := ihl fun a ha => h a (List.mem_cons_of_mem _ ha)
      rw [List.map_cons, List.sum_cons]
      show max (depX e) (depL es) ≤ _
      omega
  have := this x.fArgs ih
  omega

/-- The cells of node number k. -/
theorem own_nodes {w : World} {B g c : Nat} {e : TypeId} {N : List ENode} (h : w.ownsRow B e 8 (.slice (some ⟨g, 0, none⟩) N.length c) N.length (nodeCells N)) {k : Nat} (hk : k < N.length) :
    w.cell? ⟨g, k * 8, none⟩ = some (.int .i64 (N.getD k default).fKind) ∧ w.cell? ⟨g, k * 8 + 1, none⟩ = some (.int .i64 (N.getD k default).fN) ∧ w.cell? ⟨g, k * 8 + 2, none⟩ = some (.int .i64 (N.getD k default).fPos) ∧ w.cell? ⟨g, k * 8 + 3, none⟩ = some (.int .i64 (N.getD k default).fType) ∧ w.cell? ⟨g, k * 8 + 4, none⟩ = some (.string (N.getD k default).fSymbol) ∧ w.cell? ⟨g, k * 8 + 5, none⟩ = some (.string (N.getD k default).fName) ∧ w.cell? ⟨g, k * 8 + 6, none⟩ = some (.int .i64 (N.getD k default).fArgs) ∧ w.cell? ⟨g, k * 8 + 7, none⟩ = some (.int .i64 (N.getD k default).fDepth) := by
  have hN : ∀ (N : List ENode) (k j : Nat), k < N.length → j < 8 → (nodeCells N)[k * 8 + j]? = (N.getD k default).vals[j]? := by
    intro N
    induction N with
    | nil => intro k j hk; exact absurd hk (Nat.not_lt_zero _)
    | cons n N ih =>
      intro k j hk hj
      have e0 : nodeCells (n :: N) = n.vals ++ nodeCells N := by unfold nodeCells; rw [List.flatMap_cons]
      have e1 : n.vals.length = 8 := rfl
      rw [e0]
      cases k with
      | zero => rw [List.getElem?_append_left (by omega), Nat.zero_mul, Nat.zero_add]; rfl
      | succ k =>
        rw [List.getElem?_append_right (by omega), e1, show (k + 1) * 8 + j - 8 = k * 8 + j by omega, ih k j (by simpa using hk) hj]
        rfl
  have hat : ∀ j, j < 8 → w.cell? ⟨g, k * 8 + j, none⟩ = (N.getD k default).vals[j]? := fun j hj => by
    rw [h.cellAt _ (by omega), hN N k j hk hj]
  exact ⟨hat 0 (by decide), hat 1 (by decide), hat 2 (by decide), hat 3 (by decide), hat 4 (by decide), hat 5 (by decide), hat 6 (by decide), hat 7 (by decide)⟩

theorem nodesM_all {x : DExpr} (h : x.sz ≤ 1048576) : nodesM x 9223372036854775807 = nodesX x 1 := by
  unfold nodesM
  have h1 := cntX_le x
  have h2 := len_nodesX x 1
  exact List.take_of_length_le (by rw [show (9223372036854775807 : Int).toNat = 9223372036854775807 from rfl]; omega)

set_option maxHeartbeats 1600000 in
set_option maxRecDepth 100000 in
theorem impl_allNodesOf {hi c6 : Nat} {a6 : Option Addr} (x : DExpr) (hsz : x.sz ≤ 1048576) (w : World) (hhi : hi ≤ w.heap.size) (hs6 : Sf 0 hi w 7 x.fArgs.length (ctE x.fArgs) a6) :
    Calls Try.prog 16 #[.agg #[.int .i64 x.fKind, .int .i64 x.fN, .int .i64 x.fPos, .int .i64 x.fType, .string x.fSymbol, .string x.fName, .slice a6 x.fArgs.length c6]] w fun e w' => ∃ v, e = .returned v ∧ w'.ownsRow w.heap.size 45 8 v (nodesX x 1).length (nodeCells (nodesX x 1)) ∧ Below w.heap.size w w' := by
  have hbox : Below w.heap.size w (w.alloc (.cells #[.int .i64 x.fKind, .int .i64 x.fN, .int .i64 x.fPos, .int .i64 x.fType, .string x.fSymbol, .string x.fName, .slice a6 x.fArgs.length c6] 30)) := (Below.refl _ _).alloc (Nat.le_refl _) _
  have HC := Lib.hid (impl_nodesOf (c6 := c6) x hsz 9223372036854775807 ⟨by decide, by decide⟩ (w.alloc (.cells #[.int .i64 x.fKind, .int .i64 x.fN, .int .i64 x.fPos, .int .i64 x.fType, .string x.fSymbol, .string x.fName, .slice a6 x.fArgs.length c6] 30)) (Nat.le_trans hhi hbox.size) (hs6.later hbox hhi))
  have HM := Lib.hid (nodesM_all hsz)
  have HB := Lib.hid hbox
  clear hbox hs6
  go_enter Try.func16, Try.ntmps16
  go_wp2_with fail
  refine HC.out.mono ?_
  rintro e w1 ⟨v, rfl, hown, hb1⟩
  have R1 := Lib.hid (show w1.ownsRow w.heap.size 45 8 v (nodesX x 1).length (nodeCells (nodesX x 1)) from by
    rw [HM.out] at hown
    refine ⟨hown.1, hown.2.imp id ?_⟩
    rintro ⟨g, cap, cur, h1, h2, h3⟩
    refine ⟨g, cap, cur, h1, ?_, h3⟩
    simp at h2; omega)
  have R2 := Lib.hid (HB.out.trans (hb1.mono HB.out.size))
  clear hown hb1
  go_wp2
  go_ret
  exact ⟨_, rfl, R1.out, R2.out⟩
end Go.Proofs.Ytoockfmkcjomhaa
