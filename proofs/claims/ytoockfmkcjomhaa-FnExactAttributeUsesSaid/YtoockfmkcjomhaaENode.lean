/-
  The nodes of an expression in preorder: what the program's list of nodes is, and the stack of steps from which it makes it.
-/
import Derived.Test.YtoockfmkcjomhaaTExpr
import Derived.Test.YtoockfmkcjomhaaSoft
namespace Go.Proofs.Ytoockfmkcjomhaa
open Go.ChangeShapes Go.WideShapes Go.ChangeAt Go.RowKit Go.Deep

structure ENode where
  fKind : Int
  fN : Int
  fPos : Int
  fType : Int
  fSymbol : ByteArray
  fName : ByteArray
  fArgs : Nat
  fDepth : Nat
  deriving Inhabited

def ENode.vals (n : ENode) : List Value := [.int .i64 n.fKind, .int .i64 n.fN, .int .i64 n.fPos, .int .i64 n.fType, .string n.fSymbol, .string n.fName, .int .i64 n.fArgs, .int .i64 n.fDepth]

def nodeOfX (x : DExpr) (d : Nat) : ENode := ⟨x.fKind, x.fN, x.fPos, x.fType, x.fSymbol, x.fName, x.fArgs.length, d⟩

mutual
def nodesX : DExpr → Nat → List ENode
  | ⟨k, n, p, t, s, m, args⟩, d => ⟨k, n, p, t, s, m, args.length, d⟩ :: nodesL args (d + 1)
def nodesL : List DExpr → Nat → List ENode
  | [], _ => []
  | e :: es, d => nodesX e d ++ nodesL es d
end

theorem nodesX_eq (x : DExpr) (d : Nat) : nodesX x d = nodeOfX x d :: nodesL x.fArgs (d + 1) := by cases x; rfl
theorem nodesL_flat (d : Nat) : ∀ l : List DExpr, nodesL l d = l.flatMap fun e => nodesX e d
  | [] => rfl
  | e :: es => by rw [List.flatMap_cons, ← nodesL_flat d es]; rfl
/-- How many nodes there are. -/
def cntX (x : DExpr) : Nat := (nodesX x 0).length
theorem lenL (P : DExpr → Prop) (hP : ∀ x, P x → ∀ d, (nodesX x d).length = cntX x) (d : Nat) : ∀ l : List DExpr, (∀ a ∈ l, P a) → (nodesL l d).length = (l.map cntX).sum
  | [], _ => rfl
  | e :: es, h => by
    show (nodesX e d ++ nodesL es d).length = _
    rw [List.length_append, hP e (h e (List.mem_cons_self ..)), lenL P hP d es fun a ha => h a (List.mem_cons_of_mem _ ha), List.map_cons, List.sum_cons]
theorem len_nodesX : ∀ (x : DExpr) (d : Nat), (nodesX x d).length = cntX x := by
  intro x
  refine DExpr.ind (P := fun x => ∀ d, (nodesX x d).length = cntX x) (fun x ih d => ?_) x
  unfold cntX
  rw [nodesX_eq, nodesX_eq, List.length_cons, List.length_cons, lenL (fun a => ∀ d, (nodesX a d).length = cntX a) (fun _ h => h) _ _ ih, lenL (fun a => ∀ d, (nodesX a d).length = cntX a) (fun _ h => h) _ _ ih]
theorem len_nodesL (l : List DExpr) (d : Nat) : (nodesL l d).length = (l.map cntX).sum := lenL (fun _ => True) (fun x _ => len_nodesX x) d l fun _ _ => trivial
theorem cntX_eq (x : DExpr) : cntX x = (x.fArgs.map cntX).sum + 1 := by
  unfold cntX
  rw [nodesX_eq, List.length_cons, len_nodesL]
  rfl
theorem cntX_pos (x : DExpr) : 1 ≤ cntX x := by rw [cntX_eq]; omega
theorem sum_le {α : Type} (f g : α → Nat) : ∀ l : List α, (∀ a ∈ l, f a ≤ g a + 1) → (l.map f).sum ≤ l.length + (l.map g).sum
  | [], _ => Nat.le_refl _
  | a :: l, h => by
    have h1 := h a (List.mem_cons_self ..)
    have h2 := sum_le f g l fun b hb => h b (List.mem_cons_of_mem _ hb)
    rw [List.map_cons, List.map_cons, List.sum_cons, List.sum_cons, List.length_cons]
    omega
theorem cntX_le : ∀ x : DExpr, cntX x ≤ x.sz + 1 := DExpr.ind fun x ih => by
  rw [cntX_eq, DExpr.sz_eq]
  have := sum_le cntX DExpr.sz x.fArgs ih
  unfold lsz
  omega

/-! The stack of steps, the last step first. -/
structure Stp where
  b : Nat
  off : Nat
  x : DExpr
  d : Nat
  leaving : Bool

def Stp.vals (s : Stp) : List Value := [.pointer (some ⟨s.b, s.off, none⟩), .int .i64 s.d, .bool s.leaving]
def Stp.nodes (s : Stp) : List ENode := if s.leaving then [] else nodesX s.x s.d
def Stp.work (s : Stp) : Nat := if s.leaving then 1 else 2 * cntX s.x
def workOf (T : List Stp) : Nat := (T.map Stp.work).sum
def nodesOfT (T : List Stp) : List ENode := T.flatMap Stp.nodes
/-- The addresses that are to be left, the first entered one first. -/
def insideOf (T : List Stp) : List (Nat × Nat) := (T.reverse.filter Stp.leaving).map fun s => (s.b, s.off)
/-- The steps into the args of x whose row begins at off in the block b. -/
def enters (b off : Nat) (d : Nat) : Nat → List DExpr → List Stp
  | _, [] => []
  | i, e :: es => ⟨b, off + i * 7, e, d, false⟩ :: enters b off d (i + 1) es
theorem enters_len (b off d : Nat) : ∀ (l : List DExpr) (i : Nat), (enters b off d i l).length = l.length
  | [], _ => rfl
  | e :: es, i => by unfold enters; rw [List.length_cons, enters_len b off d es, List.length_cons]
theorem enters_nodes (b off d : Nat) : ∀ (l : List DExpr) (i : Nat), nodesOfT (enters b off d i l) = nodesL l d
  | [], _ => rfl
  | e :: es, i => by
    show (Stp.nodes _ ++ nodesOfT (enters b off d (i + 1) es)) = _
    rw [enters_nodes b off d es]; rfl
theorem enters_work (b off d : Nat) : ∀ (l : List DExpr) (i : Nat), workOf (enters b off d i l) = 2 * (l.map cntX).sum
  | [], _ => rfl
  | e :: es, i => by
    have h := enters_work b off d es (i + 1)
    unfold workOf at h ⊢
    unfold enters
    rw [List.map_cons, List.sum_cons, h, List.map_cons, List.sum_cons, Nat.mul_add]
    rfl
theorem enters_at (b off d : Nat) : ∀ (l : List DExpr) (i k : Nat), k < l.length → (enters b off d i l)[k]? = some ⟨b, off + (i + k) * 7, l.getD k default, d, false⟩
  | [], _, _, h => absurd h (Nat.not_lt_zero _)
  | e :: es, i, 0, _ => rfl
  | e :: es, i, k + 1, h => by
    unfold enters
    rw [List.getElem?_cons_succ, enters_at b off d es (i + 1) k (Nat.lt_of_succ_lt_succ h), show i + 1 + k = i + (k + 1) by omega]
    rfl
theorem enters_mem {b off d : Nat} {l : List DExpr} {i : Nat} {s : Stp} (h : s ∈ enters b off d i l) : ∃ k, k < l.length ∧ s = ⟨b, off + (i + k) * 7, l.getD k default, d, false⟩ := by
  obtain ⟨k, hk, hs⟩ := List.getElem_of_mem h
  rw [enters_len] at hk
  have h2 := enters_at b off d l i k hk
  rw [List.getElem?_eq_getElem (by rw [enters_len]; exact hk), hs] at h2
  exact ⟨k, hk, Option.some.inj h2⟩
theorem workOf_cons (s : Stp) (T : List Stp) : workOf (s :: T) = s.work + workOf T := by unfold workOf; rw [List.map_cons, List.sum_cons]
theorem workOf_append (S T : List Stp) : workOf (S ++ T) = workOf S + workOf T := by unfold workOf; rw [List.map_append, List.sum_append]
theorem nodesOfT_append (S T : List Stp) : nodesOfT (S ++ T) = nodesOfT S ++ nodesOfT T := by unfold nodesOfT; rw [List.flatMap_append]
theorem insideOf_cons (s : Stp) (T : List Stp) : insideOf (s :: T) = if s.leaving then insideOf T ++ [(s.b, s.off)] else insideOf T := by
  unfold insideOf
  rw [List.reverse_cons, List.filter_append, List.map_append]
  cases h : s.leaving <;> simp [h]
theorem insideOf_enters (b off d : Nat) (T : List Stp) : ∀ (l : List DExpr) (i : Nat), insideOf (enters b off d i l ++ T) = insideOf T
  | [], _ => rfl
  | e :: es, i => by
    unfold enters
    rw [List.cons_append, insideOf_cons, insideOf_enters b off d T es]
    rfl
theorem le_sum_map {α : Type} (f : α → Nat) : ∀ {l : List α} {a : α}, a ∈ l → f a ≤ (l.map f).sum
  | b :: l, a, h => by
    rw [List.map_cons, List.sum_cons]
    rcases List.mem_cons.1 h with rfl | h
    · omega
    · have := le_sum_map f h
      omega
/-- The number of nodes falls on each way down. -/
theorem sizeOf_arg {x a : DExpr} (h : a ∈ x.fArgs) : cntX a < cntX x := by
  rw [cntX_eq x]
  have := le_sum_map cntX h
  omega
end Go.Proofs.Ytoockfmkcjomhaa
