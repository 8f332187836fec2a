/-
  What the laws' own helpers sz.. return, and small facts for their walks.
-/
import Derived.Test.YtjlcbbaicengbaaDoorOwn
import Derived.Deep.QuietTactic
namespace Go.Proofs.YtjlcbbaicengbaaDoor
open Go.ChangeShapes Go.WideShapes Go.ChangeAt Go.RowKit Go.Deep

theorem ret_i {a b : Int} (h : a = b) : Ending.returned (Value.int .i64 a) = .returned (.int .i64 b) := by rw [h]

theorem ret_b {a b : Bool} (h : a = b) : Ending.returned (Value.bool a) = .returned (.bool b) := by rw [h]

theorem quiet_add_same {P : Program} {f : FuncId} {args : Array Value} {w : World} {a n : Nat} {v : Value}
    (h : Calls P f args (w.drewN (a + n)) fun e w' => e = .returned v ∧ w' = w.drewN (a + n)) :
    Calls P f args (w.drewN (a + n)) fun e w'' => e = .returned v ∧ ∃ m, w'' = w.drewN (a + m) :=
  h.mono fun _ _ ⟨he, hm⟩ => ⟨he, n, hm⟩

def szR (L : Int) (n : Nat) : Int := if (n : Int) ≤ L then L - n else -1
theorem szR_le {L : Int} {n : Nat} (h : (n : Int) ≤ L) : szR L n = L - n := if_pos h
theorem szR_gt {L : Int} {n : Nat} (h : L < (n : Int)) : szR L n = -1 := if_neg (by omega)

def lsz {α : Type} (f : α → Nat) (l : List α) : Nat := l.length + (l.map f).sum
def psz {α : Type} (f : α → Nat) (l : List α) (k : Nat) : Nat := ((l.take k).map f).sum
theorem psz_zero {α : Type} (f : α → Nat) (l : List α) : psz f l 0 = 0 := by unfold psz; simp
theorem psz_succ {α : Type} [Inhabited α] (f : α → Nat) (l : List α) (k : Nat) (hk : k < l.length) : psz f l (k + 1) = psz f l k + f (l.getD k default) := by
  unfold psz
  rw [List.take_succ_eq_append_getElem hk, List.map_append, List.sum_append, List.getD_eq_getElem?_getD, List.getElem?_eq_getElem hk]
  simp
theorem psz_all {α : Type} (f : α → Nat) (l : List α) : psz f l l.length = (l.map f).sum := by unfold psz; rw [List.take_length]
theorem psz_le {α : Type} (f : α → Nat) (l : List α) (k : Nat) : l.length + psz f l k ≤ lsz f l := by
  have h := congrArg (fun l => (l.map f).sum) (List.take_append_drop k l)
  unfold psz lsz
  simp only [List.map_append, List.sum_append] at h
  omega
theorem szle_at {α : Type} [Inhabited α] {f : α → Nat} (l : List α) (k : Nat) (hk : k < l.length) : f (l.getD k default) ≤ lsz f l := by
  have h1 := psz_succ f l k hk
  have h2 := psz_le f l (k + 1)
  omega
theorem lsz_zero {α : Type} (l : List α) : lsz (fun _ => 0) l = l.length := by
  unfold lsz
  induction l with
  | nil => rfl
  | cons a l ih => simp only [List.map_cons, List.sum_cons, List.length_cons] at *; omega
end Go.Proofs.YtjlcbbaicengbaaDoor
